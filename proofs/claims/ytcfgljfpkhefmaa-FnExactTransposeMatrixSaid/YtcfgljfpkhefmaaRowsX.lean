/- An answer of rows that is wholly the call's own: each row in a block of its own, or all side by side in one (laws.markIntSS). No condition. -/
import Derived.Test.YtcfgljfpkhefmaaFlat
import Derived.Test.YtcfgljfpkhefmaaRowsO
namespace Go.Proofs.Ytcfgljfpkhefmaa
open Go.RowKit

def RowsX (W : World) (lo hi : Nat) (A : Option Addr) (rs : List (List Int)) : Prop :=
  RowsOwn W lo hi A rs ∨ ∃ gh g h n f, A = some ⟨gh, 0, none⟩ ∧ rs = rowsV h n id f ∧ h ≤ 1000 ∧ n ≤ 1000 ∧ RowsF W lo hi gh g h n id f
theorem RowsX.within {W W' : World} {lo hi lo' hi' : Nat} {A : Option Addr} {rs : List (List Int)} (h : RowsX W lo hi A rs) (hw : Within lo' hi' W W') (hd : hi ≤ lo' ∨ hi' ≤ lo) : RowsX W' lo hi A rs := by
  rcases h with h | ⟨gh, g, h1, n, f, e1, e2, e3, e4, r⟩
  · exact .inl (h.within hw hd)
  · exact .inr ⟨gh, g, h1, n, f, e1, e2, e3, e4, r.within hw hd⟩
theorem RowsX.reads {W : World} {lo hi : Nat} {A : Option Addr} {rs : List (List Int)} (h : RowsX W lo hi A rs) : RowsIn W lo hi A rs := by
  rcases h with h | ⟨gh, g, h1, n, f, rfl, rfl, e3, e4, r⟩
  · exact h.reads
  · exact r.reads
theorem rowsV_tot (h n : Nat) (p : Nat → Nat) (f : Nat → Int) : ∀ j, j ≤ h → tot (rowsV h n p f) j = j * n := by
  intro j
  induction j with
  | zero => intro _; simp [tot]
  | succ j ih =>
    intro hj
    rw [tot, ih (by omega), rowsV_get (by omega), rowF_len, Nat.add_mul, Nat.one_mul]
theorem rowsV_marks (k0 : Int) (h n : Nat) (f : Nat → Int) : marksR k0 (rowsV h n id f) = rowsV h n id (fun i => k0 + (i : Int)) := by
  unfold marksR
  rw [rowsV_len]
  apply List.map_congr_left
  intro j hj
  have hj' := List.mem_range.1 hj
  rw [rowsV_tot h n id f j (by omega), rowsV_get hj', rowF_len]
  unfold marksI rowF
  apply List.map_congr_left
  intro i _
  show k0 + ((j * n : Nat) : Int) + (i : Int) = k0 + ((id j * n + i : Nat) : Int)
  simp only [id]
  omega
theorem markRowsX_c (rs : List (List Int)) (A : Option Addr) (cap lo hi : Nat) (k0 : Int) (w : World) (h : RowsX w lo hi A rs) (hn : rs.length ≤ 1048576) (hr : ∀ k, k < rs.length → (rs.getD k []).length ≤ 1048576) (hk0 : 0 ≤ k0) (hk1 : k0 + (tot rs rs.length : Int) ≤ 10000000) :
    Calls Try.prog 23 #[.slice A rs.length cap, .int .i64 k0] w fun e w' => e = .returned (.int .i64 (k0 + (tot rs rs.length : Int))) ∧ Within lo hi w w' ∧ RowsX w' lo hi A (marksR k0 rs) := by
  rcases h with h | ⟨gh, g, h1, n, f, rfl, rfl, e3, e4, r⟩
  · refine (markRows_c rs A cap lo hi k0 w h hn hr hk0 hk1).mono ?_
    rintro e w1 ⟨rfl, q1, q2⟩
    exact ⟨rfl, q1, .inl q2⟩
  · rw [rowsV_len] at hk1 ⊢
    rw [rowsV_tot h1 n id f h1 (Nat.le_refl _)] at hk1 ⊢
    refine (markRowsF_c h1 n gh g lo hi cap f k0 w r e3 e4 hk0 hk1).mono ?_
    rintro e w1 ⟨rfl, q1, q2⟩
    exact ⟨rfl, q1, .inr ⟨gh, g, h1, n, _, rfl, rowsV_marks k0 h1 n f, e3, e4, q2⟩⟩
end Go.Proofs.Ytcfgljfpkhefmaa
