/- Rows of steps as the laws read, compare, mark and count them. No condition. -/
import Derived.Test.YtdkpmaahinbhlaaFzFndW
import Derived.Test.YtdkpmaahinbhlaaFzB1
namespace Go.Proofs.Ytdkpmaahinbhlaa
open Go.RowKit

/-- The steps l lie in a block from lo to hi. -/
def StpsIn (W : World) (lo hi : Nat) (A : Option Addr) (l : List Stp) : Prop :=
  hi ≤ W.heap.size ∧ (0 < l.length → ∃ b off, A = some ⟨b, off, none⟩ ∧ lo ≤ b ∧ b < hi ∧ ∀ k, k < l.length → W.cell? ⟨b, off + k * 5, none⟩ = some (.int .i64 (l.getD k zS).1) ∧ W.cell? ⟨b, off + k * 5 + 1, none⟩ = some (.int .i64 (l.getD k zS).2.1) ∧ W.cell? ⟨b, off + k * 5 + 2, none⟩ = some (.int .i64 (l.getD k zS).2.2.1) ∧ W.cell? ⟨b, off + k * 5 + 3, none⟩ = some (.int .i64 (l.getD k zS).2.2.2.1) ∧ W.cell? ⟨b, off + k * 5 + 4, none⟩ = some (.int .i64 (l.getD k zS).2.2.2.2))
theorem StpsIn.within {W W' : World} {lo hi lo' hi' : Nat} {A : Option Addr} {l : List Stp} (h : StpsIn W lo hi A l) (hw : Within lo' hi' W W') (hd : hi ≤ lo' ∨ hi' ≤ lo) : StpsIn W' lo hi A l :=
  ⟨Nat.le_trans h.1 hw.size, fun hl => by
    obtain ⟨b, off, e, h1, h2, hc⟩ := h.2 hl
    have hk := hw.block b (Nat.lt_of_lt_of_le h2 h.1) (by omega)
    exact ⟨b, off, e, h1, h2, fun k hk' => ⟨(World.cell?_of_block (a := ⟨b, off + k * 5, none⟩) hk).trans (hc k hk').1, (World.cell?_of_block (a := ⟨b, off + k * 5 + 1, none⟩) hk).trans (hc k hk').2.1, (World.cell?_of_block (a := ⟨b, off + k * 5 + 2, none⟩) hk).trans (hc k hk').2.2.1, (World.cell?_of_block (a := ⟨b, off + k * 5 + 3, none⟩) hk).trans (hc k hk').2.2.2.1, (World.cell?_of_block (a := ⟨b, off + k * 5 + 4, none⟩) hk).trans (hc k hk').2.2.2.2⟩⟩⟩
theorem StpsIn.at {W : World} {lo hi : Nat} {A : Option Addr} {l : List Stp} (h : StpsIn W lo hi A l) : StepsAt W W.heap.size A l := fun hl => by
  obtain ⟨b, off, e, h1, h2, hc⟩ := h.2 hl
  exact ⟨b, off, e, Nat.lt_of_lt_of_le h2 h.1, hc⟩
theorem stps_in {W : World} {A : Option Addr} {l : List Stp} (h : StepsAt W W.heap.size A l) : StpsIn W 0 W.heap.size A l :=
  ⟨Nat.le_refl _, fun hl => by obtain ⟨b, off, e, h1, hc⟩ := h hl; exact ⟨b, off, e, Nat.zero_le _, h1, hc⟩⟩
theorem OwnSt.within {W W' : World} {lo hi lo' hi' c : Nat} {S : Option Addr} {V : List Stp} (h : OwnSt W lo hi S c V) (hw : Within lo' hi' W W') (hd : hi ≤ lo' ∨ hi' ≤ lo) : OwnSt W' lo hi S c V := by
  obtain ⟨h1, h2⟩ := h
  refine ⟨Nat.le_trans h1 hw.size, ?_⟩
  rcases h2 with h2 | ⟨g, rfl, g1, g2, h2⟩
  · exact .inl h2
  · exact .inr ⟨g, rfl, g1, g2, own_block h2 (hw.block g (Nat.lt_of_lt_of_le g2 h1) (by omega))⟩
theorem OwnSt.reads {W : World} {lo hi c : Nat} {S : Option Addr} {V : List Stp} (h : OwnSt W lo hi S c V) : StpsIn W lo hi S V :=
  ⟨h.1, fun hl => by
    rcases h.2 with h2 | ⟨g, rfl, g1, g2, h2⟩
    · rw [h2] at hl; simp at hl
    · obtain ⟨b, off, e, _, hc⟩ := own_steps h2 hl
      cases e
      exact ⟨g, 0, rfl, g1, g2, hc⟩⟩
theorem markSteps_nil (A : Option Addr) (cap : Nat) (k : Int) (w : World) :
    Calls Try.prog 84 #[.slice A 0 cap, .int .i64 k] w fun e w' => e = .returned (.int .i64 k) ∧ w = w' := by
  go_enter Try.func84, Try.ntmps84
  go_wp2_with fail
  refine wp_loop_rounds 1 ?_
  rw [rounds_succ]
  go_wp2_with fail
  go_ret
  exact ⟨rfl, rfl⟩
theorem markSt_o (S : Option Addr) (c : Nat) (V : List Stp) (k : Int) (lo hi : Nat) (w : World) (h : OwnSt w lo hi S c V) (hn : V.length ≤ 1048576) (hk0 : 0 ≤ k) (hk1 : k ≤ 10000000) :
    Calls Try.prog 84 #[.slice S V.length c, .int .i64 k] w fun e w' => e = .returned (.int .i64 (k + 5 * (V.length : Int))) ∧ Within lo hi w w' ∧ OwnSt w' lo hi S c (marksS k V.length) := by
  rcases h.2 with rfl | ⟨g, rfl, g1, g2, h2⟩
  · refine (markSteps_nil S c k w).mono ?_
    rintro e w' ⟨rfl, rfl⟩
    exact ⟨by simp, Within.refl _ _ _, h.1, .inl rfl⟩
  · refine (markSteps_c g V c k lo w h2 hn hk0 hk1).mono ?_
    rintro e w' ⟨rfl, ho, hg⟩
    refine ⟨rfl, ⟨hg.os, hg.tape, hg.output, hg.size, fun j hj hd => hg.block j hj (by simp; omega)⟩, Nat.le_trans h.1 hg.size, .inr ⟨g, rfl, g1, g2, ?_⟩⟩
    rw [marksS_len]
    exact ho
theorem heldSt_c (n : Nat) (S : Option Addr) (c : Nat) (k : Int) (lo hi : Nat) (w : World) (h : StpsIn w lo hi S (marksS k n)) (hn : n ≤ 1048576) (hk0 : 0 ≤ k) (hk1 : k ≤ 10000000) :
    Calls Try.prog 85 #[.slice S n c, .int .i64 k] w fun e w' => e = .returned (.int .i64 (k + 5 * (n : Int))) ∧ Below w.heap.size w w' := by
  refine (heldSteps_c n S c k w.heap.size w h.at hn hk0 hk1).mono ?_
  rintro e w' ⟨rfl, rfl⟩
  exact ⟨rfl, Below.refl _ _⟩
end Go.Proofs.Ytdkpmaahinbhlaa
