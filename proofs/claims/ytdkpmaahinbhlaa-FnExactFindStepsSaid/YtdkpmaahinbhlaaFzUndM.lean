/- Memory of spec.l7Undo: the graph's box, the two answers' boxes, the neighbours, what is left; the first step found. No condition. -/
import Derived.Test.YtdkpmaahinbhlaaFzCel5
import Derived.Test.YtdkpmaahinbhlaaFzB2
import Derived.Test.YtdkpmaahinbhlaaFzDropS
import Derived.Test.YtdkpmaahinbhlaaFzPut
import Derived.Test.YtdkpmaahinbhlaaFzB1
import Derived.Test.YtdkpmaahinbhlaaFzFndO
namespace Go.Proofs.Ytdkpmaahinbhlaa
open Go.RowKit

theorem fstN_first {α : Type} {f : Nat → Option α} {x : α} {j : Nat} (h0 : fstN f j = none) (h : f j = some x) : ∀ n, j < n → fstN f n = some x := by
  intro n
  induction n with
  | zero => intro hj; omega
  | succ n ih =>
    intro hj
    by_cases c : j = n
    · subst c
      unfold fstN
      rw [h0]
      exact h
    · unfold fstN
      rw [ih (by omega)]
theorem fstN_miss {α : Type} {f : Nat → Option α} {j : Nat} (h0 : fstN f j = none) (h : f j = none) : fstN f (j + 1) = none := by
  unfold fstN
  rw [h0]
  exact h
section
variable {p : Int} {l : List (Int × Int)} {x : Stp × List (Int × Int)} {j k : Nat}
theorem undo_hit2 (hx : undoF p l = some x) (hj : (j : Int) < p) (h0 : fstN (fun v => undo2 (v : Int) l) j = none) {a b : Int} (h : nearL (j : Int) l = [a, b]) : x = ((1, (j : Int), a, b, 0), offI (j : Int) l) := by
  have h1 : undo2 (j : Int) l = some ((1, (j : Int), a, b, 0), offI (j : Int) l) := by
    unfold undo2
    rw [h]
    rfl
  have h2 := fstN_first (f := fun v => undo2 (v : Int) l) h0 h1 p.toNat (by omega)
  unfold undoF at hx
  rw [h2] at hx
  exact (Option.some.inj hx).symm
theorem undo_miss2 (h0 : fstN (fun v => undo2 (v : Int) l) j = none) (h : (nearL (j : Int) l).length ≠ 2) : fstN (fun v => undo2 (v : Int) l) (j + 1) = none :=
  fstN_miss h0 (by show undo2 (j : Int) l = none; unfold undo2; rw [if_neg h])
theorem undo_hit3 (hx : undoF p l = some x) (h2 : fstN (fun v => undo2 (v : Int) l) p.toNat = none) (hj : (j : Int) < p) (h0 : fstN (fun v => undo3 p (v : Int) l) j = none) (h3 : (nearL (j : Int) l).length = 3) (hk : k < 3) (hk0 : fstN (undo3i p (j : Int) l) k = none) (hs : sparseB p 2 3 (join3 (j : Int) l k) = true) :
    x = ((2, (j : Int), min ((nearL (j : Int) l).getD k 0) ((nearL (j : Int) l).getD ((k + 1) % 3) 0), max ((nearL (j : Int) l).getD k 0) ((nearL (j : Int) l).getD ((k + 1) % 3) 0), (nearL (j : Int) l).getD ((k + 2) % 3) 0), join3 (j : Int) l k) := by
  have h4 : undo3i p (j : Int) l k = some ((2, (j : Int), min ((nearL (j : Int) l).getD k 0) ((nearL (j : Int) l).getD ((k + 1) % 3) 0), max ((nearL (j : Int) l).getD k 0) ((nearL (j : Int) l).getD ((k + 1) % 3) 0), (nearL (j : Int) l).getD ((k + 2) % 3) 0), join3 (j : Int) l k) := by
    unfold undo3i
    rw [if_pos hs]
  have h5 := fstN_first hk0 h4 3 hk
  have h6 : undo3 p (j : Int) l = fstN (undo3i p (j : Int) l) 3 := by
    unfold undo3
    rw [if_pos h3]
  rw [h5] at h6
  have h7 := fstN_first (f := fun v => undo3 p (v : Int) l) h0 h6 p.toNat (by omega)
  unfold undoF at hx
  rw [h2] at hx
  dsimp only at hx
  rw [h7] at hx
  exact (Option.some.inj hx).symm
theorem undo_miss3i (hk0 : fstN (undo3i p (j : Int) l) k = none) (hs : sparseB p 2 3 (join3 (j : Int) l k) = false) : fstN (undo3i p (j : Int) l) (k + 1) = none :=
  fstN_miss hk0 (by unfold undo3i; rw [if_neg (by rw [hs]; simp)])
theorem undo_miss3 (h0 : fstN (fun v => undo3 p (v : Int) l) j = none) (h : (nearL (j : Int) l).length ≠ 3) : fstN (fun v => undo3 p (v : Int) l) (j + 1) = none :=
  fstN_miss h0 (by show undo3 p (j : Int) l = none; unfold undo3; rw [if_neg h])
theorem undo_miss3' (h0 : fstN (fun v => undo3 p (v : Int) l) j = none) (h3 : (nearL (j : Int) l).length = 3) (hk : fstN (undo3i p (j : Int) l) 3 = none) : fstN (fun v => undo3 p (v : Int) l) (j + 1) = none :=
  fstN_miss h0 (by show undo3 p (j : Int) l = none; unfold undo3; rw [if_pos h3]; exact hk)
theorem undo_end (hx : undoF p l = some x) (h2 : fstN (fun v => undo2 (v : Int) l) p.toNat = none) (h3 : fstN (fun v => undo3 p (v : Int) l) p.toNat = none) : False := by
  unfold undoF at hx
  rw [h2] at hx
  dsimp only at hx
  rw [h3] at hx
  cases hx
end
/-- What l7Undo answers where there is a step. -/
def UndR (w : World) (p : Int) (x : Stp × List (Int × Int)) (e : Ending) (w' : World) : Prop :=
  ∃ A cap, e = .returned (.tuple #[.agg #[.int .i64 p, .slice A x.2.length cap], .agg #[.int .i64 x.1.1, .int .i64 x.1.2.1, .int .i64 x.1.2.2.1, .int .i64 x.1.2.2.2.1, .int .i64 x.1.2.2.2.2], .bool true]) ∧ BarsAt w' w'.heap.size A x.2 ∧ Below w.heap.size w w'
structure UnI (V w : World) (p : Int) (A : Option Addr) (cap : Nat) (l : List (Int × Int)) (u v s0 s1 s2 s3 s4 : Value) : Prop where
  gr : Cel2 w V.heap.size 26 (.int .i64 p) (.slice A l.length cap)
  r2 : Cel2 w (V.heap.size + 1) 26 u v
  r3 : Cel5 w (V.heap.size + 2) 155 s0 s1 s2 s3 s4
  bars : BarsIn w 0 V.heap.size A l
  bel : Below V.heap.size V w
abbrev UnZ (V w : World) (p : Int) (A : Option Addr) (cap : Nat) (l : List (Int × Int)) : Prop := UnI V w p A cap l (.int .i64 0) (.slice none 0 0) (.int .i64 0) (.int .i64 0) (.int .i64 0) (.int .i64 0) (.int .i64 0)
section
variable {V w w' : World} {p : Int} {A : Option Addr} {cap : Nat} {l : List (Int × Int)} {u v s0 s1 s2 s3 s4 : Value}
theorem UnI.below (h : UnI V w p A cap l u v s0 s1 s2 s3 s4) (hb : Below w.heap.size w w') : UnI V w' p A cap l u v s0 s1 s2 s3 s4 :=
  ⟨h.gr.kept hb, h.r2.kept hb, h.r3.kept hb, h.bars.within (within_of hb) (.inr (Nat.zero_le _)), below_on h.bel hb h.bel.size⟩
theorem UnI.at (h : UnI V w p A cap l u v s0 s1 s2 s3 s4) : BarsAt w w.heap.size A l := h.bars.at
theorem UnI.lt (h : UnI V w p A cap l u v s0 s1 s2 s3 s4) : V.heap.size + 3 ≤ w.heap.size := by have := h.r3.lt; omega
theorem UnI.set2 (h : UnI V w p A cap l u v s0 s1 s2 s3 s4) (a b : Value) : UnI V ((w.setCell ⟨V.heap.size + 1, 0, none⟩ a).setCell ⟨V.heap.size + 1, 1, none⟩ b) p A cap l a b s0 s1 s2 s3 s4 ∧ Within (V.heap.size + 1) (V.heap.size + 3) w ((w.setCell ⟨V.heap.size + 1, 0, none⟩ a).setCell ⟨V.heap.size + 1, 1, none⟩ b) := by
  obtain ⟨h1, h2⟩ := ret2 h.r2 a b
  exact ⟨⟨h.gr.within h2 (.inl (by omega)), h1, h.r3.within h2 (.inr (by omega)), h.bars.within h2 (.inl (by omega)), within_on h.bel h2 h.bel.size (.inl (by omega))⟩, h2.widen (.inr (by omega))⟩
theorem UnI.set3 (h : UnI V w p A cap l u v s0 s1 s2 s3 s4) (a b c d e : Value) : UnI V (((((w.setCell ⟨V.heap.size + 2, 0, none⟩ a).setCell ⟨V.heap.size + 2, 1, none⟩ b).setCell ⟨V.heap.size + 2, 2, none⟩ c).setCell ⟨V.heap.size + 2, 3, none⟩ d).setCell ⟨V.heap.size + 2, 4, none⟩ e) p A cap l u v a b c d e ∧ Within (V.heap.size + 1) (V.heap.size + 3) w (((((w.setCell ⟨V.heap.size + 2, 0, none⟩ a).setCell ⟨V.heap.size + 2, 1, none⟩ b).setCell ⟨V.heap.size + 2, 2, none⟩ c).setCell ⟨V.heap.size + 2, 3, none⟩ d).setCell ⟨V.heap.size + 2, 4, none⟩ e) := by
  obtain ⟨h1, h2⟩ := ret5 h.r3 a b c d e
  exact ⟨⟨h.gr.within h2 (.inl (by omega)), h.r2.within h2 (.inl (by omega)), h1, h.bars.within h2 (.inl (by omega)), within_on h.bel h2 h.bel.size (.inl (by omega))⟩, h2.widen (.inr (by omega))⟩
theorem unI_new (w : World) (p : Int) (A : Option Addr) (cap : Nat) (l : List (Int × Int)) (hl : BarsAt w w.heap.size A l) : UnZ w (((w.alloc (.cells #[.int .i64 p, .slice A l.length cap] 26)).alloc (.cells #[.int .i64 0, .slice none 0 0] 26)).alloc (.cells #[.int .i64 0, .int .i64 0, .int .i64 0, .int .i64 0, .int .i64 0] 155)) p A cap l := by
  have hA1 := new_below w (.cells #[.int .i64 p, .slice A l.length cap] 26)
  have hA2 := new_below (w.alloc (.cells #[.int .i64 p, .slice A l.length cap] 26)) (.cells #[.int .i64 0, .slice none 0 0] 26)
  have hA3 := new_below ((w.alloc (.cells #[.int .i64 p, .slice A l.length cap] 26)).alloc (.cells #[.int .i64 0, .slice none 0 0] 26)) (.cells #[.int .i64 0, .int .i64 0, .int .i64 0, .int .i64 0, .int .i64 0] 155)
  have g1 := cel2_new w (.int .i64 p) (.slice A l.length cap) 26
  have g2 := cel2_new (w.alloc (.cells #[.int .i64 p, .slice A l.length cap] 26)) (.int .i64 0) (.slice none 0 0) 26
  have g3 := cel5_new ((w.alloc (.cells #[.int .i64 p, .slice A l.length cap] 26)).alloc (.cells #[.int .i64 0, .slice none 0 0] 26)) (.int .i64 0) (.int .i64 0) (.int .i64 0) (.int .i64 0) (.int .i64 0) 155
  have e1 : (w.alloc (.cells #[.int .i64 p, .slice A l.length cap] 26)).heap.size = w.heap.size + 1 := by simp
  have e2 : ((w.alloc (.cells #[.int .i64 p, .slice A l.length cap] 26)).alloc (.cells #[.int .i64 0, .slice none 0 0] 26)).heap.size = w.heap.size + 2 := by simp
  rw [e1] at g2
  rw [e2] at g3
  have z : ∀ {a b : World}, Below a.heap.size a b → ∀ {A : Option Addr} {l : List (Int × Int)} {hi : Nat}, BarsIn a 0 hi A l → BarsIn b 0 hi A l := fun hb _ _ _ h => h.within (within_of hb) (.inr (Nat.zero_le _))
  exact ⟨(g1.kept hA2).kept hA3, g2.kept hA3, g3, z hA3 (z hA2 (z hA1 (bars_in hl))), below_on (below_on hA1 hA2 hA1.size) hA3 (below_on hA1 hA2 hA1.size).size⟩
/-- A row of numbers behind the three boxes. -/
def NrI (V w : World) (A : Option Addr) (zs : List Int) : Prop := ∃ hi, IntsIn w (V.heap.size + 3) hi A zs
theorem NrI.below {A : Option Addr} {zs : List Int} (h : NrI V w A zs) (hb : Below w.heap.size w w') : NrI V w' A zs := by
  obtain ⟨hi, h⟩ := h
  exact ⟨hi, h.within (within_of hb) (.inr (Nat.zero_le _))⟩
theorem NrI.set {A : Option Addr} {zs : List Int} (h : NrI V w A zs) (hb : Within (V.heap.size + 1) (V.heap.size + 3) w w') : NrI V w' A zs := by
  obtain ⟨hi, h⟩ := h
  exact ⟨hi, h.within hb (.inr (Nat.le_refl _))⟩
theorem NrI.cell {g o : Nat} {zs : List Int} (h : NrI V w (some ⟨g, o, none⟩) zs) {k : Nat} (hk : k < zs.length) : w.cell? ⟨g, o + k, none⟩ = some (.int .i64 (zs.getD k 0)) := by
  obtain ⟨hi, h⟩ := h
  obtain ⟨b, off, e, _, _, hc⟩ := h.2 (by omega)
  cases e
  exact hc k hk
theorem NrI.addr {A : Option Addr} {zs : List Int} (h : NrI V w A zs) (hz : 0 < zs.length) : ∃ g o, A = some ⟨g, o, none⟩ := by
  obtain ⟨hi, h⟩ := h
  obtain ⟨b, off, e, _, _, hc⟩ := h.2 hz
  exact ⟨b, off, e⟩
/-- Bars behind the three boxes. -/
def DrI (V w : World) (A : Option Addr) (l : List (Int × Int)) : Prop := ∃ hi, BarsIn w (V.heap.size + 3) hi A l
theorem DrI.below {A : Option Addr} {l : List (Int × Int)} (h : DrI V w A l) (hb : Below w.heap.size w w') : DrI V w' A l := by
  obtain ⟨hi, h⟩ := h
  exact ⟨hi, h.within (within_of hb) (.inr (Nat.zero_le _))⟩
theorem DrI.set {A : Option Addr} {l : List (Int × Int)} (h : DrI V w A l) (hb : Within (V.heap.size + 1) (V.heap.size + 3) w w') : DrI V w' A l := by
  obtain ⟨hi, h⟩ := h
  exact ⟨hi, h.within hb (.inr (Nat.le_refl _))⟩
theorem DrI.at {A : Option Addr} {l : List (Int × Int)} (h : DrI V w A l) : BarsAt w w.heap.size A l := by
  obtain ⟨hi, h⟩ := h
  exact h.at
theorem drI_own {A : Option Addr} {c : Nat} {l : List (Int × Int)} (hV : V.heap.size + 3 ≤ w.heap.size) (h : OwnIn w' w.heap.size w'.heap.size A c l) : DrI V w' A l := by
  have h1 := h.bars
  exact ⟨_, h1.1, fun hl => by obtain ⟨b, off, e, h2, h3, hc⟩ := h1.2 hl; exact ⟨b, off, e, by omega, h3, hc⟩⟩
theorem nrI_own {A : Option Addr} {c : Nat} {zs : List Int} (hV : V.heap.size + 3 ≤ w.heap.size) (h : OwnInts w' w.heap.size w'.heap.size A c zs) : NrI V w' A zs := by
  have h1 := h.reads
  exact ⟨_, h1.1, fun hl => by obtain ⟨b, off, e, h2, h3, hc⟩ := h1.2 hl; exact ⟨b, off, e, by omega, h3, hc⟩⟩
end
theorem two_of {zs : List Int} (h : zs.length = 2) : ∃ a b, zs = [a, b] := by
  match zs, h with
  | [a, b], _ => exact ⟨a, b, rfl⟩
theorem three_of {zs : List Int} (h : zs.length = 3) : ∃ a b c, zs = [a, b, c] := by
  match zs, h with
  | [a, b, c], _ => exact ⟨a, b, c, rfl⟩
end Go.Proofs.Ytdkpmaahinbhlaa
