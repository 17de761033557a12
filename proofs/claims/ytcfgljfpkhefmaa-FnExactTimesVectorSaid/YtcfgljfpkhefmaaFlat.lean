/- Rows of numbers that lie side by side in one block: how they are read, written and marked (laws.markIntS, markIntSS). No condition. -/
import Derived.Test.YtcfgljfpkhefmaaRowsG
import Derived.Test.YtcfgljfpkhefmaaRedM
namespace Go.Proofs.Ytcfgljfpkhefmaa
open Go.RowKit

/-- The block g holds the N numbers f. -/
def FlatAt (W : World) (g N : Nat) (f : Nat → Int) : Prop := W.ownsRow g 3 1 (.slice (some ⟨g, 0, none⟩) N N) N (intCells (rowF N f))
theorem rowF_set {N i : Nat} {f : Nat → Int} (_h : i < N) (x : Int) : (intCells (rowF N f)).set i (.int .i64 x) = intCells (rowF N fun t => if t = i then x else f t) := by
  unfold intCells
  rw [← List.map_set]
  congr 1
  apply List.ext_getElem (by simp [rowF_len])
  intro j h1 h2
  rw [List.getElem_set, rowF_get, rowF_get]
  by_cases e : i = j
  · subst e; simp
  · rw [if_neg e, if_neg (fun h => e h.symm)]
theorem FlatAt.cell {W : World} {g N : Nat} {f : Nat → Int} (h : FlatAt W g N f) {i : Nat} (hi : i < N) : W.cell? ⟨g, i, none⟩ = some (.int .i64 (f i)) := by
  have := (World.ownsRow.cellAt h i (by omega)).trans (intCells_get _ i (by rw [rowF_len]; exact hi))
  rw [rowF_getD hi] at this
  exact this
theorem FlatAt.lt {W : World} {g N : Nat} {f : Nat → Int} (h : FlatAt W g N f) : g < W.heap.size := (World.ownsRow.lt h g rfl).2
theorem FlatAt.congr {W : World} {g N : Nat} {f f' : Nat → Int} (h : FlatAt W g N f) (e : ∀ i, i < N → f i = f' i) : FlatAt W g N f' := by
  unfold FlatAt at h ⊢
  rw [← rowF_congr e]; exact h
theorem FlatAt.within {W W' : World} {g N a b : Nat} {f : Nat → Int} (h : FlatAt W g N f) (hw : Within a b W W') (hd : g < a ∨ b ≤ g) : FlatAt W' g N f := by
  have hl := h.lt
  have ho : OwnInts W g (g + 1) (some ⟨g, 0, none⟩) N (rowF N f) := ⟨hl, .inr ⟨g, rfl, Nat.le_refl _, Nat.lt_succ_self _, by unfold FlatAt at h; rw [rowF_len]; exact h⟩⟩
  have ho2 := ho.within hw (by omega)
  rcases ho2.2 with h0 | ⟨g', e, h1, h2, h3⟩
  · have hN : N = 0 := by have := congrArg List.length h0; rw [rowF_len] at this; exact this
    subst hN
    unfold FlatAt at h ⊢
    obtain ⟨l1, l2⟩ := h
    refine ⟨l1, ?_⟩
    rcases l2 with l2 | ⟨g2, c2, cur, e1, e2, e3, e4⟩
    · cases l2.1
    · cases e1
      exact .inr ⟨g, 0, cur, rfl, Nat.le_refl _, (hw.block g hl (by omega)).trans e3, e4⟩
  · cases e
    rw [rowF_len] at h3
    exact h3
theorem FlatAt.ints {W : World} {g N off n : Nat} {f : Nat → Int} (h : FlatAt W g N f) (hn : off + n ≤ N) {lo hi : Nat} (h1 : lo ≤ g) (h2 : g < hi) (h3 : hi ≤ W.heap.size) : IntsIn W lo hi (some ⟨g, off, none⟩) (rowF n fun j => f (off + j)) :=
  ⟨h3, fun _ => ⟨g, off, rfl, h1, h2, fun k hk => by
    rw [rowF_len] at hk
    rw [rowF_getD hk]
    exact h.cell (by omega)⟩⟩

set_option maxHeartbeats 1000000 in
set_option maxRecDepth 100000 in
theorem markFlat_c (g N off n cap : Nat) (f : Nat → Int) (k : Int) (w : World) (h : FlatAt w g N f) (hN : off + n ≤ N) (hn : n ≤ 1048576) (hk0 : 0 ≤ k) (hk1 : k ≤ 10000000) :
    Calls Try.prog 31 #[.slice (some ⟨g, off, none⟩) n cap, .int .i64 k] w fun e w' => e = .returned (.int .i64 (k + (n : Int))) ∧ FlatAt w' g N (fun i => if off ≤ i ∧ i < off + n then k + ((i - off : Nat) : Int) else f i) ∧ w.grownBy w' (some g) := by
  have HO := Lib.hid h
  clear h
  go_enter Try.func31, Try.ntmps31
  go_wp2_with fail
  go_loopw [1, 5] (fun m i wr => ∃ j : Nat, j ≤ n ∧ i = .int .i64 j ∧ m = .int .i64 (k + (j : Int)) ∧ FlatAt wr g N (fun i => if off ≤ i ∧ i < off + j then k + ((i - off : Nat) : Int) else f i) ∧ w.grownBy wr (some g)) (fun _ i _ => n - (intOf i).toNat)
  case atStart => exact ⟨0, by omega, rfl, by simp, HO.out.congr fun i _ => (if_neg (by omega)).symm, World.grownBy.refl _ _⟩
  case round =>
    obtain ⟨j, hj, rfl, rfl, hown, hg⟩ := hrel
    have HG := Lib.hid hg
    clear hg
    by_cases hlt : j < n
    · have hi : (j : Int) < (n : Int) := by omega
      have hd1 := hown.cell (i := off + j) (by omega)
      have hf1 := World.ownsRow.frozenAt hown (off + j)
      have hst1 := World.ownsRow.stored hown (off + j) (.int .i64 (k + (j : Int)))
      have HG2 := Lib.hid (HG.out.trans_ hst1.2)
      have hst3 := hst1.1
      rw [rowF_set (by omega)] at hst3
      have HST := Lib.hid (FlatAt.congr (f' := fun i => if off ≤ i ∧ i < off + (j + 1) then k + ((i - off : Nat) : Int) else f i) hst3 fun i _ => by
        by_cases e : i = off + j
        · subst e
          rw [if_pos rfl, if_pos (by omega), Nat.add_sub_cancel_left]
        · rw [if_neg e]
          by_cases e2 : off ≤ i ∧ i < off + j
          · rw [if_pos e2, if_pos (by omega)]
          · rw [if_neg e2, if_neg (by omega)])
      clear hst1 hst3 hown
      go_wp2_with fail
      go_roundw
      case rel => exact ⟨j + 1, by omega, by go_num, by go_num, HST.out, HG2.out⟩
      case measure => simp [intOf]; omega
    · obtain rfl : j = n := by omega
      go_wp2_with fail
      go_ret
      exact ⟨rfl, hown, HG.out⟩

/-- h rows of n numbers each, side by side in the block g in the order p; their row lies in the block gh. -/
structure RowsF (W : World) (lo hi gh g h n : Nat) (p : Nat → Nat) (f : Nat → Int) : Prop where
  top : hi ≤ W.heap.size
  hd : lo ≤ gh ∧ gh < hi
  nm : lo ≤ g ∧ g < hi
  ne : gh ≠ g
  per : ∀ i, i < h → p i < h
  row : W.ownsRow gh 28 1 (.slice (some ⟨gh, 0, none⟩) h h) h ((List.range h).map fun i => .slice (some ⟨g, p i * n, none⟩) n n)
  num : FlatAt W g (h * n) f
theorem at_row {h n i j : Nat} (hi : i < h) (hj : j < n) : i * n + j < h * n := by
  have h1 : i * n + n ≤ h * n := by
    have := Nat.mul_le_mul_right n (show i + 1 ≤ h from hi)
    rw [Nat.add_mul, Nat.one_mul] at this
    exact this
  omega
theorem RowsF.head {W : World} {lo hi gh g h n : Nat} {p : Nat → Nat} {f : Nat → Int} (r : RowsF W lo hi gh g h n p f) {i : Nat} (hi' : i < h) : W.cell? ⟨gh, i, none⟩ = some (.slice (some ⟨g, p i * n, none⟩) n n) := by
  have := World.ownsRow.cellAt r.row i (by omega)
  rw [List.getElem?_map, List.getElem?_range hi'] at this
  exact this
theorem RowsF.within {W W' : World} {lo hi gh g h n a b : Nat} {p : Nat → Nat} {f : Nat → Int} (r : RowsF W lo hi gh g h n p f) (hw : Within a b W W') (hd : hi ≤ a ∨ b ≤ lo) : RowsF W' lo hi gh g h n p f := by
  have h1 := r.hd
  have h2 := r.nm
  have ht := r.top
  refine ⟨Nat.le_trans ht hw.size, h1, h2, r.ne, r.per, ?_, r.num.within hw (by omega)⟩
  have hr := r.row
  obtain ⟨l1, l2⟩ := hr
  refine ⟨l1, ?_⟩
  rcases l2 with l2 | ⟨g2, c2, cur, e1, e2, e3, e4⟩
  · cases l2.1
  · cases e1
    exact .inr ⟨gh, h, cur, rfl, Nat.le_refl _, (hw.block gh (by omega) (by omega)).trans e3, e4⟩
/-- The rows, read. -/
def rowsV (h n : Nat) (p : Nat → Nat) (f : Nat → Int) : List (List Int) := (List.range h).map fun i => rowF n fun j => f (p i * n + j)
theorem rowsV_len (h n : Nat) (p : Nat → Nat) (f : Nat → Int) : (rowsV h n p f).length = h := by simp [rowsV]
theorem rowsV_get {h n i : Nat} {p : Nat → Nat} {f : Nat → Int} (hi : i < h) : (rowsV h n p f).getD i [] = rowF n fun j => f (p i * n + j) := by simp [rowsV, List.getD, hi]
theorem RowsF.reads {W : World} {lo hi gh g h n : Nat} {p : Nat → Nat} {f : Nat → Int} (r : RowsF W lo hi gh g h n p f) : RowsIn W lo hi (some ⟨gh, 0, none⟩) (rowsV h n p f) := by
  refine ⟨r.top, fun _ => ⟨gh, 0, rfl, r.hd.1, r.hd.2, fun k hk => ?_⟩⟩
  rw [rowsV_len] at hk
  refine ⟨some ⟨g, p k * n, none⟩, n, ?_, ?_⟩
  · rw [Nat.zero_add, rowsV_get hk, rowF_len]; exact r.head hk
  · rw [rowsV_get hk]
    have := r.per k hk
    refine r.num.ints ?_ r.nm.1 r.nm.2 r.top
    have := Nat.mul_le_mul_right n (show p k + 1 ≤ h from this)
    rw [Nat.add_mul, Nat.one_mul] at this
    exact this

set_option maxHeartbeats 2000000 in
set_option maxRecDepth 100000 in
theorem markRowsF_c (h n gh g lo hi cap : Nat) (f : Nat → Int) (k0 : Int) (w : World) (r : RowsF w lo hi gh g h n id f) (hh : h ≤ 1000) (hn : n ≤ 1000) (hk0 : 0 ≤ k0) (hk1 : k0 + ((h * n : Nat) : Int) ≤ 10000000) :
    Calls Try.prog 23 #[.slice (some ⟨gh, 0, none⟩) h cap, .int .i64 k0] w fun e w' => e = .returned (.int .i64 (k0 + ((h * n : Nat) : Int))) ∧ Within lo hi w w' ∧ RowsF w' lo hi gh g h n id (fun i => k0 + (i : Int)) := by
  have HM := Lib.hid r
  clear r
  go_enter Try.func23, Try.ntmps23
  go_wp2_with fail
  go_loopw [1, 5] (fun m i wr => ∃ j : Nat, j ≤ h ∧ i = .int .i64 j ∧ m = .int .i64 (k0 + ((j * n : Nat) : Int)) ∧ RowsF wr lo hi gh g h n id (fun i => if i < j * n then k0 + (i : Int) else f i) ∧ Within lo hi w wr) (fun _ i _ => h - (intOf i).toNat)
  case atStart => exact ⟨0, by omega, rfl, by simp, by
    have hM := HM.out
    exact ⟨hM.top, hM.hd, hM.nm, hM.ne, hM.per, hM.row, hM.num.congr fun i _ => (if_neg (by omega)).symm⟩, Within.refl _ _ _⟩
  case round =>
    obtain ⟨j, hj, rfl, rfl, hm, hw⟩ := hrel
    have HW := Lib.hid hw
    have HM := Lib.hid hm
    clear hm hw
    by_cases hlt : j < h
    · have hij : (j : Int) < (h : Int) := by omega
      have c1 : wr.cell? ⟨gh, j, none⟩ = some (.slice (some ⟨g, j * n, none⟩) n n) := HM.out.head hlt
      have hJN := Nat.mul_le_mul_right n (show j + 1 ≤ h from hlt)
      have hS : (j + 1) * n = j * n + n := by rw [Nat.add_mul, Nat.one_mul]
      obtain ⟨J, hJ⟩ : ∃ J, j * n = J := ⟨_, rfl⟩
      rw [hS, hJ] at hJN
      rw [hJ] at c1 hS ⊢
      have HS := Lib.hid hS
      have HJ := Lib.hid hJ
      have hM := HM.out.num
      rw [hJ] at hM
      have HF := Lib.hid hM
      clear hS hJ hM
      go_wp2_with fail
      refine (markFlat_c g (h * n) J n n _ (k0 + (J : Int)) _ HF.out hJN (by omega) (by omega) (by omega)).mono ?_
      rintro e w3 ⟨rfl, hf3, hg3⟩
      have hnm := HM.out.nm
      have hw3 : Within g (g + 1) wr w3 := ⟨hg3.os, hg3.tape, hg3.output, hg3.size, fun i hi' hd' => hg3.block i hi' (by simp; omega)⟩
      have HM3 := Lib.hid (show RowsF w3 lo hi gh g h n id (fun i => if i < (j + 1) * n then k0 + (i : Int) else f i) from by
        have hM := HM.out
        have h1 := hM.hd
        have hne := hM.ne
        have ht := hM.top
        refine ⟨Nat.le_trans ht hw3.size, h1, hM.nm, hne, hM.per, ?_, hf3.congr fun i _ => ?_⟩
        · obtain ⟨l1, l2⟩ := hM.row
          refine ⟨l1, ?_⟩
          rcases l2 with l2 | ⟨g2, c2, cur, e1, e2, e3, e4⟩
          · cases l2.1
          · cases e1
            exact .inr ⟨gh, h, cur, rfl, Nat.le_refl _, (hw3.block gh (by omega) (by omega)).trans e3, e4⟩
        · rw [HS.out]
          by_cases e1 : J ≤ i ∧ i < J + n
          · rw [if_pos e1, if_pos e1.2]
            omega
          · rw [if_neg e1]
            by_cases e2 : i < J
            · rw [if_pos e2, if_pos (by omega)]
            · rw [if_neg e2, if_neg (by omega)])
      have HW3 := Lib.hid (show Within lo hi w w3 from ⟨hw3.os.trans HW.out.os, hw3.tape.trans HW.out.tape, hw3.output.trans HW.out.output, Nat.le_trans HW.out.size hw3.size, fun i hi' hd' => (hw3.block i (Nat.lt_of_lt_of_le hi' HW.out.size) (by omega)).trans (HW.out.block i hi' hd')⟩)
      have hnx : k0 + (J : Int) + (n : Int) = k0 + (((j + 1) * n : Nat) : Int) := by rw [HS.out]; omega
      clear hw3 hf3 hg3
      rw [hnx]
      go_wp2_with fail
      go_roundw
      case rel => exact ⟨j + 1, by omega, by go_num, rfl, HM3.out, HW3.out⟩
      case measure => simp [intOf]; omega
    · obtain rfl : j = h := by omega
      go_wp2_with fail
      go_ret
      refine ⟨rfl, HW.out, ?_⟩
      have hM := HM.out
      exact ⟨hM.top, hM.hd, hM.nm, hM.ne, hM.per, hM.row, hM.num.congr fun i hi => if_pos hi⟩
end Go.Proofs.Ytcfgljfpkhefmaa
