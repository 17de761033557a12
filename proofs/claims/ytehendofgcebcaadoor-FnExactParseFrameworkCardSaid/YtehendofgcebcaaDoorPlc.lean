/- The laws' helpers on rows of places: copies, sizes, comparisons, marks. No condition. -/
import Derived.Test.YtehendofgcebcaaDoorHeld
import Derived.Test.YtehendofgcebcaaDoorGraphArg
import Derived.Deep.QuietTactic
import Derived.BigQuiet
import Derived.StillTailTactics
namespace Go.Proofs.YtehendofgcebcaaDoor
open Go.RowKit

theorem toPlace_c (x y : Int) (w : World) :
    Calls Tryd.prog 44 #[.agg #[.int .i64 x, .int .i64 y]] w fun e w' => e = .returned (.agg #[.int .i64 x, .int .i64 y]) ∧ Below w.heap.size w w' := by
  go_enter Tryd.func44, Tryd.ntmps44
  go_wp2
  exact bodyPost_ret (v := .agg #[.int .i64 x, .int .i64 y]) (by simp [results, Tryd.results44, go_sem]) rfl ⟨rfl, (((Below.refl _ _).alloc (Nat.le_refl _) _).alloc (by simp) _).alloc (by simp; omega) _⟩

theorem infoPlace : (Tryd.prog.info? 49).map (fun i => (i.zero, i.size, i.bytes)) = some (some (.agg #[.int .i64 0, .int .i64 0]), 2, 16) := by kernel_rfl

set_option maxHeartbeats 400000 in
set_option maxRecDepth 100000 in
theorem toPlaceS_c (l : List (Int × Int)) (A : Option Addr) (cap : Nat) (w : World) (hl : BarsAt w w.heap.size A l) (hn : l.length ≤ 1048576) :
    Calls Tryd.prog 20 #[.slice A l.length cap] w fun e w' => ∃ g, e = .returned (.slice (some ⟨g, 0, none⟩) l.length l.length) ∧ w'.ownsRow w.heap.size 49 2 (.slice (some ⟨g, 0, none⟩) l.length l.length) l.length (barCells l) ∧ Below w.heap.size w w' := by
  have HL := Lib.hid hl
  clear hl
  obtain ⟨i0, hi, hz0, hz1, hz2⟩ := info_parts infoPlace
  go_enter Tryd.func20, Tryd.ntmps20
  go_wp2_with (at_make; refine wpList_make_full w rfl _ _ 33 rfl w.heap.size 49 i0 (.agg #[.int .i64 0, .int .i64 0]) 2 Tryd.underlying33 hi hz0 hz1 _ _ _ _ l.length rfl rfl rfl rfl (by rw [hz2]; omega) (by unfold maxLen; omega) (Nat.le_refl _) ?_; intro w0 hown0 hg0)
  have hb0 := grown_below hg0 (Nat.le_refl w.heap.size)
  go_loopw [4] (fun i wr => ∃ k : Nat, k ≤ l.length ∧ i = .int .i64 k ∧ wr.ownsRow w.heap.size 49 2 (.slice (some ⟨w.heap.size, 0, none⟩) l.length l.length) l.length (barCells (l.take k ++ List.replicate (l.length - k) (0, 0))) ∧ Below w.heap.size w wr) (fun i _ => l.length - (intOf i).toNat)
  case atStart => exact ⟨0, by omega, rfl, by
    have e : (madeCells (Value.agg #[.int .i64 0, .int .i64 0]).cells (l.length * 2)).toList = barCells (l.take 0 ++ List.replicate (l.length - 0) (0, 0)) := by
      rw [List.take_zero, List.nil_append, Nat.sub_zero]
      exact made_bars l.length
    rw [e] at hown0
    exact hown0, hb0⟩
  case round =>
    obtain ⟨k, hk, rfl, hown, hb⟩ := hrel
    have HB := Lib.hid hb
    have hbs := hb.size
    clear hb hown0 hb0 hg0
    by_cases hlt : k < l.length
    · have hi : (k : Int) < (l.length : Int) := by omega
      obtain ⟨b, off, rfl, hbB, hcell⟩ := HL.out (by omega)
      obtain ⟨h1, h2⟩ := hcell k hlt
      have hc1 := (HB.out.cell (p := ⟨b, off + k * 2, none⟩) hbB).trans h1
      have hc2 := (HB.out.cell (p := ⟨b, off + k * 2 + 1, none⟩) hbB).trans h2
      have hlen : (l.take k ++ List.replicate (l.length - k) ((0 : Int), (0 : Int))).length = l.length := by simp; omega
      have hset : (l.take k ++ List.replicate (l.length - k) (0, 0)).set k (l.getD k (0, 0)) = l.take (k + 1) ++ List.replicate (l.length - (k + 1)) (0, 0) := by
        have hl0 : (l.take k).length = k := by simp; omega
        have e : l.getD k (0, 0) = l[k] := by simp [List.getD, List.getElem?_eq_getElem hlt]
        obtain ⟨r, hr⟩ : ∃ r, l.length - k = r + 1 := ⟨l.length - k - 1, by omega⟩
        rw [e, List.set_append_right _ _ (by omega), hl0, Nat.sub_self, hr, List.replicate_succ, List.set_cons_zero, List.take_succ_eq_append_getElem hlt, show l.length - (k + 1) = r by omega, List.append_assoc]
        rfl
      have HOWN := Lib.hid hown
      have HSET := Lib.hid hset
      have HLEN := Lib.hid hlen
      have hlw := (hown.lt w.heap.size rfl).2
      clear hset hown hcell h1 h2 hlen
      obtain ⟨p, hp⟩ : ∃ p, l.getD k (0, 0) = p := ⟨_, rfl⟩
      rw [hp] at hc1 hc2 HSET
      clear hp
      obtain ⟨x, y⟩ := p
      go_wp2_with fail
      refine (toPlace_c x y wr).mono ?_
      rintro e w3 ⟨rfl, hb3⟩
      have hown3 := own_below HOWN.out hb3
      have hg := barCells_get (l.take k ++ List.replicate (l.length - k) (0, 0)) k (by have := HLEN.out; omega)
      have hd1 := (hown3.cellAt (k * 2) (by omega)).trans hg.1
      have hd2 := (hown3.cellAt (k * 2 + 1) (by omega)).trans hg.2
      have hf1 := hown3.frozenAt (k * 2)
      have hf2 := hown3.frozenAt (k * 2 + 1)
      have hst1 := hown3.stored (k * 2) (.int .i64 x)
      have hst2 := hst1.1.stored (k * 2 + 1) (.int .i64 y)
      rw [barCells_set _ _ (x, y), HSET.out] at hst2
      have HST := Lib.hid hst2
      have HB3 := Lib.hid (HB.out.trans (hb3.mono hbs))
      clear hst1 hst2 hg hown3 hb3 hc1 hc2
      go_wp2_with fail
      go_roundw
      case rel => exact ⟨k + 1, by omega, by go_num, HST.out.1, (HB3.out.setCell (Nat.le_refl _) _).setCell (Nat.le_refl _) _⟩
      case measure => simp [intOf]; omega
    · obtain rfl : k = l.length := by omega
      rw [List.take_length, Nat.sub_self, List.replicate_zero, List.append_nil] at hown
      go_wp2_with fail
      go_ret
      exact ⟨_, rfl, hown, HB.out⟩

theorem szPlaceS_c (A : Option Addr) (n cap : Nat) (left : Int) (w : World) (h0 : (n : Int) ≤ left) (h1 : left ≤ 1048576) :
    Calls Tryd.prog 15 #[.slice A n cap, .int .i64 left] w fun e w' => e = .returned (.int .i64 (left - n)) ∧ w = w' := by
  go_enter Tryd.func15, Tryd.ntmps15
  go_wp2
  go_ret
  exact ⟨rfl, rfl⟩

theorem szPlaceS_no (A : Option Addr) (n cap : Nat) (left : Int) (w : World) (hn : n ≤ 9223372036854775807) (h0 : left < (n : Int)) (h1 : 0 ≤ left) :
    Calls Tryd.prog 15 #[.slice A n cap, .int .i64 left] w fun e w' => e = .returned (.int .i64 (-1)) ∧ w = w' := by
  go_enter Tryd.func15, Tryd.ntmps15
  go_wp2
  go_ret
  exact ⟨rfl, rfl⟩

theorem eqPlace_c (x y : Int) (w : World) :
    Calls Tryd.prog 53 #[.agg #[.int .i64 x, .int .i64 y], .agg #[.int .i64 x, .int .i64 y]] w fun e w' => e = .returned (.bool true) ∧ Below w.heap.size w w' := by
  go_enter Tryd.func53, Tryd.ntmps53
  go_wp2
  go_ret
  exact ⟨rfl, ((Below.refl _ _).alloc (Nat.le_refl _) _).alloc (by simp) _⟩

set_option maxHeartbeats 400000 in
set_option maxRecDepth 100000 in
theorem eqPlaceS_c (l : List (Int × Int)) (A A' : Option Addr) (cap cap' : Nat) (w : World) (hl : BarsAt w w.heap.size A l) (hl' : BarsAt w w.heap.size A' l) (hn : l.length ≤ 1048576) :
    Calls Tryd.prog 28 #[.slice A l.length cap, .slice A' l.length cap'] w fun e w' => e = .returned (.bool true) ∧ Below w.heap.size w w' := by
  have HL := Lib.hid hl
  have HL' := Lib.hid hl'
  clear hl hl'
  go_enter Tryd.func28, Tryd.ntmps28
  go_wp2_with fail
  go_loopw [5] (fun i wr => ∃ k : Nat, k ≤ l.length ∧ i = .int .i64 k ∧ Below w.heap.size w wr) (fun i _ => l.length - (intOf i).toNat)
  case atStart => exact ⟨0, by omega, rfl, Below.refl _ _⟩
  case round =>
    obtain ⟨k, hk, rfl, hb⟩ := hrel
    have HB := Lib.hid hb
    have hbs := hb.size
    clear hb
    by_cases hlt : k < l.length
    · have hi : (k : Int) < (l.length : Int) := by omega
      obtain ⟨b, off, rfl, hbB, hcell⟩ := HL.out (by omega)
      obtain ⟨b', off', rfl, hbB', hcell'⟩ := HL'.out (by omega)
      have hc1 := (HB.out.cell (p := ⟨b, off + k * 2, none⟩) hbB).trans (hcell k hlt).1
      have hc2 := (HB.out.cell (p := ⟨b, off + k * 2 + 1, none⟩) hbB).trans (hcell k hlt).2
      have hc3 := (HB.out.cell (p := ⟨b', off' + k * 2, none⟩) hbB').trans (hcell' k hlt).1
      have hc4 := (HB.out.cell (p := ⟨b', off' + k * 2 + 1, none⟩) hbB').trans (hcell' k hlt).2
      clear hcell hcell'
      obtain ⟨p, hp⟩ : ∃ p, l.getD k (0, 0) = p := ⟨_, rfl⟩
      rw [hp] at hc1 hc2 hc3 hc4
      clear hp
      obtain ⟨x, y⟩ := p
      go_wp2_with fail
      go_still_tail 8, (by kernel_rfl)
      change wpList _ _ _ _ _ wr.drew
      have hbd : Below w.heap.size w wr.drew := HB.out.drew
      have hbs2 : w.heap.size ≤ wr.drew.heap.size := hbs
      have HBD := Lib.hid hbd
      clear hbd hc1 hc2 hc3 hc4
      generalize wr.drew = w2 at *
      go_wp2_with fail
      refine (eqPlace_c x y w2).mono ?_
      rintro e w3 ⟨rfl, hb3⟩
      have HB3 := Lib.hid (HBD.out.trans (hb3.mono hbs2))
      clear hb3
      go_wp2_with fail
      go_roundw
      case rel => exact ⟨k + 1, by omega, by go_num, HB3.out⟩
      case measure => simp [intOf]; omega
    · go_wp2_with fail
      go_ret
      exact ⟨rfl, HB.out⟩

set_option maxHeartbeats 800000 in
set_option maxRecDepth 100000 in
theorem markPlaceS_c (g : Nat) (l : List (Int × Int)) (cap : Nat) (k : Int) (base : Nat) (w : World) (hown : w.ownsRow base 49 2 (.slice (some ⟨g, 0, none⟩) l.length cap) l.length (barCells l)) (hn : l.length ≤ 1048576) (hk0 : 0 ≤ k) (hk1 : k ≤ 10000000) :
    Calls Tryd.prog 37 #[.slice (some ⟨g, 0, none⟩) l.length cap, .int .i64 k] w fun e w' => e = .returned (.int .i64 (k + 2 * (l.length : Int))) ∧ w'.ownsRow base 49 2 (.slice (some ⟨g, 0, none⟩) l.length cap) l.length (barCells (marks k l.length)) ∧ w.grownBy w' (some g) := by
  have HO := Lib.hid hown
  clear hown
  go_enter Tryd.func37, Tryd.ntmps37
  go_wp2_with fail
  go_loopw [1, 5] (fun m i wr => ∃ j : Nat, j ≤ l.length ∧ i = .int .i64 j ∧ m = .int .i64 (k + 2 * (j : Int)) ∧ wr.ownsRow base 49 2 (.slice (some ⟨g, 0, none⟩) l.length cap) l.length (barCells (marks k j ++ l.drop j)) ∧ w.grownBy wr (some g)) (fun _ i _ => l.length - (intOf i).toNat)
  case atStart => exact ⟨0, by omega, rfl, by simp, HO.out, World.grownBy.refl _ _⟩
  case round =>
    obtain ⟨j, hj, rfl, rfl, hown, hg⟩ := hrel
    have HG := Lib.hid hg
    clear hg
    by_cases hlt : j < l.length
    · have hi : (j : Int) < (l.length : Int) := by omega
      have hlen : (marks k j ++ l.drop j).length = l.length := by rw [List.length_append, marks_len, List.length_drop]; omega
      have hgc := barCells_get (marks k j ++ l.drop j) j (by omega)
      have hd1 := (hown.cellAt (j * 2) (by omega)).trans hgc.1
      have hd2 := (hown.cellAt (j * 2 + 1) (by omega)).trans hgc.2
      have hf1 := hown.frozenAt (j * 2)
      have hf2 := hown.frozenAt (j * 2 + 1)
      have hst1 := hown.stored (j * 2) (.int .i64 (k + 2 * (j : Int)))
      have hst2 := hst1.1.stored (j * 2 + 1) (.int .i64 (k + 2 * (j : Int) + 1))
      have HG2 := Lib.hid ((HG.out.trans_ hst1.2).trans_ hst2.2)
      have hst3 := hst2.1
      rw [barCells_set _ _ (k + 2 * (j : Int), k + 2 * (j : Int) + 1), marks_step k l j hlt] at hst3
      have HST := Lib.hid hst3
      clear hst1 hst2 hst3 hgc hown hlen
      go_wp2_with fail
      go_roundw
      case rel => exact ⟨j + 1, by omega, by go_num, by go_num, HST.out, HG2.out⟩
      case measure => simp [intOf]; omega
    · obtain rfl : j = l.length := by omega
      rw [List.drop_length, List.append_nil] at hown
      go_wp2_with fail
      go_ret
      exact ⟨rfl, hown, HG.out⟩

/-- Nothing is marked where there is no bar. -/
theorem markPlaceS_nil (A : Option Addr) (cap : Nat) (k : Int) (w : World) :
    Calls Tryd.prog 37 #[.slice A 0 cap, .int .i64 k] w fun e w' => e = .returned (.int .i64 k) ∧ w = w' := by
  go_enter Tryd.func37, Tryd.ntmps37
  go_wp2_with fail
  refine wp_loop_rounds 1 ?_
  rw [rounds_succ]
  go_wp2_with fail
  go_ret
  exact ⟨rfl, rfl⟩

/-- A row of bars of the call's own in a block from lo to hi, or no bars. -/
def OwnPl (W : World) (lo hi : Nat) (A : Option Addr) (cap : Nat) (l : List (Int × Int)) : Prop :=
  hi ≤ W.heap.size ∧ (l = [] ∨ ∃ g, A = some ⟨g, 0, none⟩ ∧ lo ≤ g ∧ g < hi ∧ W.ownsRow lo 49 2 (.slice (some ⟨g, 0, none⟩) l.length cap) l.length (barCells l))

theorem OwnPl.within {W W' : World} {lo hi lo' hi' : Nat} {A : Option Addr} {cap : Nat} {l : List (Int × Int)} (h : OwnPl W lo hi A cap l) (hw : Within lo' hi' W W') (hd : hi ≤ lo' ∨ hi' ≤ lo) : OwnPl W' lo hi A cap l :=
  ⟨Nat.le_trans h.1 hw.size, by
    rcases h.2 with h2 | ⟨g, e, h1, h2, ho⟩
    · exact .inl h2
    · exact .inr ⟨g, e, h1, h2, own_block ho (hw.block g (Nat.lt_of_lt_of_le h2 h.1) (by omega))⟩⟩

theorem OwnPl.bars {W : World} {lo hi : Nat} {A : Option Addr} {cap : Nat} {l : List (Int × Int)} (h : OwnPl W lo hi A cap l) : BarsIn W lo hi A l :=
  ⟨h.1, fun hl => by
    rcases h.2 with h2 | ⟨g, e, h1, h2, ho⟩
    · subst h2; simp at hl
    · obtain ⟨b, off, e', hlt, hc⟩ := own_bars ho hl
      cases e'
      exact ⟨g, 0, e, h1, h2, hc⟩⟩

theorem own_pl {w' : World} {base : Nat} {g cap : Nat} {l : List (Int × Int)} (h : w'.ownsRow base 49 2 (.slice (some ⟨g, 0, none⟩) l.length cap) l.length (barCells l)) : OwnPl w' base w'.heap.size (some ⟨g, 0, none⟩) cap l :=
  ⟨Nat.le_refl _, .inr ⟨g, rfl, (h.lt g rfl).1, (h.lt g rfl).2, h⟩⟩

theorem own_pl' {w' : World} {base : Nat} {A : Option Addr} {cap : Nat} {l : List (Int × Int)} (h : w'.ownsRow base 49 2 (.slice A l.length cap) l.length (barCells l)) : OwnPl w' base w'.heap.size A cap l := by
  rcases h.2 with ⟨h1, h0⟩ | ⟨g, cap', cur, h1, h2⟩
  · exact ⟨Nat.le_refl _, .inl (List.eq_nil_of_length_eq_zero h0)⟩
  · cases h1
    exact own_pl h

theorem own_plnil (w : World) (base : Nat) (A : Option Addr) (cap : Nat) : OwnPl w base w.heap.size A cap [] := ⟨Nat.le_refl _, .inl rfl⟩

set_option maxHeartbeats 800000 in
set_option maxRecDepth 100000 in
theorem heldPlaceS_c (n : Nat) (A : Option Addr) (cap : Nat) (k : Int) (B : Nat) (w : World) (hl : BarsAt w B A (marks k n)) (hn : n ≤ 1048576) (hk0 : 0 ≤ k) (hk1 : k ≤ 10000000) :
    Calls Tryd.prog 39 #[.slice A n cap, .int .i64 k] w fun e w' => e = .returned (.int .i64 (k + 2 * (n : Int))) ∧ w = w' := by
  have HL := Lib.hid hl
  clear hl
  go_enter Tryd.func39, Tryd.ntmps39
  go_wp2_with fail
  go_loop [1, 5] (fun m i => ∃ j : Nat, j ≤ n ∧ i = .int .i64 j ∧ m = .int .i64 (k + 2 * (j : Int))) (fun _ i => n - (intOf i).toNat)
  case atStart => exact ⟨0, by omega, rfl, by simp⟩
  case round =>
    obtain ⟨j, hj, rfl, rfl⟩ := hrel
    by_cases hlt : j < n
    · have hi : (j : Int) < (n : Int) := by omega
      obtain ⟨b, off, rfl, hbB, hcell⟩ := HL.out (by rw [marks_len]; omega)
      have hc := hcell j (by rw [marks_len]; exact hlt)
      rw [marks_get k n j hlt] at hc
      obtain ⟨h1, h2⟩ := hc
      clear hcell
      go_wp2_with fail
      go_round
      case rel => exact ⟨j + 1, by omega, by go_num, by go_num⟩
      case measure => simp [intOf]; omega
    · obtain rfl : j = n := by omega
      go_wp2_with fail
      go_ret
      exact ⟨rfl, rfl⟩

theorem markPlaceS_o (A : Option Addr) (cap : Nat) (l : List (Int × Int)) (k : Int) (lo hi : Nat) (w : World) (h : OwnPl w lo hi A cap l) (hn : l.length ≤ 1048576) (hk0 : 0 ≤ k) (hk1 : k ≤ 10000000) :
    Calls Tryd.prog 37 #[.slice A l.length cap, .int .i64 k] w fun e w' => e = .returned (.int .i64 (k + 2 * (l.length : Int))) ∧ Within lo hi w w' ∧ OwnPl w' lo hi A cap (marks k l.length) := by
  have hhi := h.1
  rcases h.2 with h2 | ⟨g, rfl, h1, h2, ho⟩
  · subst h2
    refine (markPlaceS_nil A cap k w).mono ?_
    rintro e w1 ⟨rfl, rfl⟩
    exact ⟨by simp, ⟨rfl, rfl, rfl, Nat.le_refl _, fun _ _ _ => rfl⟩, hhi, .inl rfl⟩
  · refine (markPlaceS_c g l cap k lo w ho hn hk0 hk1).mono ?_
    rintro e w1 ⟨rfl, ho1, hg1⟩
    refine ⟨rfl, ⟨hg1.os, hg1.tape, hg1.output, hg1.size, fun j hj hd => hg1.block j hj (by simp; omega)⟩, Nat.le_trans hhi hg1.size, .inr ⟨g, rfl, h1, h2, ?_⟩⟩
    have := marks_len k l.length
    rw [this]
    exact ho1
section
open Go.Joins Go.ChangeShapes Go.WideShapes Go.Deep
variable {H : Type} {enc : TypeId × Value → H} {w : World}
/-- A slice of the law's bars. -/
theorem open_places {n : Nat} {v : Value} {y : DataW H × List MemPlace} (h : DataW.trod enc Tryd.prog w 0 (fun _ => true) true n 25 [v] = some y) :
    ∃ (A : Option Addr) (cap : Nat) (l : List (Int × Int)), v = .slice A l.length cap ∧ l.length ≤ maxLen ∧ BarsAt w w.heap.size A l := by
  rcases open_slice_pairs Tryd.underlying25 Tryd.underlying83 (by kernel_rfl) rfl rfl (by kernel_rfl) (by kernel_rfl) h with ⟨hv, _⟩ | ⟨a, len, cap, m, fuel, V0, V1, D0, D1, P0, P1, hv, _, hlc, hcm, hm, _, hi⟩
  · refine ⟨none, 0, [], ?_, by simp, fun h => absurd h (by simp)⟩
    simpa using hv
  · have hm' : m = cap := by simpa using hm
    refine ⟨some a, cap, (List.range len).map fun i => (intOf (V0 i), intOf (V1 i)), by simpa using hv, by simp; omega, fun hl => ?_⟩
    have hl' : 0 < len := by simpa using hl
    obtain ⟨b, off, spot⟩ := a
    have hs : spot = none := by simpa [Addr.add] using World.cell?_spot (hi 0 (by omega)).1
    subst hs
    have hadd : ∀ k, (⟨b, off, none⟩ : Addr).add k = ⟨b, off + k, none⟩ := fun k => by unfold Addr.add; split <;> simp_all
    have h0 := (hi 0 (by omega)).1
    rw [hadd] at h0
    refine ⟨b, off, rfl, World.block_lt_of_cell? w _ h0, fun k hk => ?_⟩
    have hk' : k < len := by simpa using hk
    obtain ⟨c0, c1, t0, t1⟩ := hi k (by omega)
    obtain ⟨x, e0, _⟩ := DataW.trod_int Tryd.underlying3 t0
    obtain ⟨z, e1, _⟩ := DataW.trod_int Tryd.underlying3 t1
    rw [hadd] at c0 c1
    have g0 : V0 k = .int .i64 x := by simpa using e0
    have g1 : V1 k = .int .i64 z := by simpa using e1
    have hg : ((List.range len).map fun i => (intOf (V0 i), intOf (V1 i))).getD k (0, 0) = (x, z) := by
      simp [List.getD, hk', g0, g1, intOf]
    rw [hg, c0, g0, show off + k * 2 + 1 = off + (k * 2 + 1) by omega, c1, g1]
    exact ⟨rfl, rfl⟩
end
end Go.Proofs.YtehendofgcebcaaDoor
