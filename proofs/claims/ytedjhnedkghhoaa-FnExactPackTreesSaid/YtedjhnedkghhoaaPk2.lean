/- Several texts in one, in the order in which they build on each other: what stands on the way to the laws; each names its own matter. No condition. -/
import Derived.Test.YtedjhnedkghhoaaPk1
import Derived.Laws.CopyOwn
import Derived.Deep.RegionLaw
import Derived.Lib.SliceRun
import Derived.OrdersHeld
import Derived.Deep.QuietTactic
import Derived.BigQuiet
import Derived.Deep.RegionHeld3
import Derived.Maps.OwnSet
import Derived.Maps.Views
import Derived.Maps.RangeWalk
/- slices.Repeat of one number, up to eight times. No condition. -/
namespace Go.Proofs.Ytedjhnedkghhoaa
open Go.RowKit

set_option maxHeartbeats 4000000 in
theorem mul64_one (P : Nat) (h : P ≤ 8) (w : World) : Calls Try.prog 187 #[.int .u64 1, .int .u64 (P : Int)] w fun e w' => e = .returned (.tuple #[.int .u64 0, .int .u64 (P : Int)]) ∧ w' = w := by
  have hP : P = 0 ∨ P = 1 ∨ P = 2 ∨ P = 3 ∨ P = 4 ∨ P = 5 ∨ P = 6 ∨ P = 7 ∨ P = 8 := by omega
  rcases hP with rfl | rfl | rfl | rfl | rfl | rfl | rfl | rfl | rfl
  all_goals
    go_enter Try.func187, Try.ntmps187
    go_wp2_with fail
    go_ret2
    exact ⟨by first | rfl | simp, rfl⟩
set_option maxHeartbeats 4000000 in
theorem mul_one_c (P : Nat) (h : P ≤ 8) (w : World) : Calls Try.prog 167 #[.int .u64 1, .int .u64 (P : Int)] w fun e w' => e = .returned (.tuple #[.int .u64 0, .int .u64 (P : Int)]) ∧ w' = w := by
  go_enter Try.func167, Try.ntmps167
  go_wp2_with fail
  refine (mul64_one P h _).mono ?_
  rintro e w1 ⟨rfl, rfl⟩
  go_wp2_with fail
  go_ret2
  exact ⟨rfl, rfl⟩
/-- A row that holds n times k, and zeros behind them. -/
def repL (P n : Nat) (k : Int) : List Int := List.replicate n k ++ List.replicate (P - n) 0
theorem repL_len (P n : Nat) (k : Int) (h : n ≤ P) : (repL P n k).length = P := by simp [repL]; omega
theorem repL_splice (P n m : Nat) (k : Int) : splice (intCells (repL P n k)) n (intCells (List.replicate m k)) = intCells (repL P (n + m) k) := by
  unfold splice intCells
  rw [← List.map_take, ← List.map_drop, ← List.map_append, ← List.map_append]
  congr 1
  simp only [repL, List.length_map, List.length_replicate]
  rw [List.take_left' (by simp), List.drop_append, List.length_replicate, List.drop_eq_nil_of_le (by simp), List.nil_append, show n + m - n = m by omega, List.drop_replicate, ← List.append_assoc, List.replicate_append_replicate, show P - n - m = P - (n + m) by omega]
theorem repL_get (P n : Nat) (k : Int) (j : Nat) (h : j < n) : (repL P n k).getD j 0 = k := by
  unfold repL
  simp only [List.getD]
  rw [List.getElem?_append_left (by simpa using h)]
  simp [h]
theorem own_heap {W : World} {base g n : Nat} {e : TypeId} {xs : List Value} (h : W.ownsRow base e 1 (.slice (some ⟨g, 0, none⟩) n n) n xs) : W.heap[g]? = some (.cells xs.toArray e (0, 0)) := by
  obtain ⟨h0, h1⟩ := h
  rcases h1 with ⟨h2, _⟩ | ⟨g', cap, cur, e1, _, hh, _, _, hsz, ht⟩
  · cases h2
  · cases e1
    rw [List.take_of_length_le (by rw [Array.length_toList, hsz]; exact Nat.le_refl _)] at ht
    rw [hh, ← ht]
theorem heap_own {W : World} {base g n : Nat} {e : TypeId} {xs : List Value} (h : W.heap[g]? = some (.cells xs.toArray e (0, 0))) (hl : xs.length = n) (hb : base ≤ g) (hn : n ≤ maxLen) : W.ownsRow base e 1 (.slice (some ⟨g, 0, none⟩) n n) n xs :=
  ⟨by rw [hl, Nat.mul_one], .inr ⟨g, n, xs.toArray, rfl, hb, h, Nat.le_refl _, hn, by rw [List.size_toArray, hl, Nat.mul_one], by rw [Nat.mul_one, ← hl]; simp⟩⟩
theorem heap_ints {W : World} {g : Nat} {e : TypeId} {zs : List Int} (h : W.heap[g]? = some (.cells (intCells zs).toArray e (0, 0))) (j : Nat) (hj : j < zs.length) : W.cell? ⟨g, j, none⟩ = some (.int .i64 (zs.getD j 0)) := by
  rw [cell_of_row W g j _ e (0, 0) h]
  simpa using intCells_get zs j hj

set_option maxHeartbeats 2000000 in
set_option maxRecDepth 100000 in
theorem slRepeat (P : Nat) (k : Int) (b0 : Nat) (w : World) (h1 : 1 ≤ P) (h8 : P ≤ 8) (hc : w.cell? ⟨b0, 0, none⟩ = some (.int .i64 k)) :
    Calls Try.prog 128 #[.slice (some ⟨b0, 0, none⟩) 1 1, .int .i64 (P : Int)] w fun e w' => ∃ g, e = .returned (.slice (some ⟨g, 0, none⟩) P P) ∧ w'.ownsRow w.heap.size 3 1 (.slice (some ⟨g, 0, none⟩) P P) P (intCells (List.replicate P k)) ∧ Below w.heap.size w w' := by
  have HC := Lib.hid hc
  have HM := mul_one_c P h8
  have hP0 : ¬ (P : Int) < 0 := by omega
  have hPw : IntKind.u64.wrap (P : Int) = (P : Int) := by rw [IntKind.wrap_u64]; omega
  have hPi : IntKind.i64.wrap (P : Int) = (P : Int) := IntWalk.i64_in _ (by omega)
  have hPm : ¬ (9223372036854775807 : Int) < (P : Int) := by omega
  clear hc
  go_enter Try.func128, Try.ntmps128
  go_wp2_with fail
  refine (HM _).mono ?_
  rintro e w1 ⟨rfl, rfl⟩
  clear HM
  go_wp2_with (first
    | (at_make; refine wpList_mkn _ rfl _ _ 25 rfl w1.heap.size 3 (.int .i64 0) 8 Try.underlying25 infoInt rfl _ _ _ _ P rfl rfl rfl rfl (by omega) (by unfold maxLen; omega) (Nat.le_refl _) ?_; intro w2 hown hb2; have HB := Lib.hid hb2; have HG := Lib.hid (show w2.heap[w1.heap.size]? = some (.cells (intCells (repL P 0 k)).toArray 3 (0, 0)) by rw [show intCells (repL P 0 k) = List.replicate P (.int .i64 0) by simp [repL, intCells]]; exact own_heap hown); have HSRC := Lib.hid (show ∀ j v, (intCells (List.replicate 1 k))[j]? = some v → w2.cell? ((⟨b0, 0, none⟩ : Addr).add j) = some v from fun j v hj => (by have hlt := (List.getElem?_eq_some_iff.1 hj).1; obtain rfl : j = 0 := (by simpa [intCells] using hlt); have hb0 := World.block_lt_of_cell? w1 _ HC.out; rw [show (⟨b0, 0, none⟩ : Addr).add 0 = ⟨b0, 0, none⟩ from rfl, hb2.cell (p := ⟨b0, 0, none⟩) hb0, HC.out]; simpa [intCells] using hj)); clear hown hb2)
    | (with_reducible refine wpList_copy_splice rfl _ _ 25 25 rfl 3 Try.underlying25 (by kernel_rfl) (some ⟨w1.heap.size, 0, none⟩) (some ⟨b0, 0, none⟩) P P 1 1 rfl rfl w1.heap.size 0 (intCells (repL P 0 k)) 3 HG.out (intCells (List.replicate 1 k)) (by simp [intCells, Nat.min_def]; omega) (fun _ => ⟨rfl, _, rfl, HSRC.out⟩) (by rw [intCells_len, intCells_len, repL_len P 0 k (by omega)]; simp; omega) (by simp [intCells, Value.oneCell']) w1.heap.size w1 HB.out (Nat.le_refl _) ?_; intro w3 hg3 hb3; have HG3 := Lib.hid (show w3.heap[w1.heap.size]? = some (.cells (intCells (repL P 1 k)).toArray 3 (0, 0)) by have := hg3.out; rw [repL_splice P 0 1 k] at this; exact this); have HB3 := Lib.hid hb3; clear hg3 hb3))
  clear HG HB HSRC HC
  go_loopw [8] (fun n wr => ∃ j : Nat, 1 ≤ j ∧ j ≤ P ∧ n = .int .i64 j ∧ wr.heap[w1.heap.size]? = some (.cells (intCells (repL P j k)).toArray 3 (0, 0)) ∧ Below w1.heap.size w1 wr) (fun n _ => P - (intOf n).toNat)
  case atStart => exact ⟨1, Nat.le_refl _, h1, rfl, HG3.out, HB3.out⟩
  case round =>
    obtain ⟨j, hj1, hj2, rfl, hg, hb⟩ := hrel
    have HG := Lib.hid hg
    have HB := Lib.hid hb
    clear hg hb
    by_cases hlt : j < P
    · have hji : (j : Int) < (P : Int) := by omega
      obtain ⟨m, hm⟩ : ∃ m, m = Nat.min j (P - j) := ⟨_, rfl⟩
      have hm2 : m ≤ j ∧ m ≤ P - j ∧ 1 ≤ m := by rw [hm]; simp only [Nat.min_def]; split <;> omega
      have hsrc : ∀ j' v, (intCells (List.replicate m k))[j']? = some v → wr.drew.cell? ((⟨w1.heap.size, 0, none⟩ : Addr).add j') = some v := fun j' v hj' => by
        have hlt' : j' < m := by
          have := (List.getElem?_eq_some_iff.1 hj').1
          simpa [intCells] using this
        have h0 := heap_ints HG.out j' (by rw [repL_len P j k hj2]; omega)
        rw [repL_get P j k j' (by omega)] at h0
        have hadd : (⟨w1.heap.size, 0, none⟩ : Addr).add j' = ⟨w1.heap.size, j', none⟩ := by unfold Addr.add; split <;> simp_all
        rw [hadd]
        have hv : v = .int .i64 k := by
          have := intCells_get (List.replicate m k) j' (by simpa using hlt')
          rw [hj'] at this
          simpa [List.getD, hlt'] using this
        rw [hv]
        exact h0
      have HSRC := Lib.hid hsrc
      have HFIT := Lib.hid (show j + (intCells (List.replicate m k)).length ≤ (intCells (repL P j k)).length by rw [intCells_len, intCells_len, repL_len P j k hj2]; simp; omega)
      have HN := Lib.hid (show (intCells (List.replicate m k)).length = Nat.min j (P - j) by rw [intCells_len, List.length_replicate]; exact hm)
      have HB2 := Lib.hid (HB.out.drew)
      have HG2 := Lib.hid (show wr.drew.heap[w1.heap.size]? = some (.cells (intCells (repL P j k)).toArray 3 (0, 0)) from HG.out)
      clear hsrc hm
      have hnej : ¬ P = j := by omega
      have hlm : ((intCells (List.replicate m k)).length : Int) = (m : Int) := by simp [intCells]
      have hsm : IntKind.i64.wrap ((j : Int) + (m : Int)) = (j : Int) + (m : Int) := IntWalk.i64_in _ (by omega)
      go_wp2_with fail
      go_region_law (refine step_copy_splice rfl _ _ 25 25 rfl 3 Try.underlying25 (by kernel_rfl) (some ⟨w1.heap.size, j, none⟩) (some ⟨w1.heap.size, 0, none⟩) (P - j) (P - j) j P (by simp [Act.eval, Act.put]) (by simp [Act.eval, Act.put]) w1.heap.size j (intCells (repL P j k)) 3 HG2.out (intCells (List.replicate m k)) HN.out (fun _ => ⟨rfl, _, rfl, HSRC.out⟩) HFIT.out (by simp [intCells, Value.oneCell']) w1.heap.size w1 HB2.out (Nat.le_refl _) ?_; intro w4 hg4 hb4; have HG4 := Lib.hid (show w4.heap[w1.heap.size]? = some (.cells (intCells (repL P (j + m) k)).toArray 3 (0, 0)) by have := hg4.out; rw [repL_splice P j m k] at this; exact this); have HB4 := Lib.hid hb4; clear hg4 hb4)
      all_goals
        go_simp
        go_roundw
        case rel => exact ⟨.int .i64 ((j : Int) + (m : Int)), _, _, _, _, _, _, _, _, _, _, _, _, _, ⟨j + m, by omega, by omega, by go_num, HG4.out, HB4.out⟩, rfl⟩
        case measure => simp [intOf]; omega
    · obtain rfl : j = P := by omega
      go_wp2_with fail
      go_ret
      have hr : repL j j k = List.replicate j k := by simp [repL]
      have h2 := HG.out
      rw [hr] at h2
      exact ⟨_, rfl, heap_own h2 (by simp [intCells]) (Nat.le_refl _) (by unfold maxLen; omega), HB.out⟩
end Go.Proofs.Ytedjhnedkghhoaa
/- What the library's cmp.Compare and cmp.Or and the program's Bar.compare answer. No condition. -/
namespace Go.Proofs.Ytedjhnedkghhoaa
open Go.RowKit

def cmpI (a b : Int) : Int := if a < b then -1 else if b < a then 1 else 0
def orI (a b : Int) : Int := if a = 0 then b else a
def cmpB (x y : Int × Int) : Int := orI (cmpI x.1 y.1) (cmpI x.2 y.2)
theorem cmpB_neg (x y : Int × Int) : cmpB x y < 0 ↔ aftB y x = false := by
  obtain ⟨a, b⟩ := x
  obtain ⟨c, d⟩ := y
  simp only [cmpB, orI, cmpI, aftB, decide_eq_false_iff_not]
  repeat' split
  all_goals omega
theorem cmpI_in (a b : Int) : -1 ≤ cmpI a b ∧ cmpI a b ≤ 1 := by
  unfold cmpI
  repeat' split
  all_goals omega
theorem cmpB_in (x y : Int × Int) : -1 ≤ cmpB x y ∧ cmpB x y ≤ 1 := by
  have h1 := cmpI_in x.1 y.1
  have h2 := cmpI_in x.2 y.2
  unfold cmpB orI
  split <;> omega

theorem isNaN_c (a : Int) (w : World) :
    Calls Try.prog 188 #[.int .i64 a] w fun e w' => e = .returned (.bool false) ∧ w' = w := by
  go_enter Try.func188, Try.ntmps188
  go_wp2
  go_ret
  exact ⟨by simp, rfl⟩

theorem compare_i (a b : Int) (w : World) :
    Calls Try.prog 173 #[.int .i64 a, .int .i64 b] w fun e w' => e = .returned (.int .i64 (cmpI a b)) ∧ w' = w := by
  by_cases h1 : a < b
  · have h2 : ¬ b < a := by omega
    have HC := Lib.hid (show cmpI a b = -1 by simp [cmpI, h1])
    go_enter Try.func173, Try.ntmps173
    go_wp2_with fail
    refine (isNaN_c a _).mono ?_
    rintro e w1 ⟨rfl, rfl⟩
    go_wp2_with fail
    refine (isNaN_c b _).mono ?_
    rintro e w1 ⟨rfl, rfl⟩
    go_wp2_with fail
    go_ret
    exact ⟨by rw [HC.out]; rfl, rfl⟩
  · by_cases h2 : b < a
    · have HC := Lib.hid (show cmpI a b = 1 by simp [cmpI, h1, h2])
      go_enter Try.func173, Try.ntmps173
      go_wp2_with fail
      refine (isNaN_c a _).mono ?_
      rintro e w1 ⟨rfl, rfl⟩
      go_wp2_with fail
      refine (isNaN_c b _).mono ?_
      rintro e w1 ⟨rfl, rfl⟩
      go_wp2_with fail
      go_ret
      exact ⟨by rw [HC.out]; rfl, rfl⟩
    · have HC := Lib.hid (show cmpI a b = 0 by simp [cmpI, h1, h2])
      go_enter Try.func173, Try.ntmps173
      go_wp2_with fail
      refine (isNaN_c a _).mono ?_
      rintro e w1 ⟨rfl, rfl⟩
      go_wp2_with fail
      refine (isNaN_c b _).mono ?_
      rintro e w1 ⟨rfl, rfl⟩
      go_wp2_with fail
      go_ret
      exact ⟨by rw [HC.out]; rfl, rfl⟩

theorem or_c (x y : Int) (g : Nat) (w : World) (h0 : w.cell? ⟨g, 0, none⟩ = some (.int .i64 x)) (h1 : w.cell? ⟨g, 1, none⟩ = some (.int .i64 y)) :
    Calls Try.prog 172 #[.slice (some ⟨g, 0, none⟩) 2 2] w fun e w' => e = .returned (.int .i64 (orI x y)) ∧ w' = w := by
  by_cases hx : x = 0
  · by_cases hy : y = 0
    · have HC := Lib.hid (show orI x y = 0 by simp [orI, hx, hy])
      subst hx hy
      go_enter Try.func172, Try.ntmps172
      go_wp2_with fail
      refine wp_loop_rounds 3 ?_
      rw [rounds_succ]
      go_wp2_with fail
      rw [rounds_succ]
      go_wp2_with fail
      rw [rounds_succ]
      go_wp2_with fail
      go_ret
      exact ⟨by rw [HC.out]; rfl, rfl⟩
    · have HC := Lib.hid (show orI x y = y by simp [orI, hx])
      have hy' : (y != 0) = true := by simpa using hy
      subst hx
      go_enter Try.func172, Try.ntmps172
      go_wp2_with fail
      refine wp_loop_rounds 3 ?_
      rw [rounds_succ]
      go_wp2_with fail
      rw [rounds_succ]
      go_wp2_with fail
      go_ret
      exact ⟨by rw [HC.out]; rfl, rfl⟩
  · have HC := Lib.hid (show orI x y = x by simp [orI, hx])
    have hx' : (x != 0) = true := by simpa using hx
    go_enter Try.func172, Try.ntmps172
    go_wp2_with fail
    refine wp_loop_rounds 3 ?_
    rw [rounds_succ]
    go_wp2_with fail
    go_ret
    exact ⟨by rw [HC.out]; rfl, rfl⟩

set_option maxHeartbeats 1000000 in
set_option maxRecDepth 100000 in
theorem compare_b (x y : Int × Int) (w : World) :
    Calls Try.prog 151 #[.agg #[.int .i64 x.1, .int .i64 x.2], .agg #[.int .i64 y.1, .int .i64 y.2]] w fun e w' => e = .returned (.int .i64 (cmpB x y)) ∧ Below w.heap.size w w' := by
  obtain ⟨a, b⟩ := x
  obtain ⟨c, d⟩ := y
  have HC := Lib.hid (show cmpB (a, b) (c, d) = orI (cmpI a c) (cmpI b d) from rfl)
  have hA1 := new_below w (.cells #[.int .i64 a, .int .i64 b] 103)
  have hA2 := new_below (w.alloc (.cells #[.int .i64 a, .int .i64 b] 103)) (.cells #[.int .i64 c, .int .i64 d] 103)
  have HA := Lib.hid (below_on hA1 hA2 hA1.size)
  have HX := Lib.hid ((box_new w a (.int .i64 b) 103).kept hA2)
  have hY := box_new (w.alloc (.cells #[.int .i64 a, .int .i64 b] 103)) c (.int .i64 d) 103
  rw [show (w.alloc (.cells #[.int .i64 a, .int .i64 b] 103)).heap.size = w.heap.size + 1 by simp] at hY
  have HY := Lib.hid hY
  clear hA1 hA2 hY
  go_enter Try.func151, Try.ntmps151
  go_wp2_with fail
  generalize ((w.alloc (.cells #[.int .i64 a, .int .i64 b] 103)).alloc (.cells #[.int .i64 c, .int .i64 d] 103)) = w2 at *
  obtain ⟨_, g1, g2⟩ := HX.out
  obtain ⟨_, g3, g4⟩ := HY.out
  go_still_tail 10, (by kernel_rfl)
  still_call (compare_i _ _ _)
  repeat still_step
  still_call (compare_i _ _ _)
  refine wpStill_nil ?_
  change wpList _ _ _ _ _ w2.drew
  have HD := Lib.hid (HA.out.drew)
  have hds : w.heap.size ≤ w2.drew.heap.size := HA.out.size
  clear g1 g2 g3 g4
  generalize w2.drew = w3 at *
  go_wp2_with fail
  refine (or_c (cmpI a c) (cmpI b d) w3.heap.size _ (by rw [World.cell?_alloc_at _ _ _ _ rfl]; rfl) (by rw [World.cell?_alloc_at _ _ _ _ rfl]; rfl)).mono ?_
  rintro e w4 ⟨rfl, rfl⟩
  go_wp2_with fail
  go_ret
  exact ⟨by rw [HC.out]; rfl, HD.out.alloc hds _⟩
end Go.Proofs.Ytedjhnedkghhoaa
/- What the library's slices.IsSortedFunc answers of bars. No condition. -/
namespace Go.Proofs.Ytedjhnedkghhoaa
open Go.RowKit

/-- Each bar but the first stands behind or beside the one before it. -/
def Srt (l : List (Int × Int)) : Prop := ∀ j : Nat, 0 < j → j < l.length → aftB (l.getD (j - 1) (0, 0)) (l.getD j (0, 0)) = true
open Classical in
noncomputable def sortedB (l : List (Int × Int)) : Bool := if Srt l then true else false
theorem sortedB_yes {l : List (Int × Int)} (h : Srt l) : sortedB l = true := by unfold sortedB; rw [if_pos h]
theorem sortedB_no {l : List (Int × Int)} (h : ¬ Srt l) : sortedB l = false := by unfold sortedB; rw [if_neg h]

set_option maxHeartbeats 1000000 in
set_option maxRecDepth 100000 in
theorem sorted_c (l : List (Int × Int)) (A : Option Addr) (cap : Nat) (w : World) (hl : BarsAt w w.heap.size A l) (hn : l.length ≤ 24) :
    Calls Try.prog 150 #[.slice A l.length cap, .func (.func 151) #[] #[]] w fun e w' => e = .returned (.bool (sortedB l)) ∧ Below w.heap.size w w' := by
  have HL := Lib.hid hl
  clear hl
  go_enter Try.func150, Try.ntmps150
  go_wp2_with fail
  go_loopw [5] (fun i wr => ∃ v : Int, i = .int .i64 v ∧ -1 ≤ v ∧ v < (l.length : Int) ∧ (∀ j : Nat, v < (j : Int) → 0 < j → j < l.length → aftB (l.getD (j - 1) (0, 0)) (l.getD j (0, 0)) = true) ∧ Below w.heap.size w wr) (fun i _ => (intOf i).toNat)
  case atStart => exact ⟨(l.length : Int) - 1, by go_num, by omega, by omega, fun j h1 _ h2 => by omega, Below.refl _ _⟩
  case round =>
    obtain ⟨v, rfl, hv1, hv2, hall, hb⟩ := hrel
    have HB := Lib.hid hb
    have HALL := Lib.hid hall
    have hbs := hb.size
    clear hb hall
    by_cases hv : 0 < v
    · obtain ⟨k, rfl⟩ : ∃ k : Nat, v = (k : Int) + 1 := ⟨(v - 1).toNat, by omega⟩
      obtain ⟨b, off, rfl, hbB, hcell⟩ := HL.out (by omega)
      have hc1 := (HB.out.cell (p := ⟨b, off + (k + 1) * 2, none⟩) hbB).trans (hcell (k + 1) (by omega)).1
      have hc2 := (HB.out.cell (p := ⟨b, off + (k + 1) * 2 + 1, none⟩) hbB).trans (hcell (k + 1) (by omega)).2
      have hc3 := (HB.out.cell (p := ⟨b, off + k * 2, none⟩) hbB).trans (hcell k (by omega)).1
      have hc4 := (HB.out.cell (p := ⟨b, off + k * 2 + 1, none⟩) hbB).trans (hcell k (by omega)).2
      have HS := Lib.hid (fun (h : aftB (l.getD k (0, 0)) (l.getD (k + 1) (0, 0)) = true) (j : Nat) (h1 : (k : Int) < (j : Int)) (h2 : 0 < j) (h3 : j < l.length) => (if e : j = k + 1 then by subst e; exact h else HALL.out j (by omega) h2 h3 : aftB (l.getD (j - 1) (0, 0)) (l.getD j (0, 0)) = true))
      have HN := Lib.hid (fun h : Srt l => h (k + 1) (by omega) (by omega))
      clear hcell
      obtain ⟨x, hx⟩ : ∃ x, l.getD (k + 1) (0, 0) = x := ⟨_, rfl⟩
      obtain ⟨y, hy⟩ : ∃ y, l.getD k (0, 0) = y := ⟨_, rfl⟩
      rw [hx] at hc1 hc2
      rw [hy] at hc3 hc4
      have HSY := Lib.hid (show aftB y x = true → _ from fun h => HS.out (by rw [hx, hy]; exact h))
      have HNY := Lib.hid (show aftB y x = false → ¬ Srt l from fun h k' => by
        have := HN.out k'
        rw [Nat.add_sub_cancel, hx, hy, h] at this
        cases this)
      have HCB := Lib.hid (cmpB_neg x y)
      clear HS HN hx hy
      have hk1 : (0 : Int) ≤ (k : Int) + 1 := by omega
      have htn : ((k : Int) + 1).toNat = k + 1 := by omega
      have hk2 : (k : Int) < (l.length : Int) := by omega
      have hwr : IntKind.i64.wrap (k : Int) = (k : Int) := IntWalk.i64_in _ (by omega)
      obtain ⟨x1, x2⟩ := x
      obtain ⟨y1, y2⟩ := y
      simp only at hc1 hc2 hc3 hc4
      go_wp2_with fail
      go_still_tail 10, (by kernel_rfl)
      change wpList _ _ _ _ _ wr.drew
      have HD := Lib.hid (HB.out.drew)
      have hds : w.heap.size ≤ wr.drew.heap.size := hbs
      clear hc1 hc2 hc3 hc4
      generalize wr.drew = w2 at *
      go_wp2_with fail
      refine (compare_b (x1, x2) (y1, y2) _).mono ?_
      rintro e w3 ⟨rfl, hb3⟩
      have HB3 := Lib.hid (HD.out.trans (hb3.mono hds))
      clear hb3
      by_cases ha : aftB (y1, y2) (x1, x2) = true
      · have hlt : ¬ cmpB (x1, x2) (y1, y2) < 0 := fun h => by have := HCB.out.1 h; rw [this] at ha; cases ha
        have HH := Lib.hid (HSY.out ha)
        clear ha
        go_wp2_with fail
        go_roundw
        case rel => exact ⟨(k : Int), by go_num, by omega, by omega, HH.out, HB3.out⟩
        case measure => simp [intOf] <;> omega
      · have ha' : aftB (y1, y2) (x1, x2) = false := by simpa using ha
        have hlt : cmpB (x1, x2) (y1, y2) < 0 := HCB.out.2 ha'
        have HH := Lib.hid (sortedB_no (HNY.out ha'))
        clear ha ha'
        go_wp2_with fail
        go_ret
        exact ⟨by rw [HH.out]; rfl, HB3.out⟩
    · have HH := Lib.hid (sortedB_yes (l := l) fun j h1 h2 => HALL.out j (by omega) h1 h2)
      go_wp2_with fail
      go_ret
      exact ⟨by rw [HH.out]; rfl, HB.out⟩
end Go.Proofs.Ytedjhnedkghhoaa
/- What the program's IsGraph answers: the same as the specification's. No condition. -/
namespace Go.Proofs.Ytedjhnedkghhoaa
open Go.RowKit

theorem specIsGraph' (p : Int) (l : List (Int × Int)) (A : Option Addr) (cap : Nat) (w : World) (hl : BarsAt w w.heap.size A l) (hn : l.length ≤ 1048576) :
    Calls Try.prog 87 #[.agg #[.int .i64 p, .slice A l.length cap]] w fun e w' => e = .returned (.bool (isGB p l)) ∧ Below w.heap.size w w' := specIsGraph p l A cap w hl (by omega)

/-- A bar's ends are in order and below p. -/
def EndsOk (p : Int) (l : List (Int × Int)) (k : Nat) : Prop := 0 ≤ (l.getD k (0, 0)).1 ∧ (l.getD k (0, 0)).1 < (l.getD k (0, 0)).2 ∧ (l.getD k (0, 0)).2 < p
theorem isG_of {p : Int} {l : List (Int × Int)} (hp : 1 ≤ p ∧ p ≤ 8) (h24 : l.length ≤ 24) (he : ∀ k, k < l.length → EndsOk p l k) (hs : Srt l) : IsG p l :=
  ⟨hp, h24, fun i hi => ⟨(he i hi).1, (he i hi).2.1, (he i hi).2.2, fun h0 => hs i h0 hi⟩⟩
theorem srt_of {p : Int} {l : List (Int × Int)} (h : IsG p l) : Srt l := fun j h0 hj => (h.2.2 j hj).2.2.2 h0

set_option maxHeartbeats 2000000 in
set_option maxRecDepth 100000 in
theorem implIsGraph (p : Int) (l : List (Int × Int)) (A : Option Addr) (cap : Nat) (w : World) (hl : BarsAt w w.heap.size A l) (hn : l.length ≤ 1048576) :
    Calls Try.prog 102 #[.agg #[.int .i64 p, .slice A l.length cap]] w fun e w' => e = .returned (.bool (isGB p l)) ∧ Below w.heap.size w w' := by
  have hA := new_below w (.cells #[.int .i64 p, .slice A l.length cap] 30)
  have HA := Lib.hid hA
  have HL := Lib.hid (hl.on hA)
  have BX := Lib.hid (box_new w p (.slice A l.length cap) 30)
  clear hl hA
  by_cases hp : 1 ≤ p ∧ p ≤ 8
  · by_cases h24 : l.length ≤ 24
    · obtain ⟨hp1, hp2⟩ := hp
      have d1 : ¬ p < 1 := by omega
      have d2 : ¬ 8 < p := by omega
      have d3 : ¬ (24 : Int) < (l.length : Int) := by omega
      go_enter Try.func102, Try.ntmps102
      go_wp2_with fail
      generalize (w.alloc (.cells #[.int .i64 p, .slice A l.length cap] 30)) = w0 at *
      go_loopw [22] (fun i wr => ∃ k : Nat, k ≤ l.length ∧ i = .int .i64 k ∧ (∀ j, j < k → EndsOk p l j) ∧ Below w0.heap.size w0 wr) (fun i _ => l.length - (intOf i).toNat)
      case atStart => exact ⟨0, by omega, rfl, fun j hj => absurd hj (by omega), Below.refl _ _⟩
      case round =>
        obtain ⟨k, hk, rfl, hok, hb⟩ := hrel
        have BX1 := Lib.hid (BX.out.kept hb)
        have HB := Lib.hid hb
        have HOK := Lib.hid hok
        have hbs := hb.size
        clear hb hok
        by_cases hlt : k < l.length
        · have hi : (k : Int) < (l.length : Int) := by omega
          obtain ⟨b, off, rfl, hbB, hcell⟩ := HL.out (by omega)
          have hc1 := (HB.out.cell (p := ⟨b, off + k * 2, none⟩) hbB).trans (hcell k hlt).1
          have hc2 := (HB.out.cell (p := ⟨b, off + k * 2 + 1, none⟩) hbB).trans (hcell k hlt).2
          have HSTEP := Lib.hid (show EndsOk p l k → ∀ j, j < k + 1 → EndsOk p l j from fun h j hj => by
            by_cases e : j = k
            · subst e; exact h
            · exact HOK.out j (by omega))
          have HNOT := Lib.hid (show ¬ EndsOk p l k → isGB p l = false from fun h => isGB_no fun g => h ⟨(g.2.2 k hlt).1, (g.2.2 k hlt).2.1, (g.2.2 k hlt).2.2.1⟩)
          have HDEF := Lib.hid (show EndsOk p l k = (0 ≤ (l.getD k (0, 0)).1 ∧ (l.getD k (0, 0)).1 < (l.getD k (0, 0)).2 ∧ (l.getD k (0, 0)).2 < p) from rfl)
          obtain ⟨x, hx⟩ : ∃ x, l.getD k (0, 0) = x := ⟨_, rfl⟩
          rw [hx] at hc1 hc2 HDEF
          clear hx hcell
          obtain ⟨x1, x2⟩ := x
          simp only at hc1 hc2 HDEF
          have hal := new_below wr (.cells #[.int .i64 x1, .int .i64 x2] 103)
          have BX2 := Lib.hid (BX1.out.kept hal)
          have HX2 := Lib.hid (box_new wr x1 (.int .i64 x2) 103)
          have HB2 := Lib.hid (below_on HB.out hal hbs)
          clear hal
          obtain ⟨_, g2, g3⟩ := BX2.out
          by_cases c1 : x1 < 0
          · have Q := Lib.hid (HNOT.out (by rw [HDEF.out]; omega))
            go_wp2_with fail
            go_ret
            exact ⟨by rw [Q.out]; rfl, below_on HA.out HB2.out HA.out.size⟩
          · by_cases c2 : x2 ≤ x1
            · have Q := Lib.hid (HNOT.out (by rw [HDEF.out]; omega))
              go_wp2_with fail
              go_ret
              exact ⟨by rw [Q.out]; rfl, below_on HA.out HB2.out HA.out.size⟩
            · by_cases c3 : p ≤ x2
              · have Q := Lib.hid (HNOT.out (by rw [HDEF.out]; omega))
                go_wp2_with fail
                go_ret
                exact ⟨by rw [Q.out]; rfl, below_on HA.out HB2.out HA.out.size⟩
              · have HS := Lib.hid (HSTEP.out (by rw [HDEF.out]; omega))
                go_wp2_with fail
                go_roundw
                case rel => exact ⟨k + 1, by omega, by go_num, HS.out, HB2.out⟩
                case measure => simp [intOf]; omega
        · obtain rfl : k = l.length := by omega
          have HQ := Lib.hid (show isGB p l = sortedB l by
            by_cases h : Srt l
            · rw [sortedB_yes h, isGB_yes (isG_of ⟨hp1, hp2⟩ h24 HOK.out h)]
            · rw [sortedB_no h, isGB_no fun g => h (srt_of g)])
          obtain ⟨_, g2, g3⟩ := BX1.out
          go_wp2_with fail
          clear g2 g3
          refine (sorted_c l A cap _ (HL.out.on HB.out) h24).mono ?_
          rintro e w3 ⟨rfl, hb3⟩
          have HB3 := Lib.hid (below_on (below_on HA.out HB.out HA.out.size) hb3 (Nat.le_trans HA.out.size hbs))
          clear hb3
          go_wp2_with fail
          go_ret
          exact ⟨by rw [HQ.out]; rfl, HB3.out⟩
    · obtain ⟨hp1, hp2⟩ := hp
      have d1 : ¬ p < 1 := by omega
      have d2 : ¬ 8 < p := by omega
      have d3 : (24 : Int) < (l.length : Int) := by omega
      have Q := Lib.hid (isGB_no (p := p) (l := l) fun g => h24 g.2.1)
      go_enter Try.func102, Try.ntmps102
      go_wp2_with fail
      go_ret
      exact ⟨by rw [Q.out]; rfl, HA.out⟩
  · have Q := Lib.hid (isGB_no (p := p) (l := l) fun g => hp g.1)
    by_cases d1 : p < 1
    · clear hp
      go_enter Try.func102, Try.ntmps102
      go_wp2_with fail
      go_ret
      exact ⟨by rw [Q.out]; rfl, HA.out⟩
    · have d2 : 8 < p := by omega
      clear hp
      go_enter Try.func102, Try.ntmps102
      go_wp2_with fail
      go_ret
      exact ⟨by rw [Q.out]; rfl, HA.out⟩
end Go.Proofs.Ytedjhnedkghhoaa
/- How the laws compare, mark and measure a state of the pebble game. No condition. -/
namespace Go.Proofs.Ytedjhnedkghhoaa
open Go.RowKit

set_option maxHeartbeats 2000000 in
set_option maxRecDepth 100000 in
theorem szInts_c (A : Option Addr) (n cap : Nat) (left : Int) (w : World) (hn : n ≤ 9223372036854775807) (h0 : 0 ≤ left) (h1 : left ≤ 1048576) :
    Calls Try.prog 96 #[.slice A n cap, .int .i64 left] w fun e w' => e = .returned (.int .i64 (if left - (n : Int) < 0 then -1 else left - (n : Int))) ∧ w = w' := by
  by_cases c : left - (n : Int) < 0
  all_goals
    first | rw [if_pos c] | rw [if_neg c]
    go_enter Try.func96, Try.ntmps96
    go_wp2_with fail
    go_ret
    exact ⟨rfl, rfl⟩

end Go.Proofs.Ytedjhnedkghhoaa
/- What impl.NewPebbles answers. No condition. -/
namespace Go.Proofs.Ytedjhnedkghhoaa
open Go.RowKit

/-- What NewPebbles answers. -/
noncomputable def newB (p k : Int) (l : List (Int × Int)) : Bool := isGB p l && (decide (1 ≤ k) && decide (k ≤ 3))
noncomputable def newF (p k : Int) (l : List (Int × Int)) : List Int := if newB p k l = true then List.replicate p.toNat k else []
theorem new_no {p k : Int} {l : List (Int × Int)} (h : isGB p l = false ∨ k < 1 ∨ 3 < k) : newB p k l = false ∧ newF p k l = [] := by
  have hb : newB p k l = false := by
    unfold newB
    rcases h with h | h | h
    · rw [h]; rfl
    · rw [decide_eq_false (by omega : ¬ 1 ≤ k)]; simp
    · rw [decide_eq_false (by omega : ¬ k ≤ 3)]; simp
  exact ⟨hb, by unfold newF; rw [hb]; rfl⟩
theorem new_yes {P : Nat} {k : Int} {l : List (Int × Int)} (h : isGB (P : Int) l = true) (h1 : 1 ≤ k) (h2 : k ≤ 3) : newB (P : Int) k l = true ∧ newF (P : Int) k l = List.replicate P k := by
  have hb : newB (P : Int) k l = true := by
    unfold newB
    rw [h, decide_eq_true h1, decide_eq_true h2]
    rfl
  exact ⟨hb, by unfold newF; rw [hb, if_pos rfl, Int.toNat_natCast]⟩
theorem newF_len (p k : Int) (l : List (Int × Int)) : (newF p k l).length ≤ 1048576 := by
  by_cases h : newB p k l = true
  · have hg : isGB p l = true := by
      cases e : isGB p l with
      | true => rfl
      | false => rw [(new_no (k := k) (.inl e)).1] at h; cases h
    have hG : IsG p l := Classical.byContradiction fun g => by rw [isGB_no g] at hg; cases hg
    unfold newF
    rw [if_pos h, List.length_replicate]
    have := hG.1
    omega
  · unfold newF
    rw [if_neg h]
    simp
/-- A state of the call's own, and a bool. -/
def PebOB (w : World) (F T Z : List Int) (r : Bool) (e : Ending) (w' : World) : Prop :=
  ∃ AF cF AT cT AZ cZ, e = .returned (.tuple #[pebV AF F.length cF AT T.length cT AZ Z.length cZ, .bool r]) ∧ Own3 w' w.heap.size w'.heap.size AF cF AT cT AZ cZ F T Z ∧ Below w.heap.size w w'
theorem own3_nil (w : World) (lo : Nat) (h : lo ≤ w.heap.size) (AF AT AZ : Option Addr) (cF cT cZ : Nat) : Own3 w lo w.heap.size AF cF AT cT AZ cZ [] [] [] :=
  ⟨(w.heap.size, w.heap.size), (w.heap.size, w.heap.size), (w.heap.size, w.heap.size), ⟨Nat.le_refl _, .inl rfl⟩, ⟨Nat.le_refl _, .inl rfl⟩, ⟨Nat.le_refl _, .inl rfl⟩, .inl (Nat.le_refl _), .inl (Nat.le_refl _), .inl (Nat.le_refl _), ⟨h, Nat.le_refl _⟩, ⟨h, Nat.le_refl _⟩, ⟨h, Nat.le_refl _⟩, Nat.le_refl _⟩
theorem own3_f {W : World} {lo a b : Nat} {AF AT AZ : Option Addr} {cF cT cZ : Nat} {F : List Int} (h : OwnInts W a b AF cF F) (h1 : lo ≤ a) (h2 : b ≤ W.heap.size) (h3 : lo ≤ W.heap.size) : Own3 W lo W.heap.size AF cF AT cT AZ cZ F [] [] :=
  ⟨(a, b), (W.heap.size, W.heap.size), (W.heap.size, W.heap.size), h, ⟨Nat.le_refl _, .inl rfl⟩, ⟨Nat.le_refl _, .inl rfl⟩, .inl h2, .inl h2, .inl (Nat.le_refl _), ⟨h1, h2⟩, ⟨h3, Nat.le_refl _⟩, ⟨h3, Nat.le_refl _⟩, Nat.le_refl _⟩

set_option maxHeartbeats 2000000 in
set_option maxRecDepth 100000 in
theorem implNewP (p k : Int) (l : List (Int × Int)) (A : Option Addr) (cap : Nat) (w : World) (hl : BarsAt w w.heap.size A l) (hn : l.length ≤ 1048576) :
    Calls Try.prog 59 #[.agg #[.int .i64 p, .slice A l.length cap], .int .i64 k] w (PebOB w (newF p k l) [] [] (newB p k l)) := by
  have HISG : ∀ W : World, BarsAt W W.heap.size A l → Calls Try.prog 102 #[.agg #[.int .i64 p, .slice A l.length cap]] W fun e w' => e = .returned (.bool (isGB p l)) ∧ Below W.heap.size W w' := fun W h => implIsGraph p l A cap W h hn
  by_cases hbad : isGB p l = false ∨ k < 1 ∨ 3 < k
  · have HR := Lib.hid (new_no hbad)
    rcases hg : isGB p l with _ | _
    · skip
      rw [hg] at HISG
      clear hbad
      have W0 := Lib.hid (Below.refl w.heap.size w)
      have HB_0 := Lib.hid (bars_in hl)
      clear hl
      have Z1 := Lib.hid (within_alloc w (.cells #[.int .i64 p, (.slice A l.length cap)] 30)).size
      have W1 := Lib.hid (within_on W0.out (within_alloc w (.cells #[.int .i64 p, (.slice A l.length cap)] 30)) W0.out.size (.inr (Nat.le_refl _)))
      have HB_1 := Lib.hid (HB_0.out.within (within_alloc w (.cells #[.int .i64 p, (.slice A l.length cap)] 30)) (by omega))
      have Y1 := Lib.hid (show (w.alloc (.cells #[.int .i64 p, (.slice A l.length cap)] 30)).heap.size = w.heap.size + 1 by simp)
      have hnew := box_new w p (.slice A l.length cap) 30
      have BX_1 := Lib.hid hnew
      clear hnew
      have Z2 := Lib.hid (within_alloc (w.alloc (.cells #[.int .i64 p, (.slice A l.length cap)] 30)) (.cells #[(.slice none 0 0), (.slice none 0 0), (.slice none 0 0)] 58)).size
      have W2 := Lib.hid (within_on W1.out (within_alloc (w.alloc (.cells #[.int .i64 p, (.slice A l.length cap)] 30)) (.cells #[(.slice none 0 0), (.slice none 0 0), (.slice none 0 0)] 58)) W1.out.size (.inr (Nat.le_refl _)))
      have HB_2 := Lib.hid (HB_1.out.within (within_alloc (w.alloc (.cells #[.int .i64 p, (.slice A l.length cap)] 30)) (.cells #[(.slice none 0 0), (.slice none 0 0), (.slice none 0 0)] 58)) (by omega))
      have BX_2 := Lib.hid (BX_1.out.within (within_alloc (w.alloc (.cells #[.int .i64 p, (.slice A l.length cap)] 30)) (.cells #[(.slice none 0 0), (.slice none 0 0), (.slice none 0 0)] 58)) (by omega))
      have Y2 := Lib.hid (show ((w.alloc (.cells #[.int .i64 p, (.slice A l.length cap)] 30)).alloc (.cells #[(.slice none 0 0), (.slice none 0 0), (.slice none 0 0)] 58)).heap.size = (w.alloc (.cells #[.int .i64 p, (.slice A l.length cap)] 30)).heap.size + 1 by simp)
      have hnew := cel3_new (w.alloc (.cells #[.int .i64 p, (.slice A l.length cap)] 30)) (.slice none 0 0) (.slice none 0 0) (.slice none 0 0) 58
      rw [show (w.alloc (.cells #[.int .i64 p, (.slice A l.length cap)] 30)).heap.size = w.heap.size + 1 by simp] at hnew
      have GR_2 := Lib.hid hnew
      clear hnew
      go_enter Try.func59, Try.ntmps59
      obtain ⟨g0_0, g0_1, g0_2⟩ := BX_2.out
      go_wp2_with fail
      clear g0_0 g0_1 g0_2
      generalize ((w.alloc (.cells #[.int .i64 p, (.slice A l.length cap)] 30)).alloc (.cells #[(.slice none 0 0), (.slice none 0 0), (.slice none 0 0)] 58)) = w2 at *
      generalize (w.alloc (.cells #[.int .i64 p, (.slice A l.length cap)] 30)) = w1 at *
      refine (HISG _ HB_2.out.at).mono ?_
      rintro e w3 ⟨rfl, hb⟩
      have Z3 := Lib.hid (within_of hb).size
      have W3 := Lib.hid (within_on W2.out (within_of hb) W2.out.size (.inr (Nat.le_refl _)))
      have HB_3 := Lib.hid (HB_2.out.within (within_of hb) (by omega))
      have BX_3 := Lib.hid (BX_2.out.within (within_of hb) (by omega))
      have GR_3 := Lib.hid (GR_2.out.within (within_of hb) (by omega))
      clear hb HISG
      obtain ⟨g1_0, g1_1, g1_2, g1_3, g1_4, g1_5⟩ := GR_3.out.cells
      have Z4 := Lib.hid ((ret3 GR_3.out (.slice none 0 0) (.slice none 0 0) (.slice none 0 0)).2).size
      have W4 := Lib.hid (within_on W3.out ((ret3 GR_3.out (.slice none 0 0) (.slice none 0 0) (.slice none 0 0)).2) W3.out.size (by have := Z1.out; have := Z2.out; have := Z3.out; have := Z4.out; have := Y1.out; have := Y2.out; omega))
      have HB_4 := Lib.hid (HB_3.out.within ((ret3 GR_3.out (.slice none 0 0) (.slice none 0 0) (.slice none 0 0)).2) (by have := Z1.out; have := Z2.out; have := Z3.out; have := Z4.out; have := Y1.out; have := Y2.out; omega))
      have BX_4 := Lib.hid (BX_3.out.within ((ret3 GR_3.out (.slice none 0 0) (.slice none 0 0) (.slice none 0 0)).2) (by have := Z1.out; have := Z2.out; have := Z3.out; have := Z4.out; have := Y1.out; have := Y2.out; omega))
      have GR_4 := Lib.hid ((ret3 GR_3.out (.slice none 0 0) (.slice none 0 0) (.slice none 0 0)).1)
      obtain ⟨g2_0, g2_1, g2_2, g2_3, g2_4, g2_5⟩ := GR_4.out.cells
      go_wp2_with fail
      generalize (((w3.setCell ⟨w.heap.size + 1, 0, none⟩ (.slice none 0 0)).setCell ⟨w.heap.size + 1, 1, none⟩ (.slice none 0 0)).setCell ⟨w.heap.size + 1, 2, none⟩ (.slice none 0 0)) = w4 at *
      refine bodyPost_ret (v := .tuple #[pebV none 0 0 none 0 0 none 0 0, .bool false]) ?_ rfl ?_
      · simp [results, Try.results59, go_sem, g2_0, g2_1, g2_2]
      · rw [HR.out.1, HR.out.2]
        exact ⟨none, 0, none, 0, none, 0, rfl, own3_nil _ _ W4.out.size _ _ _ _ _ _, W4.out⟩
    · skip
      rw [hg] at HISG
      have hk : (k < 1) ∨ (¬ k < 1 ∧ 3 < k) := by simp only [hg] at hbad; simp at hbad; omega
      clear hbad
      have W0 := Lib.hid (Below.refl w.heap.size w)
      have HB_0 := Lib.hid (bars_in hl)
      clear hl
      have Z1 := Lib.hid (within_alloc w (.cells #[.int .i64 p, (.slice A l.length cap)] 30)).size
      have W1 := Lib.hid (within_on W0.out (within_alloc w (.cells #[.int .i64 p, (.slice A l.length cap)] 30)) W0.out.size (.inr (Nat.le_refl _)))
      have HB_1 := Lib.hid (HB_0.out.within (within_alloc w (.cells #[.int .i64 p, (.slice A l.length cap)] 30)) (by omega))
      have Y1 := Lib.hid (show (w.alloc (.cells #[.int .i64 p, (.slice A l.length cap)] 30)).heap.size = w.heap.size + 1 by simp)
      have hnew := box_new w p (.slice A l.length cap) 30
      have BX_1 := Lib.hid hnew
      clear hnew
      have Z2 := Lib.hid (within_alloc (w.alloc (.cells #[.int .i64 p, (.slice A l.length cap)] 30)) (.cells #[(.slice none 0 0), (.slice none 0 0), (.slice none 0 0)] 58)).size
      have W2 := Lib.hid (within_on W1.out (within_alloc (w.alloc (.cells #[.int .i64 p, (.slice A l.length cap)] 30)) (.cells #[(.slice none 0 0), (.slice none 0 0), (.slice none 0 0)] 58)) W1.out.size (.inr (Nat.le_refl _)))
      have HB_2 := Lib.hid (HB_1.out.within (within_alloc (w.alloc (.cells #[.int .i64 p, (.slice A l.length cap)] 30)) (.cells #[(.slice none 0 0), (.slice none 0 0), (.slice none 0 0)] 58)) (by omega))
      have BX_2 := Lib.hid (BX_1.out.within (within_alloc (w.alloc (.cells #[.int .i64 p, (.slice A l.length cap)] 30)) (.cells #[(.slice none 0 0), (.slice none 0 0), (.slice none 0 0)] 58)) (by omega))
      have Y2 := Lib.hid (show ((w.alloc (.cells #[.int .i64 p, (.slice A l.length cap)] 30)).alloc (.cells #[(.slice none 0 0), (.slice none 0 0), (.slice none 0 0)] 58)).heap.size = (w.alloc (.cells #[.int .i64 p, (.slice A l.length cap)] 30)).heap.size + 1 by simp)
      have hnew := cel3_new (w.alloc (.cells #[.int .i64 p, (.slice A l.length cap)] 30)) (.slice none 0 0) (.slice none 0 0) (.slice none 0 0) 58
      rw [show (w.alloc (.cells #[.int .i64 p, (.slice A l.length cap)] 30)).heap.size = w.heap.size + 1 by simp] at hnew
      have GR_2 := Lib.hid hnew
      clear hnew
      go_enter Try.func59, Try.ntmps59
      obtain ⟨g0_0, g0_1, g0_2⟩ := BX_2.out
      go_wp2_with fail
      clear g0_0 g0_1 g0_2
      generalize ((w.alloc (.cells #[.int .i64 p, (.slice A l.length cap)] 30)).alloc (.cells #[(.slice none 0 0), (.slice none 0 0), (.slice none 0 0)] 58)) = w2 at *
      generalize (w.alloc (.cells #[.int .i64 p, (.slice A l.length cap)] 30)) = w1 at *
      refine (HISG _ HB_2.out.at).mono ?_
      rintro e w3 ⟨rfl, hb⟩
      have Z3 := Lib.hid (within_of hb).size
      have W3 := Lib.hid (within_on W2.out (within_of hb) W2.out.size (.inr (Nat.le_refl _)))
      have HB_3 := Lib.hid (HB_2.out.within (within_of hb) (by omega))
      have BX_3 := Lib.hid (BX_2.out.within (within_of hb) (by omega))
      have GR_3 := Lib.hid (GR_2.out.within (within_of hb) (by omega))
      clear hb HISG
      rcases hk with hk | ⟨hk1, hk⟩
      all_goals
        obtain ⟨g1_0, g1_1, g1_2, g1_3, g1_4, g1_5⟩ := GR_3.out.cells
        have Z4 := Lib.hid ((ret3 GR_3.out (.slice none 0 0) (.slice none 0 0) (.slice none 0 0)).2).size
        have W4 := Lib.hid (within_on W3.out ((ret3 GR_3.out (.slice none 0 0) (.slice none 0 0) (.slice none 0 0)).2) W3.out.size (by have := Z1.out; have := Z2.out; have := Z3.out; have := Z4.out; have := Y1.out; have := Y2.out; omega))
        have HB_4 := Lib.hid (HB_3.out.within ((ret3 GR_3.out (.slice none 0 0) (.slice none 0 0) (.slice none 0 0)).2) (by have := Z1.out; have := Z2.out; have := Z3.out; have := Z4.out; have := Y1.out; have := Y2.out; omega))
        have BX_4 := Lib.hid (BX_3.out.within ((ret3 GR_3.out (.slice none 0 0) (.slice none 0 0) (.slice none 0 0)).2) (by have := Z1.out; have := Z2.out; have := Z3.out; have := Z4.out; have := Y1.out; have := Y2.out; omega))
        have GR_4 := Lib.hid ((ret3 GR_3.out (.slice none 0 0) (.slice none 0 0) (.slice none 0 0)).1)
        obtain ⟨g2_0, g2_1, g2_2, g2_3, g2_4, g2_5⟩ := GR_4.out.cells
        go_wp2_with fail
        generalize (((w3.setCell ⟨w.heap.size + 1, 0, none⟩ (.slice none 0 0)).setCell ⟨w.heap.size + 1, 1, none⟩ (.slice none 0 0)).setCell ⟨w.heap.size + 1, 2, none⟩ (.slice none 0 0)) = w4 at *
        refine bodyPost_ret (v := .tuple #[pebV none 0 0 none 0 0 none 0 0, .bool false]) ?_ rfl ?_
        · simp [results, Try.results59, go_sem, g2_0, g2_1, g2_2]
        · rw [HR.out.1, HR.out.2]
          exact ⟨none, 0, none, 0, none, 0, rfl, own3_nil _ _ W4.out.size _ _ _ _ _ _, W4.out⟩
  · skip
    have hg : isGB p l = true := by
      cases h : isGB p l with
      | true => rfl
      | false => exact absurd (.inl h) hbad
    have hG : IsG p l := Classical.byContradiction fun g => by rw [isGB_no g] at hg; cases hg
    obtain ⟨P, rfl⟩ : ∃ P : Nat, p = (P : Int) := ⟨p.toNat, by have := hG.1; omega⟩
    have hP : 1 ≤ P ∧ P ≤ 8 := by have := hG.1; omega
    have hk1 : ¬ k < 1 := by omega
    have hk2 : ¬ 3 < k := by omega
    have HR := Lib.hid (new_yes (l := l) hg (by omega : 1 ≤ k) (by omega))
    rw [hg] at HISG
    clear hbad hG hg
    have W0 := Lib.hid (Below.refl w.heap.size w)
    have HB_0 := Lib.hid (bars_in hl)
    clear hl
    have Z1 := Lib.hid (within_alloc w (.cells #[.int .i64 (P : Int), (.slice A l.length cap)] 30)).size
    have W1 := Lib.hid (within_on W0.out (within_alloc w (.cells #[.int .i64 (P : Int), (.slice A l.length cap)] 30)) W0.out.size (.inr (Nat.le_refl _)))
    have HB_1 := Lib.hid (HB_0.out.within (within_alloc w (.cells #[.int .i64 (P : Int), (.slice A l.length cap)] 30)) (by omega))
    have Y1 := Lib.hid (show (w.alloc (.cells #[.int .i64 (P : Int), (.slice A l.length cap)] 30)).heap.size = w.heap.size + 1 by simp)
    have hnew := box_new w (P : Int) (.slice A l.length cap) 30
    have BX_1 := Lib.hid hnew
    clear hnew
    have Z2 := Lib.hid (within_alloc (w.alloc (.cells #[.int .i64 (P : Int), (.slice A l.length cap)] 30)) (.cells #[(.slice none 0 0), (.slice none 0 0), (.slice none 0 0)] 58)).size
    have W2 := Lib.hid (within_on W1.out (within_alloc (w.alloc (.cells #[.int .i64 (P : Int), (.slice A l.length cap)] 30)) (.cells #[(.slice none 0 0), (.slice none 0 0), (.slice none 0 0)] 58)) W1.out.size (.inr (Nat.le_refl _)))
    have HB_2 := Lib.hid (HB_1.out.within (within_alloc (w.alloc (.cells #[.int .i64 (P : Int), (.slice A l.length cap)] 30)) (.cells #[(.slice none 0 0), (.slice none 0 0), (.slice none 0 0)] 58)) (by omega))
    have BX_2 := Lib.hid (BX_1.out.within (within_alloc (w.alloc (.cells #[.int .i64 (P : Int), (.slice A l.length cap)] 30)) (.cells #[(.slice none 0 0), (.slice none 0 0), (.slice none 0 0)] 58)) (by omega))
    have Y2 := Lib.hid (show ((w.alloc (.cells #[.int .i64 (P : Int), (.slice A l.length cap)] 30)).alloc (.cells #[(.slice none 0 0), (.slice none 0 0), (.slice none 0 0)] 58)).heap.size = (w.alloc (.cells #[.int .i64 (P : Int), (.slice A l.length cap)] 30)).heap.size + 1 by simp)
    have hnew := cel3_new (w.alloc (.cells #[.int .i64 (P : Int), (.slice A l.length cap)] 30)) (.slice none 0 0) (.slice none 0 0) (.slice none 0 0) 58
    rw [show (w.alloc (.cells #[.int .i64 (P : Int), (.slice A l.length cap)] 30)).heap.size = w.heap.size + 1 by simp] at hnew
    have GR_2 := Lib.hid hnew
    clear hnew
    go_enter Try.func59, Try.ntmps59
    obtain ⟨g0_0, g0_1, g0_2⟩ := BX_2.out
    go_wp2_with fail
    clear g0_0 g0_1 g0_2
    generalize ((w.alloc (.cells #[.int .i64 (P : Int), (.slice A l.length cap)] 30)).alloc (.cells #[(.slice none 0 0), (.slice none 0 0), (.slice none 0 0)] 58)) = w2 at *
    generalize (w.alloc (.cells #[.int .i64 (P : Int), (.slice A l.length cap)] 30)) = w1 at *
    refine (HISG _ HB_2.out.at).mono ?_
    rintro e w3 ⟨rfl, hb⟩
    have Z3 := Lib.hid (within_of hb).size
    have W3 := Lib.hid (within_on W2.out (within_of hb) W2.out.size (.inr (Nat.le_refl _)))
    have HB_3 := Lib.hid (HB_2.out.within (within_of hb) (by omega))
    have BX_3 := Lib.hid (BX_2.out.within (within_of hb) (by omega))
    have GR_3 := Lib.hid (GR_2.out.within (within_of hb) (by omega))
    clear hb HISG
    have Z4 := Lib.hid (within_alloc w3 (.cells #[.int .i64 k] 3)).size
    have W4 := Lib.hid (within_on W3.out (within_alloc w3 (.cells #[.int .i64 k] 3)) W3.out.size (.inr (Nat.le_refl _)))
    have HB_4 := Lib.hid (HB_3.out.within (within_alloc w3 (.cells #[.int .i64 k] 3)) (by omega))
    have BX_4 := Lib.hid (BX_3.out.within (within_alloc w3 (.cells #[.int .i64 k] 3)) (by omega))
    have GR_4 := Lib.hid (GR_3.out.within (within_alloc w3 (.cells #[.int .i64 k] 3)) (by omega))
    have Y4 := Lib.hid (show (w3.alloc (.cells #[.int .i64 k] 3)).heap.size = w3.heap.size + 1 by simp)
    have hck : (w3.alloc (.cells #[.int .i64 k] 3)).cell? ⟨w3.heap.size, 0, none⟩ = some (.int .i64 k) := by rw [World.cell?_alloc_at _ _ _ _ rfl]; rfl
    have HCK := Lib.hid hck
    clear hck
    obtain ⟨g1_0, g1_1, g1_2⟩ := BX_4.out
    go_wp2_with fail
    clear g1_0 g1_1 g1_2
    generalize (w3.alloc (.cells #[.int .i64 k] 3)) = w4 at *
    refine (slRepeat P k w3.heap.size _ hP.1 hP.2 HCK.out).mono ?_
    rintro e w5 ⟨g, rfl, ho, hb⟩
    have Z5 := Lib.hid (within_of hb).size
    have W5 := Lib.hid (within_on W4.out (within_of hb) W4.out.size (.inr (Nat.le_refl _)))
    have HB_5 := Lib.hid (HB_4.out.within (within_of hb) (by omega))
    have BX_5 := Lib.hid (BX_4.out.within (within_of hb) (by omega))
    have GR_5 := Lib.hid (GR_4.out.within (within_of hb) (by omega))
    have OF_5 := Lib.hid (own_ints' (zs := List.replicate P k) (by rw [List.length_replicate]; exact ho))
    clear ho hb
    obtain ⟨g2_0, g2_1, g2_2, g2_3, g2_4, g2_5⟩ := GR_5.out.cells
    have Z6 := Lib.hid ((ret3 GR_5.out (.slice (some ⟨g, 0, none⟩) P P) (.slice none 0 0) (.slice none 0 0)).2).size
    have W6 := Lib.hid (within_on W5.out ((ret3 GR_5.out (.slice (some ⟨g, 0, none⟩) P P) (.slice none 0 0) (.slice none 0 0)).2) W5.out.size (by have := Z1.out; have := Z2.out; have := Z3.out; have := Z4.out; have := Z5.out; have := Z6.out; have := Y1.out; have := Y2.out; have := Y4.out; omega))
    have HB_6 := Lib.hid (HB_5.out.within ((ret3 GR_5.out (.slice (some ⟨g, 0, none⟩) P P) (.slice none 0 0) (.slice none 0 0)).2) (by have := Z1.out; have := Z2.out; have := Z3.out; have := Z4.out; have := Z5.out; have := Z6.out; have := Y1.out; have := Y2.out; have := Y4.out; omega))
    have BX_6 := Lib.hid (BX_5.out.within ((ret3 GR_5.out (.slice (some ⟨g, 0, none⟩) P P) (.slice none 0 0) (.slice none 0 0)).2) (by have := Z1.out; have := Z2.out; have := Z3.out; have := Z4.out; have := Z5.out; have := Z6.out; have := Y1.out; have := Y2.out; have := Y4.out; omega))
    have GR_6 := Lib.hid ((ret3 GR_5.out (.slice (some ⟨g, 0, none⟩) P P) (.slice none 0 0) (.slice none 0 0)).1)
    have OF_6 := Lib.hid (OF_5.out.within ((ret3 GR_5.out (.slice (some ⟨g, 0, none⟩) P P) (.slice none 0 0) (.slice none 0 0)).2) (by have := Z1.out; have := Z2.out; have := Z3.out; have := Z4.out; have := Z5.out; have := Z6.out; have := Y1.out; have := Y2.out; have := Y4.out; omega))
    obtain ⟨g3_0, g3_1, g3_2, g3_3, g3_4, g3_5⟩ := GR_6.out.cells
    go_wp2_with fail
    generalize (((w5.setCell ⟨w.heap.size + 1, 0, none⟩ (.slice (some ⟨g, 0, none⟩) P P)).setCell ⟨w.heap.size + 1, 1, none⟩ (.slice none 0 0)).setCell ⟨w.heap.size + 1, 2, none⟩ (.slice none 0 0)) = w6 at *
    refine bodyPost_ret (v := .tuple #[pebV (some ⟨g, 0, none⟩) P P none 0 0 none 0 0, .bool true]) ?_ rfl ?_
    · simp [results, Try.results59, go_sem, g3_0, g3_1, g3_2]
    · rw [HR.out.1, HR.out.2]
      exact ⟨some ⟨g, 0, none⟩, P, none, 0, none, 0, by rw [List.length_replicate]; rfl, own3_f OF_6.out (by have := Z1.out; have := Z2.out; have := Z3.out; have := Z4.out; have := Z5.out; have := Z6.out; have := Y1.out; have := Y2.out; have := Y4.out; omega) (by have := Z1.out; have := Z2.out; have := Z3.out; have := Z4.out; have := Z5.out; have := Z6.out; have := Y1.out; have := Y2.out; have := Y4.out; omega) (by have := Z1.out; have := Z2.out; have := Z3.out; have := Z4.out; have := Z5.out; have := Z6.out; have := Y1.out; have := Y2.out; have := Y4.out; omega), W6.out⟩

end Go.Proofs.Ytedjhnedkghhoaa
/- What the pebble game answers, bar by bar. No program. No condition. -/
namespace Go.Proofs.Ytedjhnedkghhoaa
open Go.RowKit

/-- What RunPebbles answers. -/
noncomputable def runB (p k c : Int) (l : List (Int × Int)) : Bool := newB p k l && rangeB k c
noncomputable def runV (p k c : Int) (l : List (Int × Int)) : List Int × List Int × List Int := if runB p k c l = true then runN p.toNat k c l l.length else ([], [], [])
theorem runV_no {p k c : Int} {l : List (Int × Int)} (h : newB p k l = false ∨ rangeB k c = false) : runB p k c l = false ∧ runV p k c l = ([], [], []) := by
  have hb : runB p k c l = false := by
    unfold runB
    rcases h with h | h <;> rw [h] <;> simp
  exact ⟨hb, by unfold runV; rw [hb]; rfl⟩
theorem newB_is {p k : Int} {l : List (Int × Int)} (h : newB p k l = true) : IsG p l ∧ 1 ≤ k ∧ k ≤ 3 := by
  unfold newB at h
  simp only [Bool.and_eq_true, decide_eq_true_eq] at h
  exact ⟨Classical.byContradiction fun g => (by have h1 := h.1; rw [isGB_no g] at h1; cases h1), h.2.1, h.2.2⟩
theorem runV_yes {P : Nat} {k c : Int} {l : List (Int × Int)} (h : newB (P : Int) k l = true) (h2 : rangeB k c = true) : runB (P : Int) k c l = true ∧ runV (P : Int) k c l = runN P k c l l.length := by
  have hb : runB (P : Int) k c l = true := by unfold runB; rw [h, h2]; rfl
  exact ⟨hb, by unfold runV; rw [if_pos hb, Int.toNat_natCast]⟩
/-- A game that can be run, after n bars. -/
theorem runN_at {P : Nat} {k c : Int} {l : List (Int × Int)} (h : newB (P : Int) k l = true) (h2 : rangeB k c = true) {n : Nat} (hn : n ≤ l.length) : IsPeb (P : Int) k l (runN P k c l n).1 (runN P k c l n).2.1 (runN P k c l n).2.2 :=
  (runN_ok (newB_is h).1 (newB_is h).2 (rangeB_is h2).2.1 n hn).1
/-- One bar more. -/
theorem runN_step {P : Nat} {k c : Int} {l : List (Int × Int)} (h : newB (P : Int) k l = true) (h2 : rangeB k c = true) {n : Nat} (hn : n < l.length) :
    plaV (P : Int) k c l (runN P k c l n).1 (runN P k c l n).2.1 (runN P k c l n).2.2 (n : Int) = plaR l c (runN P k c l n).1 (runN P k c l n).2.1 (runN P k c l n).2.2 (n : Int) ∧
    runN P k c l (n + 1) = (plaR l c (runN P k c l n).1 (runN P k c l n).2.1 (runN P k c l n).2.2 (n : Int)).getD (runN P k c l n) := by
  obtain ⟨h3, h4, h5⟩ := runN_ok (newB_is h).1 (newB_is h).2 (rangeB_is h2).2.1 n (Nat.le_of_lt hn)
  refine ⟨?_, by rw [runN]⟩
  unfold plaV
  rw [if_pos ⟨isPebB_yes h3, h2, ⟨by omega, by omega⟩, h5⟩]
theorem runN_len {P : Nat} {k c : Int} {l : List (Int × Int)} (h : newB (P : Int) k l = true) (h2 : rangeB k c = true) {n : Nat} (hn : n ≤ l.length) : (runN P k c l n).1.length ≤ 8 ∧ (runN P k c l n).2.1.length ≤ 24 ∧ (runN P k c l n).2.2.length ≤ 24 :=
  (runN_at h h2 hn).lens
theorem runV_len (p k c : Int) (l : List (Int × Int)) : (runV p k c l).1.length ≤ 8 ∧ (runV p k c l).2.1.length ≤ 24 ∧ (runV p k c l).2.2.length ≤ 24 := by
  by_cases h : newB p k l = true
  · by_cases h2 : rangeB k c = true
    · have hG := (newB_is h).1
      obtain ⟨P, rfl⟩ : ∃ P : Nat, p = (P : Int) := ⟨p.toNat, by have := hG.1; omega⟩
      rw [(runV_yes h h2).2]
      exact runN_len h h2 (Nat.le_refl _)
    · rw [(runV_no (.inr (by simpa using h2))).2]; simp
  · rw [(runV_no (.inl (by simpa using h))).2]; simp
end Go.Proofs.Ytedjhnedkghhoaa
/- What RankOf answers, as a number. No program. No condition. -/
namespace Go.Proofs.Ytedjhnedkghhoaa
open Go.RowKit

/-- What RankOf answers. -/
noncomputable def rankV (p k c : Int) (l : List (Int × Int)) : Int := if runB p k c l = true then (((runV p k c l).2.2.length : Nat) : Int) else -1
end Go.Proofs.Ytedjhnedkghhoaa
/- What RankOfSet answers, as a number. No program's walk. No condition. -/
namespace Go.Proofs.Ytedjhnedkghhoaa
open Go.RowKit

/-- What RankOfSet answers. -/
noncomputable def rankSV (p k c : Int) (l : List (Int × Int)) (zs : List Int) : Int := if isGB p l = true then rankV p k c (onlyL l zs) else -1
end Go.Proofs.Ytedjhnedkghhoaa
/- What IsIndependent answers; that the bars kept do not depend on a list's order. No program. No condition. -/
namespace Go.Proofs.Ytedjhnedkghhoaa
open Go.RowKit

/-- What IsIndependent answers. -/
noncomputable def indB (p k c : Int) (l : List (Int × Int)) (zs : List Int) : Bool := setB p l zs && rangeB k c && decide (rankSV p k c l zs = (zs.length : Int))
theorem indB_set {p k c : Int} {l : List (Int × Int)} {zs : List Int} (h : setB p l zs = false) : indB p k c l zs = false := by unfold indB; rw [h]; rfl
theorem indB_rng {p k c : Int} {l : List (Int × Int)} {zs : List Int} (h : rangeB k c = false) : indB p k c l zs = false := by unfold indB; rw [h]; simp
theorem indB_yes {p k c : Int} {l : List (Int × Int)} {zs : List Int} (h : setB p l zs = true) (h2 : rangeB k c = true) : indB p k c l zs = decide (rankSV p k c l zs = (zs.length : Int)) := by unfold indB; rw [h, h2]; simp
theorem onlyK_same (l : List (Int × Int)) (S T : Nat → Bool) : ∀ n, (∀ j, j < n → S j = T j) → onlyK l S n = onlyK l T n := by
  intro n
  induction n with
  | zero => intro _; rfl
  | succ n ih =>
    intro h
    unfold onlyK
    rw [ih (fun j hj => h j (by omega)), h n (by omega)]
theorem onlyL_same {l : List (Int × Int)} {zs ys : List Int} (h : ∀ j : Nat, j < l.length → ((j : Int) ∈ zs ↔ (j : Int) ∈ ys)) : onlyL l zs = onlyL l ys :=
  onlyK_same l _ _ _ fun j hj => by unfold inS; exact decide_eq_decide.2 (h j hj)
theorem rankSV_same {p k c : Int} {l : List (Int × Int)} {zs ys : List Int} (h : ∀ j : Nat, j < l.length → ((j : Int) ∈ zs ↔ (j : Int) ∈ ys)) : rankSV p k c l zs = rankSV p k c l ys := by
  unfold rankSV
  rw [onlyL_same h]
end Go.Proofs.Ytedjhnedkghhoaa
/- A circuit: what is needed of ranks, sizes and sets. No program. No condition. -/
namespace Go.Proofs.Ytedjhnedkghhoaa
open Go.RowKit

/-- A list without a number. -/
def woL (zs : List Int) (x : Int) : List Int := zs.filter fun y => !decide (y = x)
theorem okS_pair {m : Nat} {Z : List Int} (h : ∀ j, j < Z.length → OkS m Z j) : (∀ x, x ∈ Z → 0 ≤ x ∧ x < (m : Int)) ∧ Z.Pairwise (· < ·) := by
  constructor
  · intro x hx
    obtain ⟨i, hi, rfl⟩ := List.getElem_of_mem hx
    have := (h i hi).1
    simpa [List.getD, List.getElem?_eq_getElem hi] using this
  · rw [List.pairwise_iff_getElem]
    intro i j hi hj hij
    have q : ∀ d, i + d + 1 < Z.length → Z.getD i 0 < Z.getD (i + d + 1) 0 := by
      intro d
      induction d with
      | zero => intro hd; have := (h (i + 1) hd).2 (by omega); simpa using this
      | succ d ih =>
        intro hd
        have h1 := ih (by omega)
        have h2 := (h (i + (d + 1) + 1) hd).2 (by omega)
        rw [show i + (d + 1) + 1 - 1 = i + d + 1 by omega] at h2
        omega
    have := q (j - i - 1) (by omega)
    rw [show i + (j - i - 1) + 1 = j by omega] at this
    simpa [List.getD, List.getElem?_eq_getElem hi, List.getElem?_eq_getElem hj] using this
theorem okS_of {m : Nat} {Z : List Int} (h1 : ∀ x, x ∈ Z → 0 ≤ x ∧ x < (m : Int)) (h2 : Z.Pairwise (· < ·)) : ∀ j, j < Z.length → OkS m Z j := by
  intro j hj
  rw [List.pairwise_iff_getElem] at h2
  refine ⟨?_, fun h0 => ?_⟩
  · have := h1 Z[j] (List.getElem_mem hj)
    simpa [List.getD, List.getElem?_eq_getElem hj] using this
  · have := h2 (j - 1) j (by omega) hj (by omega)
    simpa [List.getD, List.getElem?_eq_getElem hj, List.getElem?_eq_getElem (show j - 1 < Z.length by omega)] using this
theorem setB_wo {p : Int} {l : List (Int × Int)} {zs : List Int} (h : setB p l zs = true) (x : Int) : setB p l (woL zs x) = true := by
  obtain ⟨h1, h2⟩ := setB_is h
  obtain ⟨h3, h4⟩ := okS_pair h1
  rw [setB_all (okS_of (Z := woL zs x) (m := l.length) (fun y hy => h3 y (List.mem_filter.1 hy).1) (h4.filter _)), isGB_yes h2]
theorem wo_len : ∀ zs : List Int, zs.Pairwise (· < ·) → ∀ x, x ∈ zs → (woL zs x).length + 1 = zs.length := by
  intro zs
  induction zs with
  | nil => intro _ x hx; cases hx
  | cons a t ih =>
    intro hp x hx
    obtain ⟨h1, h2⟩ := List.pairwise_cons.1 hp
    unfold woL
    by_cases e : a = x
    · subst e
      have : t.filter (fun y => !decide (y = a)) = t := List.filter_eq_self.2 fun y hy => by
        have := h1 y hy
        simp
        omega
      simp [this]
    · have hxt : x ∈ t := by
        rcases List.mem_cons.1 hx with h | h
        · exact absurd h.symm e
        · exact h
      have := ih h2 x hxt
      unfold woL at this
      simp [e]
      omega
theorem setB_len {p : Int} {l : List (Int × Int)} {zs : List Int} (h : setB p l zs = true) {x : Int} (hx : x ∈ zs) : (woL zs x).length + 1 = zs.length := wo_len zs (okS_pair (setB_is h).1).2 x hx
theorem cnt_le (n : Nat) : ∀ ys : List Int, ys.countP (fun y => decide (y < (n : Int))) + (if (n : Int) ∈ ys then 1 else 0) ≤ ys.countP (fun y => decide (y < ((n + 1 : Nat) : Int))) := by
  intro ys
  induction ys with
  | nil => simp
  | cons a t ih =>
    rw [List.countP_cons, List.countP_cons]
    by_cases e : (n : Int) = a
    · subst e
      rw [if_pos List.mem_cons_self]
      have h1 : decide ((n : Int) < (n : Int)) = false := by simp
      have h2 : decide ((n : Int) < ((n + 1 : Nat) : Int)) = true := by simp; omega
      rw [h1, h2]
      have : t.countP (fun y => decide (y < (n : Int))) ≤ t.countP (fun y => decide (y < ((n + 1 : Nat) : Int))) := by
        split at ih <;> omega
      rw [if_neg (by decide), if_pos rfl]
      omega
    · have hm : (if (n : Int) ∈ a :: t then 1 else 0) = (if (n : Int) ∈ t then (1 : Nat) else 0) := by simp [e]
      rw [hm]
      have : (if decide (a < (n : Int)) = true then 1 else 0) ≤ (if decide (a < ((n + 1 : Nat) : Int)) = true then 1 else 0) := by
        by_cases h : a < (n : Int)
        · rw [if_pos (by simpa using h), if_pos (by simp; omega)]; exact Nat.le_refl _
        · rw [if_neg (by simpa using h)]; omega
      omega
theorem onlyK_cnt (l : List (Int × Int)) (ys : List Int) : ∀ n, (onlyK l (inS ys) n).length ≤ ys.countP (fun y => decide (y < (n : Int))) := by
  intro n
  induction n with
  | zero => unfold onlyK; simp
  | succ n ih =>
    have h := cnt_le n ys
    unfold onlyK
    by_cases e : (n : Int) ∈ ys
    · have : inS ys n = true := by unfold inS; simpa using e
      rw [if_pos e] at h
      rw [if_pos this, List.length_append, List.length_singleton]
      omega
    · have : inS ys n = false := by unfold inS; simpa using e
      rw [if_neg e] at h
      rw [if_neg (by rw [this]; decide), List.append_nil]
      omega
theorem rankV_le (p k c : Int) (l : List (Int × Int)) : rankV p k c l ≤ (l.length : Int) := by
  unfold rankV
  by_cases h : newB p k l = true
  · by_cases h2 : rangeB k c = true
    · have hG := (newB_is h).1
      obtain ⟨P, rfl⟩ : ∃ P : Nat, p = (P : Int) := ⟨p.toNat, by have := hG.1; omega⟩
      rw [(runV_yes h h2).1, (runV_yes h h2).2, if_pos rfl]
      have := (runN_ok (newB_is h).1 (newB_is h).2 (rangeB_is h2).2.1 l.length (Nat.le_refl _)).2.1
      omega
    · rw [(runV_no (.inr (by simpa using h2))).1]; simp
  · rw [(runV_no (.inl (by simpa using h))).1]; simp
theorem rankSV_le (p k c : Int) (l : List (Int × Int)) (ys : List Int) : rankSV p k c l ys ≤ (ys.length : Int) := by
  unfold rankSV
  split
  · have h1 := rankV_le p k c (onlyL l ys)
    have h2 : (onlyL l ys).length ≤ ys.length := Nat.le_trans (onlyK_cnt l ys l.length) List.countP_le_length
    omega
  · omega
/-- A set without one of its bars is independent just if its rank is not less than one less than the set's size. -/
theorem ind_wo {p k c : Int} {l : List (Int × Int)} {zs : List Int} (h : setB p l zs = true) (hr : rangeB k c = true) {x : Int} (hx : x ∈ zs) : indB p k c l (woL zs x) = !decide (rankSV p k c l (woL zs x) < (zs.length : Int) - 1) := by
  rw [indB_yes (setB_wo h x) hr]
  have h1 := setB_len h hx
  have h2 := rankSV_le p k c l (woL zs x)
  generalize rankSV p k c l (woL zs x) = r at *
  by_cases e : r = ((woL zs x).length : Int)
  · rw [decide_eq_true e, decide_eq_false (by omega)]; rfl
  · rw [decide_eq_false e, decide_eq_true (by omega)]; rfl
open Classical in
/-- What IsCircuit answers. -/
noncomputable def cirB (p k c : Int) (l : List (Int × Int)) (zs : List Int) : Bool :=
  if setB p l zs = true ∧ rangeB k c = true ∧ indB p k c l zs = false ∧ ∀ j, j < zs.length → indB p k c l (woL zs (zs.getD j 0)) = true then true else false
theorem cirB_no {p k c : Int} {l : List (Int × Int)} {zs : List Int} (h : setB p l zs = false ∨ rangeB k c = false ∨ indB p k c l zs = true) : cirB p k c l zs = false := by
  unfold cirB
  refine if_neg fun q => ?_
  rcases h with h | h | h
  · rw [q.1] at h; cases h
  · rw [q.2.1] at h; cases h
  · rw [q.2.2.1] at h; cases h
theorem cirB_bad {p k c : Int} {l : List (Int × Int)} {zs : List Int} {j : Nat} (hj : j < zs.length) (h : indB p k c l (woL zs (zs.getD j 0)) = false) : cirB p k c l zs = false := by
  unfold cirB
  refine if_neg fun q => ?_
  rw [q.2.2.2 j hj] at h
  cases h
theorem cirB_yes {p k c : Int} {l : List (Int × Int)} {zs : List Int} (h1 : setB p l zs = true) (h2 : rangeB k c = true) (h3 : indB p k c l zs = false) (h4 : ∀ j, j < zs.length → indB p k c l (woL zs (zs.getD j 0)) = true) : cirB p k c l zs = true := by
  unfold cirB
  exact if_pos ⟨h1, h2, h3, h4⟩
theorem wo_step (zs : List Int) (x : Int) (j : Nat) (h : j < zs.length) : woL (zs.take (j + 1)) x = if zs.getD j 0 = x then woL (zs.take j) x else woL (zs.take j) x ++ [zs.getD j 0] := by
  unfold woL
  rw [List.take_add_one, List.filter_append]
  simp only [List.getD, List.getElem?_eq_getElem h, Option.getD_some, Option.toList_some]
  by_cases e : zs[j] = x
  · simp [e]
  · simp [e]
end Go.Proofs.Ytedjhnedkghhoaa
/- What IsForest answers, by ranks and by pieces. No program's walk. No condition. -/
namespace Go.Proofs.Ytedjhnedkghhoaa
open Go.RowKit

theorem rk_full {P : Nat} {k c : Int} {l : List (Int × Int)} (hb : Bars P l) (hP : 1 ≤ P ∧ P ≤ 8) (hk : 1 ≤ k) (hc : 0 ≤ c) (hc2 : c < 2 * k) : rk P k c l = l.length ↔ IndL P k c l := by
  have h := rk_greedy hb hP hk hc
  have hs := h.sub
  constructor
  · intro e
    have el : (plE l (runN P k c l l.length).2.2).length = l.length := by rw [plE_len]; exact e
    have e2 := hs.eq_of_length el
    have hi := h.ind
    rwa [e2] at hi
  · intro hi
    have h1 := h.most hb hk hc hc2 (List.Sublist.refl _) hi
    have h2 := hs.length_le
    rw [plE_len] at h1 h2
    unfold rk
    omega
theorem filt_step (n : Nat) : ∀ zs : List Int, zs.Pairwise (· < ·) → zs.filter (fun y => decide (y < ((n + 1 : Nat) : Int))) = zs.filter (fun y => decide (y < (n : Int))) ++ if inS zs n then [(n : Int)] else [] := by
  intro zs
  induction zs with
  | nil => intro _; rfl
  | cons a t ih =>
    intro hp
    obtain ⟨h1, h2⟩ := List.pairwise_cons.1 hp
    have ih := ih h2
    by_cases c1 : a < (n : Int)
    · have e : inS (a :: t) n = inS t n := by
        unfold inS
        rw [decide_eq_decide, List.mem_cons]
        exact ⟨fun h => h.resolve_left (by omega), .inr⟩
      rw [List.filter_cons_of_pos (by simp; omega), List.filter_cons_of_pos (by simpa using c1), ih, e]
      rfl
    · have e0 : t.filter (fun y => decide (y < ((n + 1 : Nat) : Int))) = [] := List.filter_eq_nil_iff.2 fun y hy => by
        have := h1 y hy
        simp
        omega
      have e1 : t.filter (fun y => decide (y < (n : Int))) = [] := List.filter_eq_nil_iff.2 fun y hy => by
        have := h1 y hy
        simp
        omega
      by_cases c2 : a = (n : Int)
      · have e : inS (a :: t) n = true := decide_eq_true (by rw [c2]; simp)
        rw [List.filter_cons_of_pos (by simp; omega), List.filter_cons_of_neg (by simpa using c1), e0, e1, e, c2]
        rfl
      · have e : inS (a :: t) n = false := decide_eq_false fun h => by
          rcases List.mem_cons.1 h with h | h
          · exact c2 h.symm
          · have := h1 _ h
            omega
        rw [List.filter_cons_of_neg (by simp; omega), List.filter_cons_of_neg (by simpa using c1), e0, e1, e]
        rfl
theorem onlyK_asc (l : List (Int × Int)) (zs : List Int) (h0 : ∀ x, x ∈ zs → 0 ≤ x) (hp : zs.Pairwise (· < ·)) : ∀ n : Nat, onlyK l (inS zs) n = plE l (zs.filter fun y => decide (y < (n : Int))) := by
  intro n
  induction n with
  | zero =>
    have : zs.filter (fun y => decide (y < ((0 : Nat) : Int))) = [] := List.filter_eq_nil_iff.2 fun y hy => by
      have := h0 y hy
      simp
      omega
    rw [this]
    rfl
  | succ n ih =>
    rw [onlyK, ih, filt_step n zs hp]
    cases inS zs n
    · simp
    · simp only [if_true]
      rw [plE_snoc, Int.toNat_natCast]
theorem only_asc {p : Int} {l : List (Int × Int)} {zs : List Int} (h : setB p l zs = true) : onlyL l zs = plE l zs := by
  obtain ⟨h1, _⟩ := setB_is h
  obtain ⟨h3, h4⟩ := okS_pair h1
  unfold onlyL
  rw [onlyK_asc l zs (fun x hx => (h3 x hx).1) h4]
  congr 1
  exact List.filter_eq_self.2 fun y hy => by simpa using (h3 y hy).2
theorem plE_in {p : Int} {l : List (Int × Int)} {zs : List Int} (h : setB p l zs = true) : BarsE p.toNat (plE l zs) := by
  obtain ⟨h1, hG⟩ := setB_is h
  obtain ⟨h3, _⟩ := okS_pair h1
  intro x hx
  obtain ⟨z, hz, rfl⟩ := List.mem_map.1 hx
  have hb := h3 z hz
  have := isG_bar hG z.toNat (by omega)
  have := hG.1
  omega
theorem barsE_bars {P : Nat} {E : List (Int × Int)} (h : BarsE P E) : Bars P E := ⟨fun i hi => by
  have e : E.getD i (0, 0) = E[i] := by simp [List.getD, List.getElem?_eq_getElem hi]
  rw [e]
  exact h _ (List.getElem_mem hi)⟩
theorem isG_part {p : Int} {l E : List (Int × Int)} (h : IsG p l) (hs : E.Sublist l) : IsG p E := by
  refine isG_ofB h.1 (Nat.le_trans hs.length_le h.2.1) (fun x hx => ?_) ((isG_ord h).sublist hs)
  obtain ⟨j, hj, rfl⟩ := List.getElem_of_mem (hs.subset hx)
  have hb := h.2.2 j hj
  have e : l.getD j (0, 0) = l[j] := by simp [List.getD, List.getElem?_eq_getElem hj]
  unfold OkBar at hb
  rw [e] at hb
  exact ⟨hb.1, hb.2.1, hb.2.2.1⟩
theorem onlyL_sub (l : List (Int × Int)) (zs : List Int) : (onlyL l zs).Sublist l := by
  have := onlyK_sub l (inS zs) l.length (Nat.le_refl _)
  rwa [List.take_length] at this
theorem rankSV_rk {p k c : Int} {l : List (Int × Int)} {zs : List Int} (hG : IsG p l) (hk : 1 ≤ k ∧ k ≤ 3) (hr : rangeB k c = true) : rankSV p k c l zs = (rk p.toNat k c (onlyL l zs) : Int) := by
  obtain ⟨P, rfl⟩ : ∃ P : Nat, p = (P : Int) := ⟨p.toNat, by have := hG.1; omega⟩
  have hG2 := isG_part hG (onlyL_sub l zs)
  have hnew : newB (P : Int) k (onlyL l zs) = true := by
    unfold newB
    rw [isGB_yes hG2, decide_eq_true hk.1, decide_eq_true hk.2]
    rfl
  have hrun : runB (P : Int) k c (onlyL l zs) = true := by unfold runB; rw [hnew, hr]; rfl
  unfold rankSV rankV rk
  rw [isGB_yes hG, if_pos rfl, if_pos hrun, (runV_yes hnew hr).2, Int.toNat_natCast]
/-- IsForest, by pieces. -/
theorem ind_pcs {p : Int} {l : List (Int × Int)} {zs : List Int} (h : setB p l zs = true) : indB p 1 1 l zs = decide ((pcsN p.toNat (rootF p.toNat (plE l zs)) : Int) = p - (zs.length : Int)) := by
  have hG := (setB_is h).2
  have hE := plE_in h
  rw [indB_yes h (by rfl), rankSV_rk hG (by omega) (by rfl), only_asc h]
  have h1 := rk_full (k := 1) (c := 1) (barsE_bars hE) (by have := hG.1; omega) (by omega) (by omega) (by omega)
  rw [ind_one _ hE _ (rootF_ok hE.inP), plE_len] at h1
  have hp := hG.1
  rw [decide_eq_decide]
  constructor
  · intro q
    have := h1.1 (by omega)
    omega
  · intro q
    have := h1.2 (by omega)
    omega
end Go.Proofs.Ytedjhnedkghhoaa
/- The other end of a bar, the specification's and the program's; a copy of a row of ints: slices.Clone. No condition. -/
namespace Go.Proofs.Ytedjhnedkghhoaa
open Go.RowKit

set_option maxRecDepth 100000 in
theorem other_c (x : Int × Int) (v : Int) (w : World) (h1 : 0 ≤ x.1 ∧ x.1 ≤ 8) (h2 : 0 ≤ x.2 ∧ x.2 ≤ 8) (h3 : 0 ≤ v ∧ v ≤ 8) :
    Calls Try.prog 175 #[.agg #[.int .i64 x.1, .int .i64 x.2], .int .i64 v] w fun e w' => e = .returned (.int .i64 (oth x v)) ∧ Below w.heap.size w w' := by
  obtain ⟨a, b⟩ := x
  have HO := Lib.hid (show oth (a, b) v = a + b - v from rfl)
  simp only at h1 h2
  go_enter Try.func175, Try.ntmps175
  go_wp2
  go_ret
  exact ⟨by rw [HO.out]; rfl, (Below.refl _ _).alloc (Nat.le_refl _) _⟩

set_option maxRecDepth 100000 in
theorem otherEnd_c (x : Int × Int) (v : Int) (w : World) (h : isEnd x v) :
    Calls Try.prog 177 #[.agg #[.int .i64 x.1, .int .i64 x.2], .int .i64 v] w fun e w' => e = .returned (.int .i64 (oth x v)) ∧ Below w.heap.size w w' := by
  obtain ⟨a, b⟩ := x
  have ho : oth (a, b) v = a + b - v := rfl
  unfold isEnd at h
  simp only at h
  by_cases c : v = a
  · have HO := Lib.hid (show oth (a, b) v = b by omega)
    have e1 : (v == a) = true := by simpa using c
    clear h ho c
    go_enter Try.func177, Try.ntmps177
    go_wp2
    go_ret
    exact ⟨by rw [HO.out]; rfl, (Below.refl _ _).alloc (Nat.le_refl _) _⟩
  · have HO := Lib.hid (show oth (a, b) v = a by omega)
    have e1 : (v == a) = false := by simpa using c
    clear h ho c
    go_enter Try.func177, Try.ntmps177
    go_wp2
    go_ret
    exact ⟨by rw [HO.out]; rfl, (Below.refl _ _).alloc (Nat.le_refl _) _⟩

theorem news_ints {W : World} {lo hi : Nat} {a : Addr} {zs : List Int} (h : IntsIn W lo hi (some a) zs) : ∀ j u, (intCells zs)[j]? = some u → W.cell? (a.add j) = some u := fun j u hj => by
  have hlt : j < zs.length := by
    have := (List.getElem?_eq_some_iff.1 hj).1
    rwa [intCells_len] at this
  obtain ⟨b, off, e, _, _, hc⟩ := h.2 (by omega)
  cases e
  have hadd : (⟨b, off, none⟩ : Addr).add j = ⟨b, off + j, none⟩ := by unfold Addr.add; split <;> simp_all
  rw [hadd, hc j hlt]
  rw [intCells_get zs j hlt] at hj
  exact hj
theorem intCells_one (zs : List Int) : ∀ u ∈ intCells zs, u.oneCell' = true := by
  intro u hu
  obtain ⟨x, _, rfl⟩ := List.mem_map.1 hu
  rfl

set_option maxHeartbeats 2000000 in
set_option maxRecDepth 100000 in
theorem slCloneI (zs : List Int) (A : Option Addr) (cap lo hi : Nat) (w : World) (hz : IntsIn w lo hi A zs) (hn : zs.length ≤ 1048576) :
    Calls Try.prog 142 #[.slice A zs.length cap] w (IntsO w zs) := by
  obtain ⟨i0, hi0, hz0, hz1, hz2⟩ := info_parts infoInt
  have q : ∀ (w : World) (a : Option Addr) (n c n' c' : Nat), (binOp .eql 25 (.slice a n c) (.slice none n' c')).run Try.prog w = .ok (.bool a.isNone) w := fun w a n c n' c' => Go.Lib.run_eql_slice_nil w _ _ a n c n' c' Try.underlying25
  have hm := World.ownsRow_made (base := w.heap.size) (e := 3) (size := 1) w #[] 0 (Nat.le_refl _) (by unfold maxLen; omega) (by simp)
  have HM := Lib.hid hm
  clear hm
  cases A with
  | none =>
    have h0 : zs = [] := by
      refine List.eq_nil_of_length_eq_zero (Nat.eq_zero_of_not_pos fun h => ?_)
      obtain ⟨b, off, e, _⟩ := hz.2 h
      cases e
    subst h0
    clear hz
    go_enter Try.func142, Try.ntmps142
    go_wp2_with fail
    go_ret
    exact ⟨none, 0, rfl, ⟨Nat.le_refl _, .inl rfl⟩, Below.refl _ _⟩
  | some a =>
    have HC := Lib.hid (news_ints (hz.within (within_alloc w (.cells #[] 3)) (.inr (Nat.zero_le _))))
    clear hz
    go_enter Try.func142, Try.ntmps142
    go_wp2_with (at_builtin; refine wpList_append_own _ rfl _ _ 25 rfl w.heap.size 3 i0 _ 1 8 Try.underlying25 hi0 hz0 hz1 hz2 rfl (by omega) _ 0 [] rfl HM.out a zs.length cap (intCells zs) rfl (by rw [intCells_len]; omega) HC.out (intCells_one zs) (by unfold maxLen; omega) (by omega) (by simp) ?_; intro v' w' ho hg hnil; rw [Nat.zero_add, List.nil_append] at ho; obtain ⟨A2, c2, rfl⟩ := own_shape ho; have HO := Lib.hid (own_ints' ho); have HG := Lib.hid (show Below w.heap.size w w' from (new_below w (.cells #[] 3)).grown hg (by simp) fun k hk => by cases hk; exact Nat.le_refl _); clear ho hg hnil)
    go_ret
    exact ⟨A2, c2, rfl, HO.out, HG.out⟩
end Go.Proofs.Ytedjhnedkghhoaa
/- Rows of ints of the call's own, the empty ones too: what an append onto them asks. No condition. -/
namespace Go.Proofs.Ytedjhnedkghhoaa
open Go.RowKit

/-- A row of the call's own in a block from lo to hi, or no block; an empty one too can be appended to. -/
def OwnR (W : World) (lo hi : Nat) (A : Option Addr) (cap : Nat) (zs : List Int) : Prop :=
  hi ≤ W.heap.size ∧ ((A = none ∧ cap = 0 ∧ zs = []) ∨ ∃ g, A = some ⟨g, 0, none⟩ ∧ lo ≤ g ∧ g < hi ∧ W.ownsRow lo 3 1 (.slice (some ⟨g, 0, none⟩) zs.length cap) zs.length (intCells zs))
theorem OwnR.within {W W' : World} {lo hi lo' hi' : Nat} {A : Option Addr} {cap : Nat} {zs : List Int} (h : OwnR W lo hi A cap zs) (hw : Within lo' hi' W W') (hd : hi ≤ lo' ∨ hi' ≤ lo) : OwnR W' lo hi A cap zs :=
  ⟨Nat.le_trans h.1 hw.size, by
    rcases h.2 with h2 | ⟨g, e, h1, h2, ho⟩
    · exact .inl h2
    · exact .inr ⟨g, e, h1, h2, own_block ho (hw.block g (Nat.lt_of_lt_of_le h2 h.1) (by omega))⟩⟩
theorem OwnR.ints {W : World} {lo hi : Nat} {A : Option Addr} {cap : Nat} {zs : List Int} (h : OwnR W lo hi A cap zs) : OwnInts W lo hi A cap zs :=
  ⟨h.1, by
    rcases h.2 with ⟨_, _, h2⟩ | h2
    · exact .inl h2
    · exact .inr h2⟩
/-- What an append onto the row asks. -/
theorem OwnR.row {W : World} {lo hi : Nat} {A : Option Addr} {cap : Nat} {zs : List Int} (h : OwnR W lo hi A cap zs) : W.ownsRow lo 3 1 (.slice A zs.length cap) zs.length (intCells zs) := by
  rcases h.2 with ⟨rfl, rfl, rfl⟩ | ⟨g, rfl, _, _, ho⟩
  · exact ⟨rfl, .inl ⟨rfl, rfl⟩⟩
  · exact ho
theorem own_r {w' : World} {base : Nat} {A : Option Addr} {cap : Nat} {zs : List Int} (h : w'.ownsRow base 3 1 (.slice A zs.length cap) zs.length (intCells zs)) : OwnR w' base w'.heap.size A cap zs := by
  rcases h.2 with ⟨h1, h0⟩ | ⟨g, cap', cur, h1, h2⟩
  · injection h1 with e1 e2 e3
    exact ⟨Nat.le_refl _, .inl ⟨e1, e3, List.eq_nil_of_length_eq_zero h0⟩⟩
  · cases h1
    exact ⟨Nat.le_refl _, .inr ⟨g, rfl, (h.lt g rfl).1, (h.lt g rfl).2, h⟩⟩
/-- A state of the call's own whose rows, the empty ones too, can be appended to. -/
def Own3R (W : World) (lo hi : Nat) (AF : Option Addr) (cF : Nat) (AT : Option Addr) (cT : Nat) (AZ : Option Addr) (cZ : Nat) (F T Z : List Int) : Prop :=
  ∃ f t z : Nat × Nat, OwnR W f.1 f.2 AF cF F ∧ OwnR W t.1 t.2 AT cT T ∧ OwnR W z.1 z.2 AZ cZ Z ∧ Dis f t ∧ Dis f z ∧ Dis t z ∧ (lo ≤ f.1 ∧ f.2 ≤ hi) ∧ (lo ≤ t.1 ∧ t.2 ≤ hi) ∧ (lo ≤ z.1 ∧ z.2 ≤ hi) ∧ hi ≤ W.heap.size
theorem Own3R.own3 {W : World} {lo hi : Nat} {AF AT AZ : Option Addr} {cF cT cZ : Nat} {F T Z : List Int} (h : Own3R W lo hi AF cF AT cT AZ cZ F T Z) : Own3 W lo hi AF cF AT cT AZ cZ F T Z := by
  obtain ⟨f, t, z, h1, h2, h3, r⟩ := h
  exact ⟨f, t, z, h1.ints, h2.ints, h3.ints, r⟩
theorem Own3R.within {W W' : World} {lo hi lo' hi' : Nat} {AF AT AZ : Option Addr} {cF cT cZ : Nat} {F T Z : List Int} (h : Own3R W lo hi AF cF AT cT AZ cZ F T Z) (hw : Within lo' hi' W W') (hd : hi ≤ lo' ∨ hi' ≤ lo) : Own3R W' lo hi AF cF AT cT AZ cZ F T Z := by
  obtain ⟨f, t, z, h1, h2, h3, d1, d2, d3, b1, b2, b3, h4⟩ := h
  exact ⟨f, t, z, h1.within hw (by omega), h2.within hw (by omega), h3.within hw (by omega), d1, d2, d3, b1, b2, b3, Nat.le_trans h4 hw.size⟩
/-- The answer: a row of the call's own that can be appended to. -/
def IntsR (w : World) (zs : List Int) (e : Ending) (w' : World) : Prop :=
  ∃ A cap, e = .returned (.slice A zs.length cap) ∧ OwnR w' w.heap.size w'.heap.size A cap zs ∧ Below w.heap.size w w'
/-- The answer: a state of the call's own that can be appended to. -/
def PebR (w : World) (F T Z : List Int) (e : Ending) (w' : World) : Prop :=
  ∃ AF cF AT cT AZ cZ, e = .returned (pebV AF F.length cF AT T.length cT AZ Z.length cZ) ∧ Own3R w' w.heap.size w'.heap.size AF cF AT cT AZ cZ F T Z ∧ Below w.heap.size w w'

set_option maxHeartbeats 2000000 in
set_option maxRecDepth 100000 in
theorem slCloneR (zs : List Int) (A : Option Addr) (cap lo hi : Nat) (w : World) (hz : IntsIn w lo hi A zs) (hn : zs.length ≤ 1048576) :
    Calls Try.prog 142 #[.slice A zs.length cap] w (IntsR w zs) := by
  obtain ⟨i0, hi0, hz0, hz1, hz2⟩ := info_parts infoInt
  have q : ∀ (w : World) (a : Option Addr) (n c n' c' : Nat), (binOp .eql 25 (.slice a n c) (.slice none n' c')).run Try.prog w = .ok (.bool a.isNone) w := fun w a n c n' c' => Go.Lib.run_eql_slice_nil w _ _ a n c n' c' Try.underlying25
  have hm := World.ownsRow_made (base := w.heap.size) (e := 3) (size := 1) w #[] 0 (Nat.le_refl _) (by unfold maxLen; omega) (by simp)
  have HM := Lib.hid hm
  clear hm
  cases A with
  | none =>
    have h0 : zs = [] := by
      refine List.eq_nil_of_length_eq_zero (Nat.eq_zero_of_not_pos fun h => ?_)
      obtain ⟨b, off, e, _⟩ := hz.2 h
      cases e
    subst h0
    clear hz
    go_enter Try.func142, Try.ntmps142
    go_wp2_with fail
    go_ret
    exact ⟨none, 0, rfl, own_r ⟨rfl, .inl ⟨rfl, rfl⟩⟩, Below.refl _ _⟩
  | some a =>
    have HC := Lib.hid (news_ints (hz.within (within_alloc w (.cells #[] 3)) (.inr (Nat.zero_le _))))
    clear hz
    go_enter Try.func142, Try.ntmps142
    go_wp2_with (at_builtin; refine wpList_append_own _ rfl _ _ 25 rfl w.heap.size 3 i0 _ 1 8 Try.underlying25 hi0 hz0 hz1 hz2 rfl (by omega) _ 0 [] rfl HM.out a zs.length cap (intCells zs) rfl (by rw [intCells_len]; omega) HC.out (intCells_one zs) (by unfold maxLen; omega) (by omega) (by simp) ?_; intro v' w' ho hg hnil; rw [Nat.zero_add, List.nil_append] at ho; obtain ⟨A2, c2, rfl⟩ := own_shape ho; have HO := Lib.hid (own_r ho); have HG := Lib.hid (show Below w.heap.size w w' from (new_below w (.cells #[] 3)).grown hg (by simp) fun k hk => by cases hk; exact Nat.le_refl _); clear ho hg hnil)
    go_ret
    exact ⟨A2, c2, rfl, HO.out, HG.out⟩
end Go.Proofs.Ytedjhnedkghhoaa
/- A copy of a row of ints by append onto an empty row: what is run, and where the copy lies. No condition. -/
namespace Go.Proofs.Ytedjhnedkghhoaa
open Go.RowKit

theorem run_copyI (w : World) (ty : TypeId) (g : Nat) (A : Option Addr) (zs : List Int) (cap lo hi : Nat) (hz : IntsIn w lo hi A zs) (hn : zs.length ≤ 1048576) :
    ∃ A' c' w', (Builtin.append_ #[25, 25] ty #[.slice (some ⟨g, 0, none⟩) 0 0, .slice A zs.length cap]).run Try.prog w = .ok (.slice A' zs.length c') w' ∧ OwnInts w' w.heap.size w'.heap.size A' c' zs ∧ Below w.heap.size w w' := by
  obtain ⟨i0, hi0, hz0, hz1, hz2⟩ := info_parts infoInt
  by_cases h0 : zs.length = 0
  · have e : zs = [] := List.eq_nil_of_length_eq_zero h0
    subst e
    refine ⟨some ⟨g, 0, none⟩, 0, w, ?_, ⟨Nat.le_refl _, .inl rfl⟩, Below.refl _ _⟩
    cases A <;> simp [Builtin.append_, run_underlying Try.underlying25, sizeOf, typeInfo, hi0, Builtin.lenOf, Builtin.firstCells, loadCells, loadCellsFrom, storeCells]
  · obtain ⟨b, off, rfl, _, _, _⟩ := hz.2 (by omega)
    have hr := run_append_grow (P := Try.prog) w 25 ty 3 i0 _ Try.underlying25 hi0 hz0 ⟨g, 0, none⟩ 0 0 [] (by simp) (fun j v hj => by simp at hj) ⟨b, off, none⟩ zs.length cap (intCells zs) (by rw [hz1, intCells_len]; omega) (news_ints hz) (by omega) (by omega) (growslice_fits (by omega) (by rw [hz2]; omega))
    rw [Nat.zero_add] at hr
    refine ⟨_, _, _, hr, ?_, ((Below.refl _ _).drew).alloc (Nat.le_refl _) _⟩
    have hge := grownCap_ge w zs.length 0 3
    have hcm := grownCap_le_maxLen w zs.length 0 3 (by unfold maxLen; omega)
    refine own_ints' ⟨by rw [intCells_len]; omega, .inr ⟨w.heap.size, _, _, rfl, Nat.le_refl _, heap_alloc_new w.drew _, hge, hcm, ?_, ?_⟩⟩
    · simp only [Array.size_append, List.size_toArray, size_zeroCells]
      rw [intCells_len]
      simp [Value.cells]
      omega
    · have hl : zs.length * 1 = (intCells zs).length := by rw [intCells_len]; omega
      rw [hl]
      simp
theorem wp_copyI {w : World} {o : Oper} {a : Act} {K : Act → World → Prop} {Q : Exit → Act → World → Prop} (s x : Operand) (ho : o.op = .call { callee := .builtin .append, args := #[s, x], argTypes := #[25, 25] })
    (g : Nat) (A : Option Addr) (zs : List Int) (cap lo hi : Nat) (hs : a.eval s = .slice (some ⟨g, 0, none⟩) 0 0) (hx : a.eval x = .slice A zs.length cap) (hz : IntsIn w lo hi A zs) (hn : zs.length ≤ 1048576)
    (h : ∀ A' c' w', OwnInts w' w.heap.size w'.heap.size A' c' zs → Below w.heap.size w w' → K (a.put o.dst (.slice A' zs.length c')) w') : o.wp Try.prog a w K Q := by
  obtain ⟨A', c', w', hr, h2, h3⟩ := run_copyI w o.type g A zs cap lo hi hz hn
  unfold Oper.wp execOp
  simp only [ho, resolve, invoke, builtin, Sem.run_bind, Sem.run_pure, Result.andThen_ok, List.map_toArray, List.map_cons, List.map_nil, hs, hx, hr]
  exact h A' c' w' h2 h3
theorem step_copyI {w : World} {ops : Array Oper} {o : Oper} {a : Act} {K : Act → World → Prop} {Q : Exit → Act → World → Prop} {E : Prop} (hgd : o.guard = none) (s x : Operand) (ho : o.op = .call { callee := .builtin .append, args := #[s, x], argTypes := #[25, 25] })
    (g : Nat) (A : Option Addr) (zs : List Int) (cap lo hi : Nat) (hs : a.eval s = .slice (some ⟨g, 0, none⟩) 0 0) (hx : a.eval x = .slice A zs.length cap) (hz : IntsIn w lo hi A zs) (hn : zs.length ≤ 1048576)
    (h : ∀ A' c' w', OwnInts w' w.heap.size w'.heap.size A' c' zs → Below w.heap.size w w' → K (a.put o.dst (.slice A' zs.length c')) w') : if Region.wanted o (yielded ops a.tmps) = true then Oper.wp Try.prog o a w K Q else E := by
  have hw : Region.wanted o (yielded ops a.tmps) = true := by simp [Region.wanted, hgd]
  rw [if_pos hw]
  exact wp_copyI s x ho g A zs cap lo hi hs hx hz hn h
/-- What stands while a state is copied. -/
structure CpS (w W : World) (AF : Option Addr) (cF : Nat) (AT : Option Addr) (cT : Nat) (AZ : Option Addr) (cZ lo hi : Nat) (F T Z : List Int) : Prop where
  arg : Cel3 W w.heap.size 58 (.slice AF F.length cF) (.slice AT T.length cT) (.slice AZ Z.length cZ)
  ret : Cel3 W (w.heap.size + 1) 58 (.slice none 0 0) (.slice none 0 0) (.slice none 0 0)
  src : Peb3 W lo hi AF AT AZ F T Z
  bel : Below w.heap.size w W
theorem CpS.below {w W W' : World} {AF : Option Addr} {cF : Nat} {AT : Option Addr} {cT : Nat} {AZ : Option Addr} {cZ lo hi : Nat} {F T Z : List Int} (h : CpS w W AF cF AT cT AZ cZ lo hi F T Z) (hb : Below W.heap.size W W') : CpS w W' AF cF AT cT AZ cZ lo hi F T Z :=
  ⟨h.arg.kept hb, h.ret.kept hb, h.src.within (within_of hb) (.inr (Nat.zero_le _)), below_on h.bel hb h.bel.size⟩
theorem CpS.cells {w W : World} {AF : Option Addr} {cF : Nat} {AT : Option Addr} {cT : Nat} {AZ : Option Addr} {cZ lo hi : Nat} {F T Z : List Int} (h : CpS w W AF cF AT cT AZ cZ lo hi F T Z) :
    W.cell? ⟨w.heap.size, 0, none⟩ = some (.slice AF F.length cF) ∧ W.cell? ⟨w.heap.size, 1, none⟩ = some (.slice AT T.length cT) ∧ W.cell? ⟨w.heap.size, 2, none⟩ = some (.slice AZ Z.length cZ) := ⟨h.arg.cells.1, h.arg.cells.2.1, h.arg.cells.2.2.1⟩
/-- A state of the call's own. -/
def PebO (w : World) (F T Z : List Int) (e : Ending) (w' : World) : Prop :=
  ∃ AF cF AT cT AZ cZ, e = .returned (pebV AF F.length cF AT T.length cT AZ Z.length cZ) ∧ Own3 w' w.heap.size w'.heap.size AF cF AT cT AZ cZ F T Z ∧ Below w.heap.size w w'
end Go.Proofs.Ytedjhnedkghhoaa
/- A state of the call's own whose rows are written: where they lie, and what a store makes of them. No condition. -/
namespace Go.Proofs.Ytedjhnedkghhoaa
open Go.RowKit

/-- Three rows in blocks of their own; the first two are not empty. -/
structure St3 (W : World) (B gF cF gT cT : Nat) (AZ : Option Addr) (cZ z1 z2 : Nat) (F T Z : List Int) : Prop where
  f : W.ownsRow B 3 1 (.slice (some ⟨gF, 0, none⟩) F.length cF) F.length (intCells F)
  t : W.ownsRow B 3 1 (.slice (some ⟨gT, 0, none⟩) T.length cT) T.length (intCells T)
  z : OwnInts W z1 z2 AZ cZ Z
  b : B ≤ z1
  ne : gF ≠ gT
  dF : gF < z1 ∨ z2 ≤ gF
  dT : gT < z1 ∨ z2 ≤ gT
theorem own_raise {W : World} {B g cap n size : Nat} {e : TypeId} {xs : List Value} (h : W.ownsRow B e size (.slice (some ⟨g, 0, none⟩) n cap) n xs) : W.ownsRow g e size (.slice (some ⟨g, 0, none⟩) n cap) n xs := by
  refine ⟨h.1, ?_⟩
  rcases h.2 with ⟨h1, _⟩ | ⟨g', cap', cur, h1, _, h3⟩
  · cases h1
  · cases h1
    exact .inr ⟨g, cap, cur, rfl, Nat.le_refl _, h3⟩
theorem Own3.open_ {W : World} {lo hi : Nat} {AF AT AZ : Option Addr} {cF cT cZ : Nat} {F T Z : List Int} (h : Own3 W lo hi AF cF AT cT AZ cZ F T Z) (hF : 0 < F.length) (hT : 0 < T.length) :
    ∃ gF gT z1 z2, AF = some ⟨gF, 0, none⟩ ∧ AT = some ⟨gT, 0, none⟩ ∧ lo ≤ gF ∧ gF < hi ∧ lo ≤ gT ∧ gT < hi ∧ z2 ≤ hi ∧ St3 W lo gF cF gT cT AZ cZ z1 z2 F T Z := by
  obtain ⟨⟨f1, f2⟩, ⟨t1, t2⟩, ⟨z1, z2⟩, o1, o2, o3, d1, d2, d3, b1, b2, b3, h4⟩ := h
  simp only [Dis] at o1 o2 o3 d1 d2 d3 b1 b2 b3
  rcases o1.2 with e | ⟨gF, rfl, g1, g2, hf⟩
  · subst e; simp at hF
  · rcases o2.2 with e | ⟨gT, rfl, g3, g4, ht⟩
    · subst e; simp at hT
    · exact ⟨gF, gT, z1, z2, rfl, rfl, by omega, by omega, by omega, by omega, by omega, own_base hf b1.1, own_base ht b2.1, o3, b3.1, by omega, by omega, by omega⟩
theorem St3.own {W : World} {B gF cF gT cT : Nat} {AZ : Option Addr} {cZ z1 z2 : Nat} {F T Z : List Int} (h : St3 W B gF cF gT cT AZ cZ z1 z2 F T Z) : Own3 W B W.heap.size (some ⟨gF, 0, none⟩) cF (some ⟨gT, 0, none⟩) cT AZ cZ F T Z := by
  have h1 := h.f.lt gF rfl
  have h2 := h.t.lt gT rfl
  have h3 := h.z.1
  have n1 := h.ne
  have n2 := h.dF
  have n3 := h.dT
  have n4 := h.b
  exact ⟨(gF, gF + 1), (gT, gT + 1), (z1, z2), ⟨by simp only []; omega, .inr ⟨gF, rfl, Nat.le_refl _, Nat.lt_succ_self _, own_raise h.f⟩⟩, ⟨by simp only []; omega, .inr ⟨gT, rfl, Nat.le_refl _, Nat.lt_succ_self _, own_raise h.t⟩⟩, h.z, by unfold Dis; simp only []; omega, by unfold Dis; simp only []; omega, by unfold Dis; simp only []; omega, by simp only []; omega, by simp only []; omega, ⟨h.b, h3⟩, Nat.le_refl _⟩
theorem St3.own_hi {W : World} {B gF cF gT cT : Nat} {AZ : Option Addr} {cZ z1 z2 hi : Nat} {F T Z : List Int} (h : St3 W B gF cF gT cT AZ cZ z1 z2 F T Z) (h1 : gF < hi) (h2 : gT < hi) (h3 : z2 ≤ hi) (h4 : hi ≤ W.heap.size) : Own3 W B hi (some ⟨gF, 0, none⟩) cF (some ⟨gT, 0, none⟩) cT AZ cZ F T Z := by
  have k1 := h.f.lt gF rfl
  have k2 := h.t.lt gT rfl
  have n1 := h.ne
  have n2 := h.dF
  have n3 := h.dT
  have n4 := h.b
  exact ⟨(gF, gF + 1), (gT, gT + 1), (z1, z2), ⟨by simp only []; omega, .inr ⟨gF, rfl, Nat.le_refl _, Nat.lt_succ_self _, own_raise h.f⟩⟩, ⟨by simp only []; omega, .inr ⟨gT, rfl, Nat.le_refl _, Nat.lt_succ_self _, own_raise h.t⟩⟩, h.z, by unfold Dis; simp only []; omega, by unfold Dis; simp only []; omega, by unfold Dis; simp only []; omega, by simp only []; omega, by simp only []; omega, ⟨h.b, h3⟩, h4⟩
theorem St3.below {W W' : World} {B gF cF gT cT : Nat} {AZ : Option Addr} {cZ z1 z2 : Nat} {F T Z : List Int} (h : St3 W B gF cF gT cT AZ cZ z1 z2 F T Z) (hb : Below W.heap.size W W') : St3 W' B gF cF gT cT AZ cZ z1 z2 F T Z :=
  ⟨own_below h.f hb, own_below h.t hb, h.z.within (within_of hb) (.inr (Nat.zero_le _)), h.b, h.ne, h.dF, h.dT⟩
theorem St3.within {W W' : World} {B gF cF gT cT : Nat} {AZ : Option Addr} {cZ z1 z2 lo hi : Nat} {F T Z : List Int} (h : St3 W B gF cF gT cT AZ cZ z1 z2 F T Z) (hw : Within lo hi W W') (h1 : gF < lo ∨ hi ≤ gF) (h2 : gT < lo ∨ hi ≤ gT) (h3 : z2 ≤ lo ∨ hi ≤ z1) : St3 W' B gF cF gT cT AZ cZ z1 z2 F T Z :=
  ⟨own_block h.f (hw.block gF (h.f.lt gF rfl).2 h1), own_block h.t (hw.block gT (h.t.lt gT rfl).2 h2), h.z.within hw h3, h.b, h.ne, h.dF, h.dT⟩
theorem intCells_set (zs : List Int) (i : Nat) (x : Int) : (intCells zs).set i (.int .i64 x) = intCells (zs.set i x) := by
  unfold intCells
  rw [← List.map_set]
theorem St3.setF {W : World} {B gF cF gT cT : Nat} {AZ : Option Addr} {cZ z1 z2 : Nat} {F T Z : List Int} (h : St3 W B gF cF gT cT AZ cZ z1 z2 F T Z) (i : Nat) (x : Int) : St3 (W.setCell ⟨gF, i, none⟩ (.int .i64 x)) B gF cF gT cT AZ cZ z1 z2 (F.set i x) T Z := by
  have hw := within_set W gF i (.int .i64 x)
  have h1 := (h.f.stored i (.int .i64 x)).1
  rw [intCells_set] at h1
  exact ⟨by rw [List.length_set]; exact h1, own_block h.t (hw.block gT (h.t.lt gT rfl).2 (by have := h.ne; omega)), h.z.within hw (by have := h.dF; omega), h.b, h.ne, h.dF, h.dT⟩
theorem St3.setT {W : World} {B gF cF gT cT : Nat} {AZ : Option Addr} {cZ z1 z2 : Nat} {F T Z : List Int} (h : St3 W B gF cF gT cT AZ cZ z1 z2 F T Z) (i : Nat) (x : Int) : St3 (W.setCell ⟨gT, i, none⟩ (.int .i64 x)) B gF cF gT cT AZ cZ z1 z2 F (T.set i x) Z := by
  have hw := within_set W gT i (.int .i64 x)
  have h1 := (h.t.stored i (.int .i64 x)).1
  rw [intCells_set] at h1
  exact ⟨own_block h.f (hw.block gF (h.f.lt gF rfl).2 (by have := h.ne; omega)), by rw [List.length_set]; exact h1, h.z.within hw (by have := h.dT; omega), h.b, h.ne, h.dF, h.dT⟩
theorem St3.cellF {W : World} {B gF cF gT cT : Nat} {AZ : Option Addr} {cZ z1 z2 : Nat} {F T Z : List Int} (h : St3 W B gF cF gT cT AZ cZ z1 z2 F T Z) (i : Nat) (hi : i < F.length) : W.cell? ⟨gF, i, none⟩ = some (.int .i64 (F.getD i 0)) ∧ W.frozen? ⟨gF, i, none⟩ = false :=
  ⟨(h.f.cellAt i (by omega)).trans (intCells_get F i hi), h.f.frozenAt i⟩
theorem St3.cellT {W : World} {B gF cF gT cT : Nat} {AZ : Option Addr} {cZ z1 z2 : Nat} {F T Z : List Int} (h : St3 W B gF cF gT cT AZ cZ z1 z2 F T Z) (i : Nat) (hi : i < T.length) : W.cell? ⟨gT, i, none⟩ = some (.int .i64 (T.getD i 0)) ∧ W.frozen? ⟨gT, i, none⟩ = false :=
  ⟨(h.t.cellAt i (by omega)).trans (intCells_get T i hi), h.t.frozenAt i⟩
end Go.Proofs.Ytedjhnedkghhoaa
/- A state of the call's own, each row in a range of its own; what may be written is named. No program's walk. No condition. -/
namespace Go.Proofs.Ytedjhnedkghhoaa
open Go.RowKit

/-- The blocks of two ranges may be written; nothing else was. -/
structure Within2 (f t : Nat × Nat) (w w' : World) : Prop where
  os : w'.os = w.os
  tape : w'.tape = w.tape
  output : w'.output = w.output
  size : w.heap.size ≤ w'.heap.size
  block : ∀ k, k < w.heap.size → (k < f.1 ∨ f.2 ≤ k) → (k < t.1 ∨ t.2 ≤ k) → w'.heap[k]? = w.heap[k]?
theorem Within2.refl (f t : Nat × Nat) (w : World) : Within2 f t w w := ⟨rfl, rfl, rfl, Nat.le_refl _, fun _ _ _ _ => rfl⟩
theorem Within2.trans {f t : Nat × Nat} {a b c : World} (h : Within2 f t a b) (k : Within2 f t b c) : Within2 f t a c :=
  ⟨k.os.trans h.os, k.tape.trans h.tape, k.output.trans h.output, Nat.le_trans h.size k.size, fun i hi' h1 h2 => (k.block i (Nat.lt_of_lt_of_le hi' h.size) h1 h2).trans (h.block i hi' h1 h2)⟩
theorem Within2.of {f t : Nat × Nat} {lo hi : Nat} {a b : World} (h : Within lo hi a b) (hd : hi ≤ lo ∨ (f.1 ≤ lo ∧ hi ≤ f.2) ∨ (t.1 ≤ lo ∧ hi ≤ t.2)) : Within2 f t a b :=
  ⟨h.os, h.tape, h.output, h.size, fun i hi' h1 h2 => h.block i hi' (by omega)⟩
/-- What lies under a bound that no range reaches stands. -/
theorem Within2.one {f t : Nat × Nat} {a b : World} (h : Within2 f t a b) (k : Nat) (h1 : k < f.1 ∨ f.2 ≤ k) (h2 : k < t.1 ∨ t.2 ≤ k) : a.heap.size ≤ k ∨ b.heap[k]? = a.heap[k]? := by
  by_cases hk : k < a.heap.size
  · exact .inr (h.block k hk h1 h2)
  · exact .inl (by omega)
theorem OwnR.at {W W' : World} {lo hi : Nat} {A : Option Addr} {cap : Nat} {zs : List Int} (h : OwnR W lo hi A cap zs) {f t : Nat × Nat} (hw : Within2 f t W W') (h1 : hi ≤ f.1 ∨ f.2 ≤ lo) (h2 : hi ≤ t.1 ∨ t.2 ≤ lo) : OwnR W' lo hi A cap zs :=
  ⟨Nat.le_trans h.1 hw.size, by
    rcases h.2 with e | ⟨g, e, g1, g2, ho⟩
    · exact .inl e
    · exact .inr ⟨g, e, g1, g2, own_block ho (hw.block g (Nat.lt_of_lt_of_le g2 h.1) (by omega) (by omega))⟩⟩
theorem IntsIn.at {W W' : World} {lo hi : Nat} {A : Option Addr} {zs : List Int} (h : IntsIn W lo hi A zs) {f t : Nat × Nat} (hw : Within2 f t W W') (h1 : hi ≤ f.1 ∨ f.2 ≤ lo) (h2 : hi ≤ t.1 ∨ t.2 ≤ lo) : IntsIn W' lo hi A zs :=
  ⟨Nat.le_trans h.1 hw.size, fun hl => by
    obtain ⟨b, off, e, b1, b2, hc⟩ := h.2 hl
    exact ⟨b, off, e, b1, b2, fun k hk => (World.cell?_of_block (a := ⟨b, off + k, none⟩) (hw.block b (Nat.lt_of_lt_of_le b2 h.1) (by omega) (by omega))).trans (hc k hk)⟩⟩
theorem Cel3.at {W W' : World} {b : Nat} {T : TypeId} {v0 v1 v2 : Value} (h : Cel3 W b T v0 v1 v2) {f t : Nat × Nat} (hw : Within2 f t W W') (h1 : b < f.1 ∨ f.2 ≤ b) (h2 : b < t.1 ∨ t.2 ≤ b) : Cel3 W' b T v0 v1 v2 := (hw.block b h.lt h1 h2).trans h
/-- A state of the call's own: each row in its range. -/
def OwnF (W : World) (f t z : Nat × Nat) (AF : Option Addr) (cF : Nat) (AT : Option Addr) (cT : Nat) (AZ : Option Addr) (cZ : Nat) (F T Z : List Int) : Prop :=
  OwnR W f.1 f.2 AF cF F ∧ OwnR W t.1 t.2 AT cT T ∧ OwnR W z.1 z.2 AZ cZ Z ∧ Dis f t ∧ Dis f z ∧ Dis t z
theorem Own3R.ownF {W : World} {lo hi : Nat} {AF AT AZ : Option Addr} {cF cT cZ : Nat} {F T Z : List Int} (h : Own3R W lo hi AF cF AT cT AZ cZ F T Z) : ∃ f t z : Nat × Nat, OwnF W f t z AF cF AT cT AZ cZ F T Z ∧ (lo ≤ f.1 ∧ f.2 ≤ hi) ∧ (lo ≤ t.1 ∧ t.2 ≤ hi) ∧ (lo ≤ z.1 ∧ z.2 ≤ hi) := by
  obtain ⟨f, t, z, h1, h2, h3, d1, d2, d3, b1, b2, b3, _⟩ := h
  exact ⟨f, t, z, ⟨h1, h2, h3, d1, d2, d3⟩, b1, b2, b3⟩
theorem OwnF.hi {W : World} {f t z : Nat × Nat} {AF AT AZ : Option Addr} {cF cT cZ : Nat} {F T Z : List Int} (h : OwnF W f t z AF cF AT cT AZ cZ F T Z) : f.2 ≤ W.heap.size ∧ t.2 ≤ W.heap.size ∧ z.2 ≤ W.heap.size := ⟨h.1.1, h.2.1.1, h.2.2.1.1⟩
theorem OwnF.within {W W' : World} {f t z : Nat × Nat} {AF AT AZ : Option Addr} {cF cT cZ : Nat} {F T Z : List Int} (h : OwnF W f t z AF cF AT cT AZ cZ F T Z) {lo' hi' : Nat} (hw : Within lo' hi' W W') (h1 : f.2 ≤ lo' ∨ hi' ≤ f.1) (h2 : t.2 ≤ lo' ∨ hi' ≤ t.1) (h3 : z.2 ≤ lo' ∨ hi' ≤ z.1) : OwnF W' f t z AF cF AT cT AZ cZ F T Z :=
  ⟨h.1.within hw h1, h.2.1.within hw h2, h.2.2.1.within hw h3, h.2.2.2⟩
theorem OwnF.below {W W' : World} {f t z : Nat × Nat} {AF AT AZ : Option Addr} {cF cT cZ : Nat} {F T Z : List Int} (h : OwnF W f t z AF cF AT cT AZ cZ F T Z) (hb : Below W.heap.size W W') : OwnF W' f t z AF cF AT cT AZ cZ F T Z :=
  h.within (within_of hb) (.inr (Nat.zero_le _)) (.inr (Nat.zero_le _)) (.inr (Nat.zero_le _))
theorem OwnF.reads {W : World} {f t z : Nat × Nat} {AF AT AZ : Option Addr} {cF cT cZ : Nat} {F T Z : List Int} (h : OwnF W f t z AF cF AT cT AZ cZ F T Z) : Peb3 W 0 W.heap.size AF AT AZ F T Z :=
  ⟨h.1.ints.reads.widen (Nat.zero_le _) h.1.1 (Nat.le_refl _), h.2.1.ints.reads.widen (Nat.zero_le _) h.2.1.1 (Nat.le_refl _), h.2.2.1.ints.reads.widen (Nat.zero_le _) h.2.2.1.1 (Nat.le_refl _)⟩
theorem own_rebase {W : World} {a b g cap n : Nat} {e : TypeId} {size : Nat} {xs : List Value} (h : W.ownsRow a e size (.slice (some ⟨g, 0, none⟩) n cap) n xs) (hb : b ≤ g) : W.ownsRow b e size (.slice (some ⟨g, 0, none⟩) n cap) n xs := by
  refine ⟨h.1, ?_⟩
  rcases h.2 with ⟨e0, _⟩ | ⟨g', c', cur, e1, _, r⟩
  · cases e0
  · cases e1
    exact .inr ⟨g, cap, cur, rfl, hb, r⟩
theorem OwnR.open_ {W : World} {lo hi : Nat} {A : Option Addr} {cap : Nat} {zs : List Int} (h : OwnR W lo hi A cap zs) (hz : 0 < zs.length) : ∃ g, A = some ⟨g, 0, none⟩ ∧ lo ≤ g ∧ g < hi ∧ W.ownsRow 0 3 1 (.slice (some ⟨g, 0, none⟩) zs.length cap) zs.length (intCells zs) := by
  rcases h.2 with ⟨_, _, e⟩ | ⟨g, e, h1, h2, ho⟩
  · rw [e] at hz; exact absurd hz (by simp)
  · exact ⟨g, e, h1, h2, own_rebase ho (Nat.zero_le _)⟩
theorem OwnF.fst {W : World} {f t z : Nat × Nat} {AF AT AZ : Option Addr} {cF cT cZ : Nat} {F T Z : List Int} (h : OwnF W f t z AF cF AT cT AZ cZ F T Z) (hF : 0 < F.length) : ∃ gF, AF = some ⟨gF, 0, none⟩ ∧ f.1 ≤ gF ∧ gF < f.2 := by
  obtain ⟨g, e, h1, h2, _⟩ := h.1.open_ hF
  exact ⟨g, e, h1, h2⟩
theorem OwnF.open_ {W : World} {f t z : Nat × Nat} {AF AT AZ : Option Addr} {cF cT cZ : Nat} {F T Z : List Int} (h : OwnF W f t z AF cF AT cT AZ cZ F T Z) (hF : 0 < F.length) (hT : 0 < T.length) :
    ∃ gF gT, AF = some ⟨gF, 0, none⟩ ∧ AT = some ⟨gT, 0, none⟩ ∧ (f.1 ≤ gF ∧ gF < f.2) ∧ (t.1 ≤ gT ∧ gT < t.2) ∧ St3 W 0 gF cF gT cT AZ cZ z.1 z.2 F T Z := by
  obtain ⟨o1, o2, o3, d1, d2, d3⟩ := h
  obtain ⟨gF, rfl, f1, f2, hf⟩ := o1.open_ hF
  obtain ⟨gT, rfl, t1, t2, ht⟩ := o2.open_ hT
  unfold Dis at d1 d2 d3
  exact ⟨gF, gT, rfl, rfl, ⟨f1, f2⟩, ⟨t1, t2⟩, ⟨hf, ht, o3.ints, Nat.zero_le _, by omega, by omega, by omega⟩⟩
/-- The opened state, closed again; the third row stood. -/
theorem St3.ownF {W : World} {f t z : Nat × Nat} {gF cF gT cT : Nat} {AZ : Option Addr} {cZ z1 z2 : Nat} {F T Z : List Int} (h : St3 W 0 gF cF gT cT AZ cZ z1 z2 F T Z) (hf : f.1 ≤ gF ∧ gF < f.2) (ht : t.1 ≤ gT ∧ gT < t.2) (s1 : f.2 ≤ W.heap.size) (s2 : t.2 ≤ W.heap.size) (hz : OwnR W z.1 z.2 AZ cZ Z) (d1 : Dis f t) (d2 : Dis f z) (d3 : Dis t z) : OwnF W f t z (some ⟨gF, 0, none⟩) cF (some ⟨gT, 0, none⟩) cT AZ cZ F T Z :=
  ⟨⟨s1, .inr ⟨gF, rfl, hf.1, hf.2, own_rebase h.f hf.1⟩⟩, ⟨s2, .inr ⟨gT, rfl, ht.1, ht.2, own_rebase h.t ht.1⟩⟩, hz, d1, d2, d3⟩
theorem below_at {B : Nat} {f t : Nat × Nat} {a b c : World} (h : Below B a b) (k : Within2 f t b c) (hB : B ≤ b.heap.size) (h1 : B ≤ f.1) (h2 : B ≤ t.1) : Below B a c :=
  ⟨k.os.trans h.os, k.tape.trans h.tape, k.output.trans h.output, Nat.le_trans h.size k.size, fun i hi' => (k.block i (by omega) (by omega) (by omega)).trans (h.block i hi')⟩
theorem OwnF.own3 {W : World} {f t z : Nat × Nat} {AF AT AZ : Option Addr} {cF cT cZ : Nat} {F T Z : List Int} (h : OwnF W f t z AF cF AT cT AZ cZ F T Z) {lo hi : Nat} (h1 : lo ≤ f.1 ∧ f.2 ≤ hi) (h2 : lo ≤ t.1 ∧ t.2 ≤ hi) (h3 : lo ≤ z.1 ∧ z.2 ≤ hi) (h4 : hi ≤ W.heap.size) : Own3 W lo hi AF cF AT cT AZ cZ F T Z :=
  ⟨f, t, z, h.1.ints, h.2.1.ints, h.2.2.1.ints, h.2.2.2.1, h.2.2.2.2.1, h.2.2.2.2.2, h1, h2, h3, h4⟩
end Go.Proofs.Ytedjhnedkghhoaa
/- What RejectedBars answers, and what stands while it is collected. No program's walk. No condition. -/
namespace Go.Proofs.Ytedjhnedkghhoaa
open Go.RowKit

/-- The bars below n that Z has not. -/
def rejK (Z : List Int) : Nat → List Int
  | 0 => []
  | n + 1 => if (n : Int) ∈ Z then rejK Z n else rejK Z n ++ [(n : Int)]
theorem rejK_len (Z : List Int) : ∀ n, (rejK Z n).length ≤ n := by
  intro n
  induction n with
  | zero => exact Nat.le_refl _
  | succ n ih =>
    unfold rejK
    split
    · omega
    · simp; omega
theorem rejK_in {Z : List Int} {n : Nat} (h : (n : Int) ∈ Z) : rejK Z (n + 1) = rejK Z n := by rw [rejK, if_pos h]
theorem rejK_out {Z : List Int} {n : Nat} (h : ¬ (n : Int) ∈ Z) : rejK Z (n + 1) = rejK Z n ++ [(n : Int)] := by rw [rejK, if_neg h]
/-- What RejectedBars answers. -/
noncomputable def rejV (p k c : Int) (l : List (Int × Int)) : List Int := if runB p k c l = true then rejK (runV p k c l).2.2 l.length else []
theorem rejV_len (p k c : Int) (l : List (Int × Int)) : (rejV p k c l).length ≤ l.length := by
  unfold rejV
  split
  · exact rejK_len _ _
  · simp
theorem rejV_no {p k c : Int} {l : List (Int × Int)} (h : runB p k c l = false) : rejV p k c l = [] := by unfold rejV; rw [h]; rfl
theorem rejV_yes {p k c : Int} {l : List (Int × Int)} (h : runB p k c l = true) : rejV p k c l = rejK (runV p k c l).2.2 l.length := by unfold rejV; rw [if_pos h]
/-- What is collected so far: the row's range is the first one, or new; what else was there stands. -/
structure RejP (a b : Nat) (V W : World) (Z : List Int) (n : Nat) (A : Option Addr) (cap lo hi : Nat) : Prop where
  row : OwnR W lo hi A cap (rejK Z n)
  rng : (lo = a ∧ hi = b) ∨ V.heap.size ≤ lo
  le : lo ≤ W.heap.size
  wi : Within a b V W
theorem IntsIn.hi {W : World} {lo hi : Nat} {A : Option Addr} {zs : List Int} (h : IntsIn W lo hi A zs) : hi ≤ W.heap.size := h.1
theorem RejP.same {a b : Nat} {V W : World} {Z : List Int} {n : Nat} {A : Option Addr} {cap lo hi : Nat} (h : RejP a b V W Z n A cap lo hi) (hz : (n : Int) ∈ Z) : RejP a b V W Z (n + 1) A cap lo hi :=
  ⟨by rw [rejK_in hz]; exact h.row, h.rng, h.le, h.wi⟩
theorem RejP.push {a b : Nat} {V W W' : World} {Z : List Int} {n : Nat} {A A' : Option Addr} {cap lo hi c' lo' hi' : Nat} (h : RejP a b V W Z n A cap lo hi) (hz : ¬ (n : Int) ∈ Z) (hr : OwnR W' lo' hi' A' c' (rejK Z n ++ [(n : Int)])) (hd : (lo' = lo ∧ hi' = hi) ∨ (W.heap.size ≤ lo' ∧ lo' ≤ W'.heap.size ∧ hi' ≤ W'.heap.size)) (hw : Within lo hi W W') : RejP a b V W' Z (n + 1) A' c' lo' hi' := by
  obtain ⟨_, h2, h3, h4⟩ := h
  have s1 := h4.size
  have s2 := hw.size
  refine ⟨by rw [rejK_out hz]; exact hr, ?_, ?_, ⟨hw.os.trans h4.os, hw.tape.trans h4.tape, hw.output.trans h4.output, Nat.le_trans s1 s2, fun i hi hd => (hw.block i (by omega) (by omega)).trans (h4.block i hi hd)⟩⟩
  · rcases hd with ⟨rfl, rfl⟩ | hd
    · exact h2
    · exact .inr (by omega)
  · rcases hd with ⟨rfl, rfl⟩ | hd
    · omega
    · exact hd.2.1
theorem RejP.out {a b : Nat} {V W : World} {Z : List Int} {n : Nat} {A : Option Addr} {cap lo hi : Nat} (h : RejP a b V W Z n A cap lo hi) {B : Nat} (h1 : B ≤ a) (h2 : B ≤ V.heap.size) : OwnInts W B W.heap.size A cap (rejK Z n) :=
  h.row.ints.widen (by have := h.rng; omega) h.row.1 (Nat.le_refl _)
end Go.Proofs.Ytedjhnedkghhoaa
/- An append of one int onto a row of the call's own, in its range. No program's walk. No condition. -/
namespace Go.Proofs.Ytedjhnedkghhoaa
open Go.RowKit

theorem wpList_pushR (w : World) {ops : Array Oper} {rest : List Oper} {o : Oper} {a : Act} {Q : Exit → Act → World → Prop} (hgd : o.guard = none) (s x : Operand)
    (ho : o.op = .call { callee := .builtin .append, args := #[s, x], argTypes := #[25, 25] }) (lo hi : Nat) (A : Option Addr) (cap : Nat) (zs : List Int) (y : Int) (hs : a.eval s = .slice A zs.length cap) (hr : OwnR w lo hi A cap zs)
    (tb : TypeId) (hx : a.eval x = .slice (some ⟨w.heap.size, 0, none⟩) 1 1) (hn : zs.length ≤ 1048576) (hlo : lo ≤ w.heap.size)
    (h : ∀ A' c' w' lo' hi', OwnR w' lo' hi' A' c' (zs ++ [y]) → ((lo' = lo ∧ hi' = hi) ∨ (w.heap.size ≤ lo' ∧ lo' ≤ w'.heap.size ∧ hi' ≤ w'.heap.size)) → Within lo hi w w' → wpList Try.prog ops Q rest (a.put o.dst (.slice A' (zs.length + 1) c')) w') : wpList Try.prog ops Q (o :: rest) a (w.alloc (.cells #[.int .i64 y] tb)) := by
  have hlen : (zs ++ [y]).length = zs.length + 1 := by simp
  have hcells : intCells (zs ++ [y]) = intCells zs ++ [.int .i64 y] := by simp [intCells]
  refine wpList_at w hgd s x 25 ho lo 3 (.int .i64 0) 1 8 Try.underlying25 infoInt rfl (by decide) _ _ _ hs hr.row #[.int .i64 y] 1 rfl (by simp [Value.oneCell']) tb 1 hx (by omega) (by unfold maxLen; omega) hlo ?_
  intro v' w' hown hg hat _
  obtain ⟨A', c', rfl⟩ := own_shape hown
  rw [show intCells zs ++ (#[Value.int .i64 y] : Array Value).toList = intCells (zs ++ [y]) from hcells.symm, ← hlen] at hown
  rw [← hlen] at hat
  have hw : Within lo hi w w' := ⟨hg.os, hg.tape, hg.output, hg.size, fun k hk hd => hg.block k hk fun e => by
    rcases hr.2 with ⟨rfl, rfl, rfl⟩ | ⟨g, rfl, g1, g2, _⟩
    · cases e
    · have : k = g := by simpa [Value.ownBlock] using e
      omega⟩
  rcases hown.2 with ⟨_, e0⟩ | ⟨g', cap', cur, e1, _⟩
  · rw [hlen] at e0; omega
  · injection e1 with q1 q2 q3
    subst q1
    have hlt := hown.lt g' rfl
    rcases hat with e | e
    · rcases hr.2 with ⟨rfl, rfl, rfl⟩ | ⟨g, rfl, g1, g2, _⟩
      · cases e
      · have : g' = g := by simpa [Value.ownBlock] using e
        subst this
        exact h _ c' w' lo hi ⟨Nat.le_trans hr.1 hg.size, .inr ⟨g', rfl, g1, g2, hown⟩⟩ (.inl ⟨rfl, rfl⟩) hw
    · have : g' = w.heap.size + 1 := by simpa [Value.ownBlock] using e
      exact h _ c' w' g' (g' + 1) ⟨hlt.2, .inr ⟨g', rfl, Nat.le_refl _, by omega, own_rebase hown (Nat.le_refl _)⟩⟩ (.inr ⟨by omega, by omega, hlt.2⟩) hw
/-- What lay under a bound stands: as a range from it on. -/
theorem within_low {B : Nat} {w w' : World} (h : Below B w w') : Within B w.heap.size w w' := ⟨h.os, h.tape, h.output, h.size, fun k _ hd => h.block k (by omega)⟩
theorem below_low {B lo hi : Nat} {w w' : World} (h : Within lo hi w w') (hB : B ≤ lo) (hw : B ≤ w.heap.size) : Below B w w' := ⟨h.os, h.tape, h.output, h.size, fun k hk => h.block k (by omega) (by omega)⟩
theorem below_low2 {B : Nat} {f t : Nat × Nat} {w w' : World} (h : Within2 f t w w') (h1 : B ≤ f.1) (h2 : B ≤ t.1) (hw : B ≤ w.heap.size) : Below B w w' := ⟨h.os, h.tape, h.output, h.size, fun k hk => h.block k (by omega) (by omega) (by omega)⟩
/-- What placing a bar answers, and what it makes of the state in the box pb. -/
def PlaceP (w : World) (B pb : Nat) (f t z : Nat × Nat) (AF : Option Addr) (cF : Nat) (AT : Option Addr) (cT : Nat) (AZ : Option Addr) (cZ : Nat) (l : List (Int × Int)) (c : Int) (F T Z : List Int) (n : Int) (e : Ending) (w' : World) : Prop :=
  Below B w w' ∧ ((e = .returned (.bool false) ∧ plaR l c F T Z n = none ∧ OwnF w' f t z AF cF AT cT AZ cZ F T Z ∧ Cel3 w' pb 58 (.slice AF F.length cF) (.slice AT T.length cT) (.slice AZ Z.length cZ)) ∨
    ∃ (s : List Int × List Int × List Int) (AT' : Option Addr) (cT' : Nat) (AZ' : Option Addr) (cZ' : Nat) (t' z' : Nat × Nat), e = .returned (.bool true) ∧ plaR l c F T Z n = some s ∧ OwnF w' f t' z' AF cF AT' cT' AZ' cZ' s.1 s.2.1 s.2.2 ∧ Cel3 w' pb 58 (.slice AF s.1.length cF) (.slice AT' s.2.1.length cT') (.slice AZ' s.2.2.length cZ') ∧
      (t' = t ∨ (w.heap.size ≤ t'.1 ∧ t'.1 ≤ w'.heap.size)) ∧ (z' = z ∨ (w.heap.size ≤ z'.1 ∧ z'.1 ≤ w'.heap.size)))
end Go.Proofs.Ytedjhnedkghhoaa
/- A state that is copied row by row in whatever order: what stands on the way. No program's walk. No condition. -/
namespace Go.Proofs.Ytedjhnedkghhoaa
open Go.RowKit

theorem as_fun {R : Nat → Array Bool → Act → World → Prop} {n : Nat} {l : Array Bool} {a : Act} {w : World} (h : ∀ R' : Nat → Array Bool → Act → World → Prop, R' = R → R' n l a w) : R n l a w := h R rfl
theorem as_of {R R' : Nat → Array Bool → Act → World → Prop} (h : R = R') {n : Nat} {l : Array Bool} {a : Act} {w : World} (x : R n l a w) : R' n l a w := h ▸ x
theorem OwnInts.r {W : World} {lo hi : Nat} {A : Option Addr} {cap : Nat} {zs : List Int} (h : OwnInts W lo hi A cap zs) (hz : zs ≠ []) : OwnR W lo hi A cap zs :=
  ⟨h.1, .inr (h.2.resolve_left hz)⟩
theorem ownR_nil (W : World) (lo hi : Nat) (h : hi ≤ W.heap.size) : OwnR W lo hi none 0 [] := ⟨h, .inl ⟨rfl, rfl, rfl⟩⟩
theorem ownR_empty (W : World) : OwnR (W.alloc (.cells #[] 3)) W.heap.size (W.heap.size + 1) (some ⟨W.heap.size, 0, none⟩) 0 [] := by
  have hm := World.ownsRow_made (base := W.heap.size) (e := 3) (size := 1) W #[] 0 (Nat.le_refl _) (by unfold maxLen; omega) (by simp)
  refine ⟨by simp, .inr ⟨W.heap.size, rfl, Nat.le_refl _, Nat.lt_succ_self _, ?_⟩⟩
  simpa [intCells] using hm
/-- Three rows, each in its range from B on. -/
structure CpR (W : World) (B : Nat) (f t z : Nat × Nat) (AF : Option Addr) (cF : Nat) (AT : Option Addr) (cT : Nat) (AZ : Option Addr) (cZ : Nat) (F T Z : List Int) : Prop where
  own : OwnF W f t z AF cF AT cT AZ cZ F T Z
  lf : B ≤ f.1
  lt : B ≤ t.1
  lz : B ≤ z.1
  b : B ≤ W.heap.size
theorem CpR.nil (W : World) (B : Nat) (h : B ≤ W.heap.size) : CpR W B (B, B) (B, B) (B, B) none 0 none 0 none 0 [] [] [] :=
  ⟨⟨ownR_nil W B B h, ownR_nil W B B h, ownR_nil W B B h, .inl (Nat.le_refl _), .inl (Nat.le_refl _), .inl (Nat.le_refl _)⟩, Nat.le_refl _, Nat.le_refl _, Nat.le_refl _, h⟩
theorem CpR.newF {W W' : World} {B : Nat} {f t z f' : Nat × Nat} {AF AT AZ AF' : Option Addr} {cF cT cZ cF' : Nat} {F T Z F' : List Int} (h : CpR W B f t z AF cF AT cT AZ cZ F T Z) (hb : Below W.heap.size W W') (hn : OwnR W' f'.1 f'.2 AF' cF' F') (hl : f' = f ∨ W.heap.size ≤ f'.1) : CpR W' B f' t z AF' cF' AT cT AZ cZ F' T Z := by
  obtain ⟨⟨o1, o2, o3, d1, d2, d3⟩, lf, lt, lz, b⟩ := h
  have q2 := o2.within (within_of hb) (.inr (Nat.zero_le _))
  have q3 := o3.within (within_of hb) (.inr (Nat.zero_le _))
  have s2 := o2.1
  have s3 := o3.1
  have hs := hb.size
  rcases hl with rfl | hl
  · exact ⟨⟨hn, q2, q3, d1, d2, d3⟩, lf, lt, lz, by omega⟩
  · exact ⟨⟨hn, q2, q3, .inr (by omega), .inr (by omega), d3⟩, by omega, lt, lz, by omega⟩
theorem CpR.newT {W W' : World} {B : Nat} {f t z t' : Nat × Nat} {AF AT AZ AT' : Option Addr} {cF cT cZ cT' : Nat} {F T Z T' : List Int} (h : CpR W B f t z AF cF AT cT AZ cZ F T Z) (hb : Below W.heap.size W W') (hn : OwnR W' t'.1 t'.2 AT' cT' T') (hl : t' = t ∨ W.heap.size ≤ t'.1) : CpR W' B f t' z AF cF AT' cT' AZ cZ F T' Z := by
  obtain ⟨⟨o1, o2, o3, d1, d2, d3⟩, lf, lt, lz, b⟩ := h
  have q1 := o1.within (within_of hb) (.inr (Nat.zero_le _))
  have q3 := o3.within (within_of hb) (.inr (Nat.zero_le _))
  have s1 := o1.1
  have s3 := o3.1
  have hs := hb.size
  rcases hl with rfl | hl
  · exact ⟨⟨q1, hn, q3, d1, d2, d3⟩, lf, lt, lz, by omega⟩
  · exact ⟨⟨q1, hn, q3, .inl (by omega), d2, .inr (by omega)⟩, lf, by omega, lz, by omega⟩
theorem CpR.newZ {W W' : World} {B : Nat} {f t z z' : Nat × Nat} {AF AT AZ AZ' : Option Addr} {cF cT cZ cZ' : Nat} {F T Z Z' : List Int} (h : CpR W B f t z AF cF AT cT AZ cZ F T Z) (hb : Below W.heap.size W W') (hn : OwnR W' z'.1 z'.2 AZ' cZ' Z') (hl : z' = z ∨ W.heap.size ≤ z'.1) : CpR W' B f t z' AF cF AT cT AZ' cZ' F T Z' := by
  obtain ⟨⟨o1, o2, o3, d1, d2, d3⟩, lf, lt, lz, b⟩ := h
  have q1 := o1.within (within_of hb) (.inr (Nat.zero_le _))
  have q2 := o2.within (within_of hb) (.inr (Nat.zero_le _))
  have s1 := o1.1
  have s2 := o2.1
  have hs := hb.size
  rcases hl with rfl | hl
  · exact ⟨⟨q1, q2, hn, d1, d2, d3⟩, lf, lt, lz, by omega⟩
  · exact ⟨⟨q1, q2, hn, d1, .inl (by omega), .inl (by omega)⟩, lf, lt, by omega, by omega⟩
theorem OwnF.own3R {W : World} {f t z : Nat × Nat} {AF AT AZ : Option Addr} {cF cT cZ : Nat} {F T Z : List Int} (h : OwnF W f t z AF cF AT cT AZ cZ F T Z) {lo hi : Nat} (h1 : lo ≤ f.1 ∧ f.2 ≤ hi) (h2 : lo ≤ t.1 ∧ t.2 ≤ hi) (h3 : lo ≤ z.1 ∧ z.2 ≤ hi) (h4 : hi ≤ W.heap.size) : Own3R W lo hi AF cF AT cT AZ cZ F T Z :=
  ⟨f, t, z, h.1, h.2.1, h.2.2.1, h.2.2.2.1, h.2.2.2.2.1, h.2.2.2.2.2, h1, h2, h3, h4⟩
/-- An append of a row onto an empty row of the call's own. -/
theorem run_copyR (w : World) (ty : TypeId) (g l h : Nat) (A : Option Addr) (zs : List Int) (cap lo hi : Nat) (hg : OwnR w l h (some ⟨g, 0, none⟩) 0 []) (hz : IntsIn w lo hi A zs) (hn : zs.length ≤ 1048576) :
    ∃ A' c' w', ∃ r : Nat × Nat, (Builtin.append_ #[25, 25] ty #[.slice (some ⟨g, 0, none⟩) 0 0, .slice A zs.length cap]).run Try.prog w = .ok (.slice A' zs.length c') w' ∧ OwnR w' r.1 r.2 A' c' zs ∧ (r = (l, h) ∨ w.heap.size ≤ r.1) ∧ Below w.heap.size w w' := by
  by_cases e : zs = []
  · subst e
    obtain ⟨i0, hi0, hz0, hz1, hz2⟩ := info_parts infoInt
    refine ⟨some ⟨g, 0, none⟩, 0, w, (l, h), ?_, hg, .inl rfl, Below.refl _ _⟩
    cases A <;> simp [Builtin.append_, run_underlying Try.underlying25, sizeOf, typeInfo, hi0, Builtin.lenOf, Builtin.firstCells, loadCells, loadCellsFrom, storeCells]
  · obtain ⟨A', c', w', h1, h2, h3⟩ := run_copyI w ty g A zs cap lo hi hz hn
    exact ⟨A', c', w', (w.heap.size, w'.heap.size), h1, h2.r e, .inr (Nat.le_refl _), h3⟩
theorem step_copyR {w : World} {ops : Array Oper} {o : Oper} {a : Act} {K : Act → World → Prop} {Q : Exit → Act → World → Prop} {E : Prop} (hgd : o.guard = none) (s x : Operand) (ho : o.op = .call { callee := .builtin .append, args := #[s, x], argTypes := #[25, 25] })
    (g l h : Nat) (A : Option Addr) (zs : List Int) (cap lo hi : Nat) (hs : a.eval s = .slice (some ⟨g, 0, none⟩) 0 0) (hx : a.eval x = .slice A zs.length cap) (hg : OwnR w l h (some ⟨g, 0, none⟩) 0 []) (hz : IntsIn w lo hi A zs) (hn : zs.length ≤ 1048576)
    (hK : ∀ A' c' w' (r : Nat × Nat), OwnR w' r.1 r.2 A' c' zs → (r = (l, h) ∨ w.heap.size ≤ r.1) → Below w.heap.size w w' → K (a.put o.dst (.slice A' zs.length c')) w') : if Region.wanted o (yielded ops a.tmps) = true then Oper.wp Try.prog o a w K Q else E := by
  have hw : Region.wanted o (yielded ops a.tmps) = true := by simp [Region.wanted, hgd]
  rw [if_pos hw]
  obtain ⟨A', c', w', r, hr, h2, h3, h4⟩ := run_copyR w o.type g l h A zs cap lo hi hg hz hn
  unfold Oper.wp execOp
  simp only [ho, resolve, invoke, builtin, Sem.run_bind, Sem.run_pure, Result.andThen_ok, List.map_toArray, List.map_cons, List.map_nil, hs, hx, hr]
  exact hK A' c' w' r h2 h3 h4
end Go.Proofs.Ytedjhnedkghhoaa
/- What spec.l8Roots and spec.l8Pieces answer. No condition. -/
namespace Go.Proofs.Ytedjhnedkghhoaa
open Go.RowKit

/-- The marks of the points below P, as a row. -/
def rowR (P : Nat) (r : Nat → Nat) : List Int := (List.range P).map fun v => (r v : Int)
theorem rowR_len (P : Nat) (r : Nat → Nat) : (rowR P r).length = P := by simp [rowR]
theorem rowR_get (P : Nat) (r : Nat → Nat) (v : Nat) (h : v < P) : (rowR P r).getD v 0 = (r v : Int) := by simp [rowR, List.getD, h]
theorem rowR_succ (P : Nat) (r : Nat → Nat) : rowR (P + 1) r = rowR P r ++ [(r P : Int)] := by simp [rowR, List.range_succ]
theorem rejK_nil : ∀ n, rejK [] n = rowR n id := by
  intro n
  induction n with
  | zero => rfl
  | succ n ih => rw [rejK_out (by simp), ih, rowR_succ]; rfl
theorem rowR_cells (P : Nat) (r : Nat → Nat) (v : Nat) (h : v < P) : (intCells (rowR P r))[v]? = some (.int .i64 (r v : Int)) := by
  rw [intCells_get _ _ (by rw [rowR_len]; exact h), rowR_get P r v h]
theorem rowR_set (P : Nat) (r : Nat → Nat) (x : Int × Int) :
    ((intCells (rowR P r)).set x.1.toNat (.int .i64 ((min (r x.1.toNat) (r x.2.toNat) : Nat) : Int))).set x.2.toNat (.int .i64 ((min (r x.1.toNat) (r x.2.toNat) : Nat) : Int)) = intCells (rowR P (relaxR r x)) := by
  unfold intCells rowR
  apply List.ext_getElem?
  intro i
  by_cases hi : i < P
  · rw [List.getElem?_set, List.getElem?_set]
    simp only [List.length_set, List.length_map, List.length_range, List.getElem?_map, List.getElem?_range hi, Option.map_some]
    by_cases h2 : x.2.toNat = i
    · subst h2
      simp [hi, relaxR]
    · by_cases h1 : x.1.toNat = i
      · subst h1
        simp [hi, relaxR, h2]
      · have h1' : ¬ i = x.1.toNat := fun h => h1 h.symm
        have h2' : ¬ i = x.2.toNat := fun h => h2 h.symm
        simp [h1, h2, h1', h2', relaxR]
  · rw [List.getElem?_eq_none (by simp; omega), List.getElem?_eq_none (by simp; omega)]
theorem foldR_step (E : List (Int × Int)) (r : Nat → Nat) (j : Nat) (h : j < E.length) : (E.take (j + 1)).foldl relaxR r = relaxR ((E.take j).foldl relaxR r) (E.getD j (0, 0)) := by
  rw [take_getD E (0, 0) j h, List.foldl_append]
  rfl

/-- The row of marks stands in block g; what lay outside it since W0 is as it was. -/
structure RootSt (a b : Nat) (W0 W : World) (P g cap : Nat) (r : Nat → Nat) : Prop where
  row : W.ownsRow a 3 1 (.slice (some ⟨g, 0, none⟩) P cap) P (intCells (rowR P r))
  wi : Within a b W0 W
  lt : ∀ v, r v ≤ v

theorem RootSt.set {a b : Nat} {W0 W : World} {P g cap : Nat} {r : Nat → Nat} (h : RootSt a b W0 W P g cap r) (x : Int × Int) (hg : (a ≤ g ∧ g < b) ∨ W0.heap.size ≤ g) :
    RootSt a b W0 ((W.setCell ⟨g, x.1.toNat, none⟩ (.int .i64 ((min (r x.1.toNat) (r x.2.toNat) : Nat) : Int))).setCell ⟨g, x.2.toNat, none⟩ (.int .i64 ((min (r x.1.toNat) (r x.2.toNat) : Nat) : Int))) P g cap (relaxR r x) := by
  have h1 := h.row.stored x.1.toNat (.int .i64 ((min (r x.1.toNat) (r x.2.toNat) : Nat) : Int))
  have h2 := h1.1.stored x.2.toNat (.int .i64 ((min (r x.1.toNat) (r x.2.toNat) : Nat) : Int))
  refine ⟨?_, ?_, fun v => Nat.le_trans (relaxR_le r x v) (h.lt v)⟩
  · have := h2.1
    rw [rowR_set] at this
    exact this
  · have hw := h.wi
    have hgr := h1.2.trans_ h2.2
    refine ⟨hgr.os.trans hw.os, hgr.tape.trans hw.tape, hgr.output.trans hw.output, Nat.le_trans hw.size hgr.size, fun k hk hd => ?_⟩
    refine (hgr.block k (Nat.lt_of_lt_of_le hk hw.size) fun e => ?_).trans (hw.block k hk hd)
    have : k = g := by simpa using e
    omega
theorem RootSt.lt_ {a b : Nat} {W0 W : World} {P g cap : Nat} {r : Nat → Nat} (h : RootSt a b W0 W P g cap r) : g < W.heap.size := (h.row.lt g rfl).2
theorem RootSt.new {a b : Nat} {W0 W : World} {P g cap : Nat} {r : Nat → Nat} (h : RootSt a b W0 W P g cap r) {W' : World} (hb : Below W.heap.size W W') : RootSt a b W0 W' P g cap r :=
  ⟨own_below h.row hb, ⟨hb.os.trans h.wi.os, hb.tape.trans h.wi.tape, hb.output.trans h.wi.output, Nat.le_trans h.wi.size hb.size, fun k hk hd => (hb.block k (Nat.lt_of_lt_of_le hk h.wi.size)).trans (h.wi.block k hk hd)⟩, h.lt⟩

set_option maxHeartbeats 4000000 in
set_option maxRecDepth 100000 in
theorem l8Pieces_c (P : Nat) (r : Nat → Nat) (A : Option Addr) (cap lo hi : Nat) (w : World) (hz : IntsIn w lo hi A (rowR P r)) (hP : P ≤ 8) :
    Calls Try.prog 83 #[.slice A P cap] w fun e w' => e = .returned (.int .i64 (pcsN P r : Int)) ∧ w = w' := by
  have HZ := Lib.hid hz
  clear hz
  have HCP := Lib.hid (show ∀ k, k < P → (List.range (k + 1)).countP (fun v => decide (r v = v)) = (List.range k).countP (fun v => decide (r v = v)) + if r k = k then 1 else 0 from fun k _ => by
    rw [List.range_succ, List.countP_append, List.countP_cons, List.countP_nil, Nat.zero_add]
    congr 1
    by_cases e : r k = k <;> simp [e])
  have HLE := Lib.hid (show ∀ k, (List.range k).countP (fun v => decide (r v = v)) ≤ k from fun k => Nat.le_trans List.countP_le_length (by simp))
  have HPC := Lib.hid (show pcsN P r = (List.range P).countP (fun v => decide (r v = v)) from rfl)
  go_enter Try.func83, Try.ntmps83
  go_wp2_with fail
  go_loop [3, 4] (fun n i => ∃ k : Nat, k ≤ P ∧ i = .int .i64 k ∧ n = .int .i64 (((List.range k).countP (fun v => decide (r v = v)) : Nat) : Int)) (fun _ i => P - (intOf i).toNat)
  case atStart => exact ⟨0, Nat.zero_le _, rfl, rfl⟩
  case round =>
    obtain ⟨k, hk, rfl, rfl⟩ := hrel
    have hc := HLE.out k
    by_cases hlt : k < P
    · have hi : (k : Int) < (P : Int) := by omega
      obtain ⟨b, off, rfl, _, _, hcell⟩ := HZ.out.2 (by rw [rowR_len]; omega)
      have hz := hcell k (by rw [rowR_len]; omega)
      rw [rowR_get P r k hlt] at hz
      clear hcell
      have hs := HCP.out k hlt
      have HS := Lib.hid hs
      clear hs
      by_cases e : r k = k
      · have HN := Lib.hid (show (List.range (k + 1)).countP (fun v => decide (r v = v)) = (List.range k).countP (fun v => decide (r v = v)) + 1 by rw [HS.out, if_pos e])
        rw [e] at hz
        clear e
        generalize (List.range k).countP (fun v => decide (r v = v)) = n at *
        go_wp2_with fail
        go_round
        case rel => exact ⟨k + 1, by omega, by go_num, by rw [HN.out]; go_num⟩
        case measure => simp [intOf]; omega
      · have HN := Lib.hid (show (List.range (k + 1)).countP (fun v => decide (r v = v)) = (List.range k).countP (fun v => decide (r v = v)) by rw [HS.out, if_neg e]; rfl)
        have he : ((r k : Int) == (k : Int)) = false := by simpa using fun h => e (by omega)
        have he2 : ¬ ((r k : Int) = (k : Int)) := by omega
        clear e
        obtain ⟨z, hzz⟩ : ∃ z, (r k : Int) = z := ⟨_, rfl⟩
        rw [hzz] at hz he he2
        clear hzz
        generalize (List.range k).countP (fun v => decide (r v = v)) = n at *
        go_wp2_with fail
        go_round
        case rel => exact ⟨k + 1, by omega, by go_num, by rw [HN.out]⟩
        case measure => simp [intOf]; omega
    · obtain rfl : k = P := by omega
      go_wp2_with fail
      go_ret
      exact ⟨by rw [HPC.out]; rfl, rfl⟩

set_option maxHeartbeats 4000000 in
set_option maxRecDepth 100000 in
theorem l8Roots_c (P : Nat) (l : List (Int × Int)) (Z : List Int) (A AZ : Option Addr) (cap cz lo hi : Nat) (w : World) (hl : BarsAt w w.heap.size A l) (hz : IntsIn w lo hi AZ Z) (hn : l.length ≤ 1048576) (hset : setB (P : Int) l Z = true) :
    Calls Try.prog 84 #[.agg #[.int .i64 (P : Int), .slice A l.length cap], .slice AZ Z.length cz] w (IntsO w (rowR P (rootF P (plE l Z)))) := by
  have hG := (setB_is hset).2
  have hP : 1 ≤ P ∧ P ≤ 8 := by have := hG.1; omega
  have hpair := okS_pair (setB_is hset).1
  have hlen := plE_len l Z
  have HE := Lib.hid (plE_in hset)
  have HG := Lib.hid hG
  have HPR := Lib.hid hpair
  have hZl : Z.length ≤ 24 := by
    have h1 := (setB_is hset).1
    by_cases h0 : 0 < Z.length
    · have : ∀ j, j < Z.length → (j : Int) ≤ Z.getD j 0 := by
        intro j
        induction j with
        | zero => intro h; have := (h1 0 h).1.1; omega
        | succ j ih => intro h; have h2 := (h1 (j + 1) h).2 (by omega); have h3 := ih (by omega); simp only [Nat.add_sub_cancel] at h2; omega
      have h3 := this (Z.length - 1) (by omega)
      have h4 := (h1 (Z.length - 1) (by omega)).1.2
      have := hG.2.1
      omega
    · omega
  clear hset hG hpair
  have W0 := Lib.hid (Below.refl w.heap.size w)
  have HB_0 := Lib.hid (bars_in hl)
  have HZ_0 := Lib.hid hz
  have hzs := hz.1
  clear hl hz
  have Z1 := Lib.hid (within_alloc w (.cells #[.int .i64 (P : Int), (.slice A l.length cap)] 30)).size
  have W1 := Lib.hid (within_on W0.out (within_alloc w (.cells #[.int .i64 (P : Int), (.slice A l.length cap)] 30)) W0.out.size (.inr (Nat.le_refl _)))
  have HB_1 := Lib.hid (HB_0.out.within (within_alloc w (.cells #[.int .i64 (P : Int), (.slice A l.length cap)] 30)) (by omega))
  have HZ_1 := Lib.hid (HZ_0.out.within (within_alloc w (.cells #[.int .i64 (P : Int), (.slice A l.length cap)] 30)) (by omega))
  have Y1 := Lib.hid (show (w.alloc (.cells #[.int .i64 (P : Int), (.slice A l.length cap)] 30)).heap.size = w.heap.size + 1 by simp)
  have hnew := box_new w (P : Int) (.slice A l.length cap) 30
  have BX_1 := Lib.hid hnew
  clear hnew
  have Z2 := Lib.hid (within_alloc (w.alloc (.cells #[.int .i64 (P : Int), (.slice A l.length cap)] 30)) (.cells #[] 3)).size
  have W2 := Lib.hid (within_on W1.out (within_alloc (w.alloc (.cells #[.int .i64 (P : Int), (.slice A l.length cap)] 30)) (.cells #[] 3)) W1.out.size (.inr (Nat.le_refl _)))
  have HB_2 := Lib.hid (HB_1.out.within (within_alloc (w.alloc (.cells #[.int .i64 (P : Int), (.slice A l.length cap)] 30)) (.cells #[] 3)) (by omega))
  have HZ_2 := Lib.hid (HZ_1.out.within (within_alloc (w.alloc (.cells #[.int .i64 (P : Int), (.slice A l.length cap)] 30)) (.cells #[] 3)) (by omega))
  have BX_2 := Lib.hid (BX_1.out.within (within_alloc (w.alloc (.cells #[.int .i64 (P : Int), (.slice A l.length cap)] 30)) (.cells #[] 3)) (by omega))
  have Y2 := Lib.hid (show ((w.alloc (.cells #[.int .i64 (P : Int), (.slice A l.length cap)] 30)).alloc (.cells #[] 3)).heap.size = (w.alloc (.cells #[.int .i64 (P : Int), (.slice A l.length cap)] 30)).heap.size + 1 by simp)
  have hown := ownR_empty (w.alloc (.cells #[.int .i64 (P : Int), (.slice A l.length cap)] 30))
  rw [show (w.alloc (.cells #[.int .i64 (P : Int), (.slice A l.length cap)] 30)).heap.size = w.heap.size + 1 by simp] at hown
  have OE_2 := Lib.hid hown
  clear hown
  have HSZ := Lib.hid (show ((w.alloc (.cells #[.int .i64 (P : Int), (.slice A l.length cap)] 30)).alloc (.cells #[] 3)).heap.size = w.heap.size + 1 + 1 by simp)
  go_enter Try.func84, Try.ntmps84
  obtain ⟨g0_0, g0_1, g0_2⟩ := BX_2.out
  go_wp2_with fail
  clear g0_0 g0_1 g0_2
  generalize ((w.alloc (.cells #[.int .i64 (P : Int), (.slice A l.length cap)] 30)).alloc (.cells #[] 3)) = w2 at *
  generalize (w.alloc (.cells #[.int .i64 (P : Int), (.slice A l.length cap)] 30)) = w1 at *
  have HP0 := Lib.hid (show RejP (w.heap.size + 1) (w.heap.size + 1 + 1) w2 w2 [] 0 (some ⟨w.heap.size + 1, 0, none⟩) 0 (w.heap.size + 1) (w.heap.size + 1 + 1) from ⟨OE_2.out, .inl ⟨rfl, rfl⟩, (by have := HSZ.out; omega), Within.refl _ _ w2⟩)
  go_loopw [5, 6] (fun u i wr => ∃ j : Nat, j ≤ P ∧ i = .int .i64 j ∧ ∃ Ao co lo hi, u = .slice Ao (rejK [] j).length co ∧ RejP (w.heap.size + 1) (w.heap.size + 1 + 1) w2 wr [] j Ao co lo hi) (fun _ i _ => P - (intOf i).toNat)
  case atStart => exact ⟨0, Nat.zero_le _, rfl, _, 0, _, _, rfl, HP0.out⟩
  case round =>
    obtain ⟨j, hj, rfl, Ao, co, lo3, hi3, rfl, hst⟩ := hrel
    have HS := Lib.hid hst
    obtain ⟨_, g1, g2⟩ := BX_2.out.within hst.wi (.inl (Nat.lt_succ_self _))
    clear hst
    by_cases hlt : j < P
    · have hji : (j : Int) < (P : Int) := by omega
      have hjr := rejK_len [] j
      have hm : ¬ (j : Int) ∈ ([] : List Int) := by simp
      have HNM := Lib.hid hm
      have HK := Lib.hid (show (rejK [] (j + 1)).length = (rejK [] j).length + 1 by rw [rejK_out hm]; simp)
      clear hm
      go_wp2_with (at_builtin; refine wpList_pushR _ rfl _ _ rfl lo3 hi3 Ao co (rejK [] j) (j : Int) rfl HS.out.row _ (by first | rfl | (simp only [World.size_setCell]; rfl)) (by omega) HS.out.le ?_; intro A5 c5 w15 lo5 hi5 hr5 hor5 hw5; have HN := Lib.hid (HS.out.push HNM.out hr5 hor5 hw5); clear hr5 hor5 hw5)
      go_roundw
      case rel => exact ⟨j + 1, by omega, by go_num, A5, c5, lo5, hi5, by rw [HK.out], HN.out⟩
      case measure => simp [intOf]; omega
    · obtain rfl : j = P := by omega
      have hlenj : (rejK [] j).length = j := by rw [rejK_nil, rowR_len]
      have hro := HS.out.row
      rw [rejK_nil] at hro
      obtain ⟨g, rfl, hg1, hg2, hrow⟩ := hro.open_ (by rw [rowR_len]; omega)
      rw [rowR_len] at hrow
      have hgg : (w.heap.size + 1 ≤ g ∧ g < w.heap.size + 1 + 1) ∨ w2.heap.size ≤ g := by have := HS.out.rng; omega
      have hR0 : RootSt (w.heap.size + 1) (w.heap.size + 1 + 1) w2 wr j g co (iterR (plE l Z) 0 id) := ⟨own_rebase hrow (by have := HSZ.out; omega), HS.out.wi, fun v => Nat.le_refl _⟩
      have HR0 := Lib.hid hR0
      have HGG := Lib.hid hgg
      rw [hlenj]
      clear hlenj hro hg1 hg2 hrow hgg hR0
      go_wp2_with fail
      clear g1 g2
      go_loopw [7] (fun i wr => ∃ k : Nat, k ≤ j ∧ i = .int .i64 k ∧ RootSt (w.heap.size + 1) (w.heap.size + 1 + 1) w2 wr j g co (iterR (plE l Z) k id)) (fun i _ => j - (intOf i).toNat)
      case atStart => exact ⟨0, Nat.zero_le _, rfl, HR0.out⟩
      case round =>
        obtain ⟨k, hk, rfl, hst⟩ := hrel
        have HST := Lib.hid hst
        obtain ⟨_, g1, g2⟩ := BX_2.out.within hst.wi (.inl (Nat.lt_succ_self _))
        clear hst
        by_cases hlt : k < j
        · have hik : (k : Int) < (j : Int) := by omega
          go_wp2_with fail
          clear g1 g2
          go_loopw [8] (fun i wr => ∃ m : Nat, m ≤ Z.length ∧ i = .int .i64 m ∧ RootSt (w.heap.size + 1) (w.heap.size + 1 + 1) w2 wr j g co (((plE l Z).take m).foldl relaxR (iterR (plE l Z) k id))) (fun i _ => Z.length - (intOf i).toNat)
          case atStart => exact ⟨0, Nat.zero_le _, rfl, HST.out⟩
          case round =>
            obtain ⟨m, hm, rfl, hst⟩ := hrel
            have HSM := Lib.hid hst
            obtain ⟨_, g1, g2⟩ := BX_2.out.within hst.wi (.inl (Nat.lt_succ_self _))
            have HBW := Lib.hid (HB_2.out.within hst.wi (.inl (by omega)))
            have HZW := Lib.hid (HZ_2.out.within hst.wi (.inl (by omega)))
            have hown := hst.row
            have hle := hst.lt
            clear hst
            by_cases hml : m < Z.length
            · have him : (m : Int) < (Z.length : Int) := by omega
              obtain ⟨bz, oz, rfl, _, _, hzc⟩ := HZW.out.2 (by omega)
              have hzm := hzc m hml
              have hzz := HPR.out.1 (Z.getD m 0) (by rw [List.getD_eq_getElem?_getD, List.getElem?_eq_getElem hml]; exact List.getElem_mem hml)
              have hstep := foldR_step (plE l Z) (iterR (plE l Z) k id) m (by rw [hlen]; exact hml)
              rw [plE_get l Z m hml] at hstep
              obtain ⟨z, hzd⟩ : ∃ z, Z.getD m 0 = z := ⟨_, rfl⟩
              rw [hzd] at hzm hzz hstep
              clear hzc hzd
              obtain ⟨q, rfl⟩ : ∃ q : Nat, z = (q : Int) := ⟨z.toNat, by omega⟩
              have hql : q < l.length := by omega
              have hqi : (q : Int) < (l.length : Int) := by omega
              rw [Int.toNat_natCast] at hstep
              have hbar := isG_bar HG.out q hql
              obtain ⟨b0, off, rfl, _, _, hcell⟩ := HBW.out.2 (by omega)
              have hc1 := (hcell q hql).1
              have hc2 := (hcell q hql).2
              obtain ⟨x, hx⟩ : ∃ x, l.getD q (0, 0) = x := ⟨_, rfl⟩
              rw [hx] at hc1 hc2 hbar hstep
              clear hx hcell
              obtain ⟨x1, x2⟩ := x
              simp only at hc1 hc2 hbar
              obtain ⟨a, rfl⟩ : ∃ a : Nat, x1 = (a : Int) := ⟨x1.toNat, by omega⟩
              obtain ⟨b, rfl⟩ : ∃ b : Nat, x2 = (b : Int) := ⟨x2.toNat, by omega⟩
              have haP : a < j := by omega
              have hbP : b < j := by omega
              have hai : (a : Int) < (j : Int) := by omega
              have hbi : (b : Int) < (j : Int) := by omega
              have HSTEP := Lib.hid hstep
              clear hstep
              generalize ((plE l Z).take m).foldl relaxR (iterR (plE l Z) k id) = r at *
              have HAB := Lib.hid (show a < b by omega)
              clear hown hbar
              go_wp2_with fail
              have KK := And.intro g2 (And.intro hzm (And.intro hc1 hc2))
              go_region_held3 (fun W' => W'.cell? ⟨w.heap.size, 1, none⟩ = some (.slice (some ⟨b0, off, none⟩) l.length cap) ∧ W'.cell? ⟨bz, oz + m, none⟩ = some (.int .i64 (q : Int)) ∧ W'.cell? ⟨b0, off + q * 2, none⟩ = some (.int .i64 (a : Int)) ∧ W'.cell? ⟨b0, off + q * 2 + 1, none⟩ = some (.int .i64 (b : Int)))
                (first | exact KK | go_keep)
                (fail)
              have hal : Below wr.heap.size wr (wr.alloc (.cells #[.int .i64 (a : Int), .int .i64 (b : Int)] 103)).drew := (new_below wr (.cells #[.int .i64 (a : Int), .int .i64 (b : Int)] 103)).drew
              have hs5 := HSM.out.new hal
              have hbx : (wr.alloc (.cells #[.int .i64 (a : Int), .int .i64 (b : Int)] 103)).drew.cell? ⟨wr.heap.size, 0, none⟩ = some (.int .i64 (a : Int)) ∧ (wr.alloc (.cells #[.int .i64 (a : Int), .int .i64 (b : Int)] 103)).drew.cell? ⟨wr.heap.size, 1, none⟩ = some (.int .i64 (b : Int)) :=
                ⟨World.cell?_alloc_at _ _ _ _ rfl, World.cell?_alloc_at _ _ _ _ rfl⟩
              have HGR := Lib.hid (Nat.lt_of_lt_of_le (show g < wr.heap.size from HSM.out.lt_) (Nat.le_refl _))
              clear KK g1 g2 hzm hc1 hc2
              generalize (wr.alloc (.cells #[.int .i64 (a : Int), .int .i64 (b : Int)] 103)).drew = w5 at *
              obtain ⟨hb0, hb1⟩ := hbx
              have hsa := (hs5.row.cellAt a (by omega)).trans (rowR_cells j r a haP)
              have hsb := (hs5.row.cellAt b (by omega)).trans (rowR_cells j r b hbP)
              have hfa := hs5.row.frozenAt a
              have hfb := hs5.row.frozenAt b
              have HS5 := Lib.hid hs5
              have hne : ¬ wr.heap.size = g := by have := HGR.out; omega
              have hab : a ≠ b := by have := HAB.out; omega
              clear hs5
              go_wp2_with fail
              go_big_quiet (fail)
              have hs6 := HS5.out.new (below_drewN w5.heap.size w5 nq)
              clear hsa hsb hfa hfb hne
              have hbx : (w5.drewN nq).cell? ⟨wr.heap.size, 0, none⟩ = some (.int .i64 (a : Int)) ∧ (w5.drewN nq).cell? ⟨wr.heap.size, 1, none⟩ = some (.int .i64 (b : Int)) := ⟨hb0, hb1⟩
              clear hb0 hb1
              generalize w5.drewN nq = w6 at *
              obtain ⟨hb0, hb1⟩ := hbx
              have hsa := (hs6.row.cellAt a (by omega)).trans (rowR_cells j r a haP)
              have hfa := hs6.row.frozenAt a
              have hst := fun z : Int => (hs6.row.stored a (.int .i64 z)).1
              have hsb : ∀ z : Int, (w6.setCell ⟨g, a, none⟩ (.int .i64 z)).cell? ⟨g, b, none⟩ = some (.int .i64 (r b : Int)) := fun z => by
                rw [(hst z).cellAt b (by omega), List.getElem?_set_ne hab]
                exact rowR_cells j r b hbP
              have hfb : ∀ z : Int, (w6.setCell ⟨g, a, none⟩ (.int .i64 z)).frozen? ⟨g, b, none⟩ = false := fun z => (hst z).frozenAt b
              have HN := Lib.hid (hs6.set ((a : Int), (b : Int)) HGG.out)
              have hne : ¬ wr.heap.size = g := by have := HGR.out; omega
              clear hs6 hst
              by_cases hmin : r b < r a
              · have hmi : (r b : Int) < (r a : Int) := by omega
                have hst2 := hsb (r b)
                have hft2 := hfb (r b)
                have HM := Lib.hid (show min (r a) (r b) = r b by omega)
                clear hsb hfb hmin
                go_wp2_with fail
                go_roundw
                case rel => exact ⟨m + 1, by omega, by go_num, by rw [HSTEP.out]; have := HN.out; simp only [Int.toNat_natCast, HM.out] at this; exact this⟩
                case measure => simp [intOf]; omega
              · have hmi : ¬ (r b : Int) < (r a : Int) := by omega
                have hst2 := hsb (r a)
                have hft2 := hfb (r a)
                have HM := Lib.hid (show min (r a) (r b) = r a by omega)
                clear hsb hfb hmin
                go_wp2_with fail
                go_roundw
                case rel => exact ⟨m + 1, by omega, by go_num, by rw [HSTEP.out]; have := HN.out; simp only [Int.toNat_natCast, HM.out] at this; exact this⟩
                case measure => simp [intOf]; omega
            · obtain rfl : m = Z.length := by omega
              clear hown hle
              go_wp2_with fail
              go_roundw
              case rel => exact ⟨k + 1, by omega, by go_num, by have := HSM.out; rw [← hlen, List.take_length] at this; exact this⟩
              case measure => simp [intOf]; omega
        · obtain rfl : k = j := by omega
          go_wp2_with fail
          go_ret
          have hro := HST.out.row
          have hwi := HST.out.wi
          refine ⟨some ⟨g, 0, none⟩, co, by rw [rowR_len]; rfl, own_ints' ?_, within_on W2.out hwi W2.out.size (.inl (by omega))⟩
          rw [rowR_len]
          exact own_rebase hro (by have := HGG.out; have := HSZ.out; omega)
end Go.Proofs.Ytedjhnedkghhoaa
/- What spec.l5Set answers. No condition. -/
namespace Go.Proofs.Ytedjhnedkghhoaa
open Go.RowKit

set_option maxHeartbeats 4000000 in
set_option maxRecDepth 100000 in
theorem l5Set_c (p : Int) (l : List (Int × Int)) (A AZ : Option Addr) (cap cZ lo hi : Nat) (Z : List Int) (w : World) (hl : BarsAt w w.heap.size A l) (hz : IntsIn w lo hi AZ Z) (hn : l.length ≤ 1048576) (hZ : Z.length ≤ 1048576) :
    Calls Try.prog 82 #[.agg #[.int .i64 p, .slice A l.length cap], .slice AZ Z.length cZ] w fun e w' => e = .returned (.bool (setB p l Z)) ∧ Below w.heap.size w w' := by
  have hA := new_below w (.cells #[.int .i64 p, .slice A l.length cap] 30)
  have HA := Lib.hid hA
  have HL := Lib.hid ((bars_in hl).within (within_of hA) (.inr (Nat.zero_le _)))
  have HZ := Lib.hid (hz.within (within_of hA) (.inr (Nat.zero_le _)))
  have BX := Lib.hid (box_new w p (.slice A l.length cap) 30)
  clear hl hz hA
  go_enter Try.func82, Try.ntmps82
  go_wp2_with fail
  generalize (w.alloc (.cells #[.int .i64 p, .slice A l.length cap] 30)) = w1 at *
  go_loopw [5] (fun i wr => ∃ j : Nat, j ≤ Z.length ∧ i = .int .i64 j ∧ (∀ u, u < j → OkS l.length Z u) ∧ Below w1.heap.size w1 wr) (fun i _ => Z.length - (intOf i).toNat)
  case atStart => exact ⟨0, Nat.zero_le _, rfl, fun u hu => absurd hu (Nat.not_lt_zero _), Below.refl _ _⟩
  case round =>
    obtain ⟨j, hj, rfl, hok, hb⟩ := hrel
    have HB := Lib.hid hb
    have HOK := Lib.hid hok
    have BX1 := Lib.hid (BX.out.kept hb)
    obtain ⟨_, g0, g1⟩ := BX1.out
    by_cases hlt : j < Z.length
    · have hji : (j : Int) < (Z.length : Int) := by omega
      obtain ⟨b, off, rfl, hzc⟩ := row_at (HZ.out.within (within_of hb) (.inr (Nat.zero_le _))) (by omega)
      have hz := hzc j hlt
      have HPREV := Lib.hid (fun h0 : 0 < j => hzc (j - 1) (by omega))
      have HDEF := Lib.hid (show OkS l.length Z j = ((0 ≤ Z.getD j 0 ∧ Z.getD j 0 < (l.length : Int)) ∧ (0 < j → Z.getD (j - 1) 0 < Z.getD j 0)) from rfl)
      have HBAD := Lib.hid (fun h : ¬ OkS l.length Z j => setB_bad (p := p) hlt h)
      clear hb hok hzc
      obtain ⟨z, hzd⟩ : ∃ z, Z.getD j 0 = z := ⟨_, rfl⟩
      obtain ⟨y, hyd⟩ : ∃ y, Z.getD (j - 1) 0 = y := ⟨_, rfl⟩
      rw [hzd] at hz HDEF
      rw [hyd] at HPREV HDEF
      clear hzd hyd
      by_cases c1 : z < 0
      · skip
        have Q := Lib.hid (HBAD.out fun h => by rw [HDEF.out] at h; omega)
        go_wp2_with fail
        go_big_quiet (fail)
        go_wp2_with fail
        go_ret
        exact ⟨by rw [Q.out]; rfl, below_on HA.out (HB.out.trans (below_drewN _ _ _)) HA.out.size⟩
      have d1 : decide (z < 0) = false := by simpa using c1
      obtain ⟨n, rfl⟩ : ∃ n : Nat, z = (n : Int) := ⟨z.toNat, by omega⟩
      have d1n : decide ((n : Int) < 0) = false := d1
      by_cases c2 : l.length ≤ n
      · skip
        have c2i : (l.length : Int) ≤ (n : Int) := by omega
        have Q := Lib.hid (HBAD.out fun h => by rw [HDEF.out] at h; omega)
        go_wp2_with fail
        go_big_quiet (fail)
        go_wp2_with fail
        go_ret
        exact ⟨by rw [Q.out]; rfl, below_on HA.out (HB.out.trans (below_drewN _ _ _)) HA.out.size⟩
      have c2i : ¬ (l.length : Int) ≤ (n : Int) := by omega
      have d2 : decide ((l.length : Int) ≤ (n : Int)) = false := by simpa using c2i
      have d2n : decide (l.length ≤ n) = false := by simpa using c2
      by_cases hj0 : j = 0
      · skip
        have d3 : decide ((0 : Int) < (j : Int)) = false := by simp; omega
        have d3n : decide (0 < j) = false := by simp; omega
        have HJ0 := Lib.hid hj0
        clear hj0
        have HN := Lib.hid (okS_snoc HOK.out (by rw [HDEF.out]; exact ⟨by omega, fun h => absurd h (by have := HJ0.out; omega)⟩))
        go_wp2_with fail
        go_big_quiet (fail)
        go_wp2_with fail
        go_roundw
        case rel => exact ⟨j + 1, by omega, by go_num, HN.out, HB.out.trans (below_drewN _ _ _)⟩
        case measure => simp [intOf]; omega
      · skip
        have d3 : decide ((0 : Int) < (j : Int)) = true := by simp; omega
        have d3n : decide (0 < j) = true := by simp; omega
        have hy := HPREV.out (by omega)
        have hjm : (j : Int) - 1 = ((j - 1 : Nat) : Int) := by omega
        have hjw : IntKind.i64.wrap ((j - 1 : Nat) : Int) = ((j - 1 : Nat) : Int) := IntWalk.i64_in _ (by omega)
        have hjl : ((j - 1 : Nat) : Int) < (Z.length : Int) := by omega
        have hjl2 : j - 1 < Z.length := by omega
        have HJ0 := Lib.hid hj0
        clear hj0
        by_cases c3 : (n : Int) ≤ y
        · skip
          have Q := Lib.hid (HBAD.out fun h => by rw [HDEF.out] at h; have := h.2 (by have := HJ0.out; omega); omega)
          go_wp2_with fail
          go_big_quiet (fail)
          go_wp2_with fail
          go_ret
          exact ⟨by rw [Q.out]; rfl, below_on HA.out (HB.out.trans (below_drewN _ _ _)) HA.out.size⟩
        have d4 : decide ((n : Int) ≤ y) = false := by simpa using c3
        have HN := Lib.hid (okS_snoc HOK.out (by rw [HDEF.out]; exact ⟨by omega, fun _ => by omega⟩))
        go_wp2_with fail
        go_big_quiet (fail)
        go_wp2_with fail
        go_roundw
        case rel => exact ⟨j + 1, by omega, by go_num, HN.out, HB.out.trans (below_drewN _ _ _)⟩
        case measure => simp [intOf]; omega
    · obtain rfl : j = Z.length := by omega
      have HL1 := Lib.hid (HL.out.within (within_of hb) (.inr (Nat.zero_le _)))
      have HQ := Lib.hid (setB_all (p := p) HOK.out)
      clear hb hok
      go_wp2_with fail
      refine (specIsGraph' p l A cap _ HL1.out.at hn).mono ?_
      rintro e w2 ⟨rfl, hb⟩
      have HB2 := Lib.hid (below_on (below_on HA.out HB.out HA.out.size) hb (by have := HA.out.size; have := HB.out.size; omega))
      clear hb
      go_wp2_with fail
      go_ret
      exact ⟨by rw [HQ.out]; rfl, HB2.out⟩
end Go.Proofs.Ytedjhnedkghhoaa
/- What spec.IsForest answers. No condition. -/
namespace Go.Proofs.Ytedjhnedkghhoaa
open Go.RowKit

set_option maxHeartbeats 4000000 in
set_option maxRecDepth 100000 in
theorem specFor (p : Int) (l : List (Int × Int)) (zs : List Int) (A Z : Option Addr) (cap cz lo hi : Nat) (w : World) (hl : BarsAt w w.heap.size A l) (hz : IntsIn w lo hi Z zs) (hn : l.length ≤ 1048576) (hnz : zs.length ≤ 1048576) :
    Calls Try.prog 12 #[.agg #[.int .i64 p, .slice A l.length cap], .slice Z zs.length cz] w fun e w' => e = .returned (.bool (indB p 1 1 l zs)) ∧ Below w.heap.size w w' := by
  have HSET : ∀ W : World, BarsAt W W.heap.size A l → ∀ lo hi, IntsIn W lo hi Z zs → Calls Try.prog 82 #[.agg #[.int .i64 p, .slice A l.length cap], .slice Z zs.length cz] W fun e w' => e = .returned (.bool (setB p l zs)) ∧ Below W.heap.size W w' := fun W h lo hi h2 => l5Set_c p l A Z cap cz lo hi zs W h h2 hn hnz
  cases hs : setB p l zs with
  | false =>
    have HRV := Lib.hid (show (indB p 1 1 l zs) = false from indB_set hs)
    rw [hs] at HSET
    clear hs
    have W0 := Lib.hid (Below.refl w.heap.size w)
    have HB_0 := Lib.hid (bars_in hl)
    have HZ_0 := Lib.hid (hz)
    have hzh := hz.1
    clear hl hz
    have Z1 := Lib.hid (within_alloc w (.cells #[.int .i64 p, (.slice A l.length cap)] 30)).size
    have W1 := Lib.hid (within_on W0.out (within_alloc w (.cells #[.int .i64 p, (.slice A l.length cap)] 30)) W0.out.size (.inr (Nat.le_refl _)))
    have HB_1 := Lib.hid (HB_0.out.within (within_alloc w (.cells #[.int .i64 p, (.slice A l.length cap)] 30)) (by omega))
    have HZ_1 := Lib.hid (HZ_0.out.within (within_alloc w (.cells #[.int .i64 p, (.slice A l.length cap)] 30)) (by omega))
    have Y1 := Lib.hid (show (w.alloc (.cells #[.int .i64 p, (.slice A l.length cap)] 30)).heap.size = w.heap.size + 1 by simp)
    have hnew := box_new w p (.slice A l.length cap) 30
    have BX_1 := Lib.hid hnew
    clear hnew
    go_enter Try.func12, Try.ntmps12
    obtain ⟨g0_0, g0_1, g0_2⟩ := BX_1.out
    go_wp2_with fail
    clear g0_0 g0_1 g0_2
    generalize (w.alloc (.cells #[.int .i64 p, (.slice A l.length cap)] 30)) = w1 at *
    have HSE := Lib.hid (fun (W : World) (h : Below w1.heap.size w1 W) => HSET W (HB_1.out.within (within_of h) (.inr (Nat.zero_le _))).at lo hi (HZ_1.out.within (within_of h) (.inr (Nat.zero_le _))))
    clear HSET
    have HBD := Lib.hid (show Below w1.heap.size w1 w1.drew from (Below.refl _ _).drew)
    have KK := Lib.hid (fun (W : World) (h : Below w1.heap.size w1 W) => (BX_1.out.kept h).2)
    refine wp_region_held_drew (S := (fun W' : World => W'.cell? ⟨w.heap.size, 0, none⟩ = some (.int .i64 p) ∧ W'.cell? ⟨w.heap.size, 1, none⟩ = some (.slice A l.length cap))) (by kernel_rfl) ?_ (fun hHeld => ?_)
    · exact KK.out _ HBD.out
    generalize w1.drew = wD at *
    refine wpAnyH_take (i := 0) (v := .agg #[.int .i64 p, (.slice A l.length cap)]) rfl (by kernel_rfl) (by kernel_rfl) (by kernel_rfl) (fun _ _ _ h => h) (Or.inl ⟨by kernel_rfl, fun w hSw => by (try dsimp only at hSw); go_simp; all_goals first | omega | exact IntWalk.i64_in _ (by omega)⟩) (by assumption) ?_
    refine wpAnyH_take (i := 1) (v := .slice Z zs.length cz) rfl (by kernel_rfl) (by kernel_rfl) (by kernel_rfl) (fun _ _ _ h => h) (Or.inl ⟨by kernel_rfl, fun w hSw => by (try dsimp only at hSw); go_simp; all_goals first | omega | exact IntWalk.i64_in _ (by omega)⟩) (by assumption) ?_
    refine wpAnyH_ready (rs := [2]) (by kernel_rfl) (by simp) (AllReadyH.cons rfl (fun K hK => ?_) AllReadyH.nil)
    go_simp
    go_at_call 82
    refine (HSE.out _ HBD.out).mono ?_
    rintro e w2 ⟨rfl, hb⟩
    have HB2 := Lib.hid (below_on HBD.out hb HBD.out.size)
    clear hb
    refine hK _ _ (KK.out _ HB2.out) (fun hHeld => ?_)
    clear hK K
    refine wpAnyH_take (i := 3) (v := .bool false) rfl (by kernel_rfl) (by kernel_rfl) (by kernel_rfl) (fun _ _ _ h => h) (Or.inl ⟨by kernel_rfl, fun w hSw => by (try dsimp only at hSw); go_simp; all_goals first | omega | exact IntWalk.i64_in _ (by omega)⟩) (by assumption) ?_
    refine wpAnyH_take (i := 4) (v := undef) rfl (by kernel_rfl) (by kernel_rfl) (by kernel_rfl) (fun _ _ _ h => h) (Or.inr ⟨by kernel_rfl, rfl⟩) (by assumption) ?_
    refine wpAnyH_take (i := 5) (v := undef) rfl (by kernel_rfl) (by kernel_rfl) (by kernel_rfl) (fun _ _ _ h => h) (Or.inr ⟨by kernel_rfl, rfl⟩) (by assumption) ?_
    refine wpAnyH_take (i := 6) (v := undef) rfl (by kernel_rfl) (by kernel_rfl) (by kernel_rfl) (fun _ _ _ h => h) (Or.inr ⟨by kernel_rfl, rfl⟩) (by assumption) ?_
    refine wpAnyH_take (i := 7) (v := undef) rfl (by kernel_rfl) (by kernel_rfl) (by kernel_rfl) (fun _ _ _ h => h) (Or.inr ⟨by kernel_rfl, rfl⟩) (by assumption) ?_
    refine wpAnyH_take (i := 8) (v := undef) rfl (by kernel_rfl) (by kernel_rfl) (by kernel_rfl) (fun _ _ _ h => h) (Or.inr ⟨by kernel_rfl, rfl⟩) (by assumption) ?_
    refine wpAnyH_take (i := 9) (v := undef) rfl (by kernel_rfl) (by kernel_rfl) (by kernel_rfl) (fun _ _ _ h => h) (Or.inr ⟨by kernel_rfl, rfl⟩) (by assumption) ?_
    refine wpAnyH_take (i := 10) (v := undef) rfl (by kernel_rfl) (by kernel_rfl) (by kernel_rfl) (fun _ _ _ h => h) (Or.inr ⟨by kernel_rfl, rfl⟩) (by assumption) ?_
    refine wpAnyH_take (i := 11) (v := undef) rfl (by kernel_rfl) (by kernel_rfl) (by kernel_rfl) (fun _ _ _ h => h) (Or.inr ⟨by kernel_rfl, rfl⟩) (by assumption) ?_
    refine wpAnyH_take (i := 12) (v := undef) rfl (by kernel_rfl) (by kernel_rfl) (by kernel_rfl) (fun _ _ _ h => h) (Or.inr ⟨by kernel_rfl, rfl⟩) (by assumption) ?_
    refine wpAnyH_take (i := 13) (v := undef) rfl (by kernel_rfl) (by kernel_rfl) (by kernel_rfl) (fun _ _ _ h => h) (Or.inr ⟨by kernel_rfl, rfl⟩) (by assumption) ?_
    refine wpAnyH_take (i := 14) (v := .bool false) rfl (by kernel_rfl) (by kernel_rfl) (by kernel_rfl) (fun _ _ _ h => h) (Or.inl ⟨by kernel_rfl, fun w hSw => by (try dsimp only at hSw); go_simp; all_goals first | omega | exact IntWalk.i64_in _ (by omega)⟩) (by assumption) ?_
    refine wpAnyH_take (i := 15) (v := .bool false) rfl (by kernel_rfl) (by kernel_rfl) (by kernel_rfl) (fun _ _ _ h => h) (Or.inl ⟨by kernel_rfl, fun w hSw => by (try dsimp only at hSw); go_simp; all_goals first | omega | exact IntWalk.i64_in _ (by omega)⟩) (by assumption) ?_
    refine wpAnyH_done (by kernel_rfl) ?_ _
    simp only [Act.put, List.getElem_toArray, List.getElem_cons_succ, List.getElem_cons_zero, List.setIfInBounds_toArray, List.set_cons_zero, List.set_cons_succ]
    go_wp2_with fail
    go_ret
    exact ⟨by rw [HRV.out]; rfl, below_on W1.out HB2.out W1.out.size⟩
  | true =>
    have hG := (setB_is hs).2
    obtain ⟨P, rfl⟩ : ∃ P : Nat, p = (P : Int) := ⟨p.toNat, by have := hG.1; omega⟩
    have hP : P ≤ 8 := by have := hG.1; omega
    have HRV := Lib.hid (ind_pcs hs)
    have HS := Lib.hid hs
    rw [hs] at HSET
    clear hs hG
    have W0 := Lib.hid (Below.refl w.heap.size w)
    have HB_0 := Lib.hid (bars_in hl)
    have HZ_0 := Lib.hid (hz)
    have hzh := hz.1
    clear hl hz
    have Z1 := Lib.hid (within_alloc w (.cells #[.int .i64 (P : Int), (.slice A l.length cap)] 30)).size
    have W1 := Lib.hid (within_on W0.out (within_alloc w (.cells #[.int .i64 (P : Int), (.slice A l.length cap)] 30)) W0.out.size (.inr (Nat.le_refl _)))
    have HB_1 := Lib.hid (HB_0.out.within (within_alloc w (.cells #[.int .i64 (P : Int), (.slice A l.length cap)] 30)) (by omega))
    have HZ_1 := Lib.hid (HZ_0.out.within (within_alloc w (.cells #[.int .i64 (P : Int), (.slice A l.length cap)] 30)) (by omega))
    have Y1 := Lib.hid (show (w.alloc (.cells #[.int .i64 (P : Int), (.slice A l.length cap)] 30)).heap.size = w.heap.size + 1 by simp)
    have hnew := box_new w (P : Int) (.slice A l.length cap) 30
    have BX_1 := Lib.hid hnew
    clear hnew
    go_enter Try.func12, Try.ntmps12
    obtain ⟨g0_0, g0_1, g0_2⟩ := BX_1.out
    go_wp2_with fail
    clear g0_0 g0_1 g0_2
    generalize (w.alloc (.cells #[.int .i64 (P : Int), (.slice A l.length cap)] 30)) = w1 at *
    obtain ⟨r, hr⟩ : ∃ r, rootF P (plE l zs) = r := ⟨_, rfl⟩
    rw [Int.toNat_natCast, hr] at HRV
    have HROOT := Lib.hid (show ∀ W : World, BarsAt W W.heap.size A l → ∀ lo hi, IntsIn W lo hi Z zs → Calls Try.prog 84 #[.agg #[.int .i64 (P : Int), .slice A l.length cap], .slice Z zs.length cz] W (IntsO W (rowR P r)) from fun W h lo hi h2 => by rw [← hr]; exact l8Roots_c P l zs A Z cap cz lo hi W h h2 hn HS.out)
    clear hr
    have hpc : pcsN P r ≤ P := Nat.le_trans List.countP_le_length (by simp)
    have hw0 : IntKind.i64.wrap ((P : Int) - (zs.length : Int)) = (P : Int) - (zs.length : Int) := IntWalk.i64_in _ (by omega)
    have HSE := Lib.hid (fun (W : World) (h : Below w1.heap.size w1 W) => HSET W (HB_1.out.within (within_of h) (.inr (Nat.zero_le _))).at lo hi (HZ_1.out.within (within_of h) (.inr (Nat.zero_le _))))
    have HRE := Lib.hid (fun (W : World) (h : Below w1.heap.size w1 W) => HROOT.out W (HB_1.out.within (within_of h) (.inr (Nat.zero_le _))).at lo hi (HZ_1.out.within (within_of h) (.inr (Nat.zero_le _))))
    clear HSET
    have HBD := Lib.hid (show Below w1.heap.size w1 w1.drew from (Below.refl _ _).drew)
    have KK := Lib.hid (fun (W : World) (h : Below w1.heap.size w1 W) => (BX_1.out.kept h).2)
    refine wp_region_held_drew (S := (fun W' : World => W'.cell? ⟨w.heap.size, 0, none⟩ = some (.int .i64 (P : Int)) ∧ W'.cell? ⟨w.heap.size, 1, none⟩ = some (.slice A l.length cap))) (by kernel_rfl) ?_ (fun hHeld => ?_)
    · exact KK.out _ HBD.out
    generalize w1.drew = wD at *
    refine wpAnyH_take (i := 0) (v := .agg #[.int .i64 (P : Int), (.slice A l.length cap)]) rfl (by kernel_rfl) (by kernel_rfl) (by kernel_rfl) (fun _ _ _ h => h) (Or.inl ⟨by kernel_rfl, fun w hSw => by (try dsimp only at hSw); go_simp; all_goals first | omega | exact IntWalk.i64_in _ (by omega)⟩) (by assumption) ?_
    refine wpAnyH_take (i := 1) (v := .slice Z zs.length cz) rfl (by kernel_rfl) (by kernel_rfl) (by kernel_rfl) (fun _ _ _ h => h) (Or.inl ⟨by kernel_rfl, fun w hSw => by (try dsimp only at hSw); go_simp; all_goals first | omega | exact IntWalk.i64_in _ (by omega)⟩) (by assumption) ?_
    refine wpAnyH_ready (rs := [2]) (by kernel_rfl) (by simp) (AllReadyH.cons rfl (fun K hK => ?_) AllReadyH.nil)
    go_simp
    go_at_call 82
    refine (HSE.out _ HBD.out).mono ?_
    rintro e w2 ⟨rfl, hb⟩
    have HB2 := Lib.hid (below_on HBD.out hb HBD.out.size)
    clear hb
    refine hK _ _ (KK.out _ HB2.out) (fun hHeld => ?_)
    clear hK K
    refine wpAnyH_take (i := 3) (v := .bool true) rfl (by kernel_rfl) (by kernel_rfl) (by kernel_rfl) (fun _ _ _ h => h) (Or.inl ⟨by kernel_rfl, fun w hSw => by (try dsimp only at hSw); go_simp; all_goals first | omega | exact IntWalk.i64_in _ (by omega)⟩) (by assumption) ?_
    refine wpAnyH_take (i := 4) (v := .agg #[.int .i64 (P : Int), (.slice A l.length cap)]) rfl (by kernel_rfl) (by kernel_rfl) (by kernel_rfl) (fun _ _ _ h => h) (Or.inl ⟨by kernel_rfl, fun w hSw => by (try dsimp only at hSw); go_simp; all_goals first | omega | exact IntWalk.i64_in _ (by omega)⟩) (by assumption) ?_
    refine wpAnyH_take (i := 5) (v := .slice Z zs.length cz) rfl (by kernel_rfl) (by kernel_rfl) (by kernel_rfl) (fun _ _ _ h => h) (Or.inl ⟨by kernel_rfl, fun w hSw => by (try dsimp only at hSw); go_simp; all_goals first | omega | exact IntWalk.i64_in _ (by omega)⟩) (by assumption) ?_
    refine wpAnyH_take (i := 8) (v := .pointer (some ⟨w.heap.size, 0, none⟩)) rfl (by kernel_rfl) (by kernel_rfl) (by kernel_rfl) (fun _ _ _ h => h) (Or.inl ⟨by kernel_rfl, fun w hSw => by (try dsimp only at hSw); go_simp; all_goals first | omega | exact IntWalk.i64_in _ (by omega)⟩) (by assumption) ?_
    refine wpAnyH_take (i := 9) (v := .int .i64 (P : Int)) rfl (by kernel_rfl) (by kernel_rfl) (by kernel_rfl) (fun _ _ _ h => h) (Or.inl ⟨by kernel_rfl, fun w hSw => by (try dsimp only at hSw); go_simp; all_goals first | omega | exact IntWalk.i64_in _ (by omega)⟩) (by assumption) ?_
    refine wpAnyH_take (i := 10) (v := .slice Z zs.length cz) rfl (by kernel_rfl) (by kernel_rfl) (by kernel_rfl) (fun _ _ _ h => h) (Or.inl ⟨by kernel_rfl, fun w hSw => by (try dsimp only at hSw); go_simp; all_goals first | omega | exact IntWalk.i64_in _ (by omega)⟩) (by assumption) ?_
    refine wpAnyH_take (i := 11) (v := .int .i64 (zs.length : Int)) rfl (by kernel_rfl) (by kernel_rfl) (by kernel_rfl) (fun _ _ _ h => h) (Or.inl ⟨by kernel_rfl, fun w hSw => by (try dsimp only at hSw); go_simp; all_goals first | omega | exact IntWalk.i64_in _ (by omega)⟩) (by assumption) ?_
    refine wpAnyH_take (i := 12) (v := .int .i64 ((P : Int) - (zs.length : Int))) rfl (by kernel_rfl) (by kernel_rfl) (by kernel_rfl) (fun _ _ _ h => h) (Or.inl ⟨by kernel_rfl, fun w hSw => by (try dsimp only at hSw); go_simp; all_goals first | omega | exact IntWalk.i64_in _ (by omega)⟩) (by assumption) ?_
    refine wpAnyH_ready (rs := [6]) (by kernel_rfl) (by simp) (AllReadyH.cons rfl (fun K hK => ?_) AllReadyH.nil)
    go_simp
    go_at_call 84
    refine (HRE.out _ HB2.out).mono ?_
    rintro e w3 ⟨AR, cR, rfl, ho, hb⟩
    rw [rowR_len]
    have HAR := Lib.hid ho.reads
    have HB3 := Lib.hid (below_on HB2.out hb HB2.out.size)
    clear ho hb
    refine hK _ _ (KK.out _ HB3.out) (fun hHeld => ?_)
    clear hK K
    refine wpAnyH_ready (rs := [7]) (by kernel_rfl) (by simp) (AllReadyH.cons rfl (fun K hK => ?_) AllReadyH.nil)
    go_simp
    go_at_call 83
    refine (l8Pieces_c P r AR cR _ _ _ HAR.out hP).mono ?_
    rintro e w4 ⟨rfl, rfl⟩
    refine hK _ _ hHeld (fun hHeld => ?_)
    clear hK K
    refine wpAnyH_take (i := 13) (v := .bool ((pcsN P r : Int) == (P : Int) - (zs.length : Int))) rfl (by kernel_rfl) (by kernel_rfl) (by kernel_rfl) (fun _ _ _ h => h) (Or.inl ⟨by kernel_rfl, fun w hSw => by (try dsimp only at hSw); go_simp; all_goals first | omega | exact IntWalk.i64_in _ (by omega)⟩) (by assumption) ?_
    refine wpAnyH_take (i := 14) (v := .bool ((pcsN P r : Int) == (P : Int) - (zs.length : Int))) rfl (by kernel_rfl) (by kernel_rfl) (by kernel_rfl) (fun _ _ _ h => h) (Or.inl ⟨by kernel_rfl, fun w hSw => by (try dsimp only at hSw); go_simp; all_goals first | omega | exact IntWalk.i64_in _ (by omega)⟩) (by assumption) ?_
    refine wpAnyH_take (i := 15) (v := .bool ((pcsN P r : Int) == (P : Int) - (zs.length : Int))) rfl (by kernel_rfl) (by kernel_rfl) (by kernel_rfl) (fun _ _ _ h => h) (Or.inl ⟨by kernel_rfl, fun w hSw => by (try dsimp only at hSw); go_simp; all_goals first | omega | exact IntWalk.i64_in _ (by omega)⟩) (by assumption) ?_
    refine wpAnyH_done (by kernel_rfl) ?_ _
    simp only [Act.put, List.getElem_toArray, List.getElem_cons_succ, List.getElem_cons_zero, List.setIfInBounds_toArray, List.set_cons_zero, List.set_cons_succ]
    go_wp2_with fail
    go_ret
    exact ⟨by rw [HRV.out]; rfl, below_on W1.out HB3.out W1.out.size⟩
end Go.Proofs.Ytedjhnedkghhoaa
/- A set of numbers in a map of the call's own; a box of five cells. No program's walk. No condition. -/
namespace Go.Proofs.Ytedjhnedkghhoaa
open Go.RowKit

open Go.Maps

theorem lawI : Keyed Try.prog 3 := int_keyed Try.underlying3
abbrev OMap (W : World) (b n : Nat) (D : DataW Unit) : Prop := W.ownsMap Try.prog 3 (plainElem Try.prog 4) b n D
abbrev ORng (W : World) (b r n : Nat) (D : DataW Unit) (left : Lit → Bool) (cnt : Nat) : Prop := W.ranges Try.prog 3 (plainElem Try.prog 4) b r n D left cnt
/-- What a map says: the numbers of a list, all with 'true'. -/
def SaysS (D : DataW Unit) (zs : List Int) : Prop := ∀ x : Int, Maps.has D (.int .i64 x) = decide (x ∈ zs) ∧ D.atKey (.int .i64 x) (.lit (.bool false)) = .lit (.bool (decide (x ∈ zs)))
def SetM (W : World) (b n : Nat) (zs : List Int) : Prop := ∃ D : DataW Unit, OMap W b n D ∧ SaysS D zs
theorem SetM.lt {W : World} {b n : Nat} {zs : List Int} (h : SetM W b n zs) : b < W.heap.size := by
  obtain ⟨D, h1, _⟩ := h
  exact h1.lt
theorem omap_block {W W' : World} {b n : Nat} {D : DataW Unit} (h : OMap W b n D) (e : W'.heap[b]? = W.heap[b]?) : OMap W' b n D := by
  obtain ⟨es, clock, h1, h2⟩ := h
  exact ⟨es, clock, e.trans h1, h2⟩
theorem SetM.within {W W' : World} {b n lo hi : Nat} {zs : List Int} (h : SetM W b n zs) (hw : Within lo hi W W') (hd : b < lo ∨ hi ≤ b) : SetM W' b n zs := by
  have hl := h.lt
  obtain ⟨D, h1, h2⟩ := h
  exact ⟨D, omap_block h1 (hw.block b hl hd), h2⟩
theorem saysS_nil : SaysS (.map []) [] := fun x => ⟨by simp [Maps.has], by simp [DataW.atKey]⟩
theorem SaysS.put {D : DataW Unit} {zs : List Int} (h : SaysS D zs) (hD : IsMap D) (z : Int) : SaysS (D.put (.int .i64 z) (.lit (.bool true))) (zs ++ [z]) := fun x => by
  by_cases e : x = z
  · subst e
    rw [has_put_same (k := .int .i64 x) hD trivial, atKey_put_same (k := .int .i64 x) hD trivial]
    simp
  · have hne : (Lit.int .i64 x) ≠ .int .i64 z := fun q => e (by cases q; rfl)
    rw [has_put_other hne, atKey_put_other hne, (h x).1, (h x).2]
    simp [e]
theorem SaysS.congr {D : DataW Unit} {zs ys : List Int} (h : SaysS D zs) (e : ∀ x, x ∈ zs ↔ x ∈ ys) : SaysS D ys := fun x => by
  rw [(h x).1, (h x).2, decide_eq_decide.2 (e x)]
  exact ⟨rfl, rfl⟩
theorem SaysS.del {D : DataW Unit} {zs : List Int} (h : SaysS D zs) (z : Int) : SaysS (D.del (.int .i64 z)) (zs.filter fun x => !decide (x = z)) := fun x => by
  by_cases e : x = z
  · subst e
    rw [has_del_same, atKey_del_same]
    simp
  · have hne : (Lit.int .i64 x) ≠ .int .i64 z := fun q => e (by cases q; rfl)
    rw [has_del_other hne, atKey_del_other hne, (h x).1, (h x).2]
    simp [e]
theorem within_grown {W W' : World} {g : Nat} (hg : W.grownBy W' (some g)) : Within g (g + 1) W W' := ⟨hg.os, hg.tape, hg.output, hg.size, fun j hj hd => hg.block j hj (by simp; omega)⟩
theorem within_none {W W' : World} (hg : W.grownBy W' none) : Within 0 0 W W' := ⟨hg.os, hg.tape, hg.output, hg.size, fun j hj _ => hg.block j hj (by simp)⟩
theorem orng_block {W W' : World} {b r n : Nat} {D : DataW Unit} {left : Lit → Bool} {cnt : Nat} (h : ORng W b r n D left cnt) (e1 : W'.heap[b]? = W.heap[b]?) (e2 : W'.heap[r]? = W.heap[r]?) : ORng W' b r n D left cnt := by
  obtain ⟨es, clock, since, seen, c0, hb, F, hs, hD, hr, rest⟩ := h
  exact ⟨es, clock, since, seen, c0, e1.trans hb, F, hs, hD, e2.trans hr, rest⟩
theorem bool_inv {P : Program} {e : TypeId} (he : P.underlying e = some .bool) {v : Value} {y : DataW Unit × List MemPlace} (h : plainElem P e v = some y) : ∃ c, v = .bool c := by
  unfold plainElem at h
  rw [he] at h
  cases v <;> simp at h
  exact ⟨_, rfl⟩
/-- What has been collected: the keys that are no longer to come. -/
def CollS (D : DataW Unit) (left : Lit → Bool) (ks : List Int) : Prop := ∀ x : Int, x ∈ ks ↔ ((Lit.int .i64 x).wf = true ∧ Maps.has D (.int .i64 x) = true ∧ left (.int .i64 x) = false)
theorem CollS.start (D : DataW Unit) : CollS D (Maps.has D) [] := fun x => by cases Maps.has D (.int .i64 x) <;> simp
theorem CollS.step {D : DataW Unit} {left : Lit → Bool} {ks : List Int} (h : CollS D left ks) {x : Int} {y : DataW Unit} (hw : (Lit.int .i64 x).wf = true) (hat : ∀ zd, D.atKey (.int .i64 x) zd = y) : CollS D (fun z => left z && !z.sameKey (.int .i64 x)) (ks ++ [x]) := by
  have hhas : Maps.has D (.int .i64 x) = true := has_true_of_atKey hat
  intro z
  by_cases e : z = x
  · subst e; simp [hhas, hw, Lit.sameKey]
  · simp [h z, e, Lit.sameKey]
theorem CollS.done {D : DataW Unit} {left : Lit → Bool} {ks zs : List Int} (h : CollS D left ks) (hs : SaysS D zs) (hl : ∀ kl, left kl = false) (n : Nat) (hn : n ≤ 1048576) (j : Nat) (hj : j < n) : (j : Int) ∈ ks ↔ (j : Int) ∈ zs := by
  rw [h (j : Int), (hs (j : Int)).1, hl]
  have hw : (Lit.int .i64 (j : Int)).wf = true := WalkArith.wf_i64 (by omega)
  simp [hw]
/-- Five values in a block. -/
def Cel5 (W : World) (b : Nat) (T : TypeId) (v0 v1 v2 v3 v4 : Value) : Prop := W.heap[b]? = some (.cells #[v0, v1, v2, v3, v4] T (0, 0))
section
variable {W W' : World} {b lo hi : Nat} {T : TypeId} {v0 v1 v2 v3 v4 : Value}
theorem Cel5.lt (h : Cel5 W b T v0 v1 v2 v3 v4) : b < W.heap.size := (Array.getElem?_eq_some_iff.1 h).1
theorem Cel5.cells (h : Cel5 W b T v0 v1 v2 v3 v4) : W.cell? ⟨b, 0, none⟩ = some v0 ∧ W.cell? ⟨b, 1, none⟩ = some v1 ∧ W.cell? ⟨b, 2, none⟩ = some v2 ∧ W.cell? ⟨b, 3, none⟩ = some v3 ∧ W.cell? ⟨b, 4, none⟩ = some v4 := by
  refine ⟨?_, ?_, ?_, ?_, ?_⟩
  · rw [cell_of_row W b 0 _ T (0, 0) h]; rfl
  · rw [cell_of_row W b 1 _ T (0, 0) h]; rfl
  · rw [cell_of_row W b 2 _ T (0, 0) h]; rfl
  · rw [cell_of_row W b 3 _ T (0, 0) h]; rfl
  · rw [cell_of_row W b 4 _ T (0, 0) h]; rfl
theorem Cel5.frozen (h : Cel5 W b T v0 v1 v2 v3 v4) : W.frozen? ⟨b, 0, none⟩ = false ∧ W.frozen? ⟨b, 1, none⟩ = false ∧ W.frozen? ⟨b, 2, none⟩ = false ∧ W.frozen? ⟨b, 3, none⟩ = false ∧ W.frozen? ⟨b, 4, none⟩ = false :=
  ⟨frozen_of_row W b 0 _ T h, frozen_of_row W b 1 _ T h, frozen_of_row W b 2 _ T h, frozen_of_row W b 3 _ T h, frozen_of_row W b 4 _ T h⟩
theorem Cel5.within (h : Cel5 W b T v0 v1 v2 v3 v4) (hw : Within lo hi W W') (hd : b < lo ∨ hi ≤ b) : Cel5 W' b T v0 v1 v2 v3 v4 := (hw.block b h.lt hd).trans h
theorem cel5_new (w : World) (v0 v1 v2 v3 v4 : Value) (T : TypeId) : Cel5 (w.alloc (.cells #[v0, v1, v2, v3, v4] T)) w.heap.size T v0 v1 v2 v3 v4 := heap_alloc_new w _
theorem ret5 (h : Cel5 W b T v0 v1 v2 v3 v4) (u0 u1 u2 u3 u4 : Value) : Cel5 (((((W.setCell ⟨b, 0, none⟩ u0).setCell ⟨b, 1, none⟩ u1).setCell ⟨b, 2, none⟩ u2).setCell ⟨b, 3, none⟩ u3).setCell ⟨b, 4, none⟩ u4) b T u0 u1 u2 u3 u4 ∧ Within b (b + 1) W (((((W.setCell ⟨b, 0, none⟩ u0).setCell ⟨b, 1, none⟩ u1).setCell ⟨b, 2, none⟩ u2).setCell ⟨b, 3, none⟩ u3).setCell ⟨b, 4, none⟩ u4) := by
  have h0 : Cel5 _ b T u0 v1 v2 v3 v4 := heap_setCell_same W b 0 _ T u0 h
  have h1 : Cel5 _ b T u0 u1 v2 v3 v4 := heap_setCell_same _ b 1 _ T u1 h0
  have h2 : Cel5 _ b T u0 u1 u2 v3 v4 := heap_setCell_same _ b 2 _ T u2 h1
  have h3 : Cel5 _ b T u0 u1 u2 u3 v4 := heap_setCell_same _ b 3 _ T u3 h2
  have h4 : Cel5 _ b T u0 u1 u2 u3 u4 := heap_setCell_same _ b 4 _ T u4 h3
  exact ⟨h4, ((((within_set W b 0 u0).trans (within_set _ b 1 u1)).trans (within_set _ b 2 u2)).trans (within_set _ b 3 u3)).trans (within_set _ b 4 u4)⟩
end
abbrev bsV (p : Int) (A : Option Addr) (n cap : Nat) (k c : Int) (b : Nat) : Value := .agg #[.int .i64 p, .slice A n cap, .int .i64 k, .int .i64 c, .map (some b)]
end Go.Proofs.Ytedjhnedkghhoaa
/- What isBarSet answers. No condition. -/
namespace Go.Proofs.Ytedjhnedkghhoaa
open Go.RowKit

set_option maxHeartbeats 2000000 in
set_option maxRecDepth 100000 in
theorem isBarSet_c (p : Int) (l : List (Int × Int)) (A AZ : Option Addr) (cap cZ lo hi : Nat) (Z : List Int) (w : World) (hl : BarsAt w w.heap.size A l) (hz : IntsIn w lo hi AZ Z) (hn : l.length ≤ 1048576) (hZ : Z.length ≤ 1048576) :
    Calls Try.prog 113 #[.agg #[.int .i64 p, .slice A l.length cap], .slice AZ Z.length cZ] w fun e w' => e = .returned (.bool (setB p l Z)) ∧ Below w.heap.size w w' := by
  have hA := new_below w (.cells #[.int .i64 p, .slice A l.length cap] 30)
  have HA := Lib.hid hA
  have HL := Lib.hid ((bars_in hl).within (within_of hA) (.inr (Nat.zero_le _)))
  have HZ := Lib.hid (hz.within (within_of hA) (.inr (Nat.zero_le _)))
  have BX := Lib.hid (box_new w p (.slice A l.length cap) 30)
  clear hl hz hA
  go_enter Try.func113, Try.ntmps113
  go_wp2_with fail
  generalize (w.alloc (.cells #[.int .i64 p, .slice A l.length cap] 30)) = w1 at *
  go_loopw [5, 10] (fun la i wr => ∃ j : Nat, j ≤ Z.length ∧ i = .int .i64 j ∧ la = .int .i64 (lastP Z j) ∧ (∀ u, u < j → OkS l.length Z u) ∧ Below w1.heap.size w1 wr) (fun _ i _ => Z.length - (intOf i).toNat)
  case atStart => exact ⟨0, Nat.zero_le _, rfl, rfl, fun u hu => absurd hu (Nat.not_lt_zero _), Below.refl _ _⟩
  case round =>
    obtain ⟨j, hj, rfl, rfl, hok, hb⟩ := hrel
    have HB := Lib.hid hb
    have HOK := Lib.hid hok
    have BX1 := Lib.hid (BX.out.kept hb)
    obtain ⟨_, g0, g1⟩ := BX1.out
    by_cases hlt : j < Z.length
    · have hji : (j : Int) < (Z.length : Int) := by omega
      obtain ⟨b, off, rfl, hzc⟩ := row_at (HZ.out.within (within_of hb) (.inr (Nat.zero_le _))) (by omega)
      have hz := hzc j hlt
      have HLO := Lib.hid (lastP_ok hok)
      have HBAD := Lib.hid (fun h : ¬ OkS l.length Z j => setB_bad (p := p) hlt h)
      have HLN := Lib.hid (lastP_s Z j)
      clear hb hok hzc
      obtain ⟨y, hyd⟩ : ∃ y, Z.getD j 0 = y := ⟨_, rfl⟩
      obtain ⟨la, hla⟩ : ∃ la, lastP Z j = la := ⟨_, rfl⟩
      rw [hyd] at hz HLO HLN
      rw [hla] at HLO ⊢
      clear hyd hla
      by_cases c1 : y ≤ la
      · have Q := Lib.hid (HBAD.out fun h => by have := HLO.out.1 h; omega)
        have d1 : decide (y ≤ la) = true := by simpa using c1
        go_wp2_with fail
        go_ret
        exact ⟨by rw [Q.out]; rfl, below_on HA.out HB.out HA.out.size⟩
      · have d1 : decide (y ≤ la) = false := by simpa using c1
        by_cases c2 : (l.length : Int) ≤ y
        · have Q := Lib.hid (HBAD.out fun h => by have := HLO.out.1 h; omega)
          go_wp2_with fail
          go_ret
          exact ⟨by rw [Q.out]; rfl, below_on HA.out HB.out HA.out.size⟩
        · have HN := Lib.hid (okS_snoc HOK.out (HLO.out.2 ⟨by omega, by omega⟩))
          go_wp2_with fail
          go_roundw
          case rel => exact ⟨j + 1, by omega, by go_num, by rw [HLN.out], HN.out, HB.out⟩
          case measure => simp [intOf]; omega
    · obtain rfl : j = Z.length := by omega
      have HL1 := Lib.hid (HL.out.within (within_of hb) (.inr (Nat.zero_le _)))
      have HQ := Lib.hid (setB_all (p := p) HOK.out)
      clear hb hok
      go_wp2_with fail
      refine (implIsGraph p l A cap _ HL1.out.at hn).mono ?_
      rintro e w2 ⟨rfl, hb⟩
      have HB2 := Lib.hid (below_on (below_on HA.out HB.out HA.out.size) hb (by have := HA.out.size; have := HB.out.size; omega))
      clear hb
      go_wp2_with fail
      go_ret
      exact ⟨by rw [HQ.out]; rfl, HB2.out⟩
end Go.Proofs.Ytedjhnedkghhoaa
/- What impl.newBarSet answers. No condition. -/
namespace Go.Proofs.Ytedjhnedkghhoaa
open Go.RowKit

open Go.Maps

theorem IntsIn.at_on {w W V : World} {lo hi g h : Nat} {A : Option Addr} {zs : List Int} (hz : IntsIn w lo hi A zs) (hb : Below w.heap.size w W) (hw : Within g h W V) (hg : w.heap.size ≤ g) : IntsIn V lo hi A zs :=
  (hz.within (show Within w.heap.size W.heap.size w W from ⟨hb.os, hb.tape, hb.output, hb.size, fun k hk _ => hb.block k hk⟩) (.inl hz.1)).within hw (.inl (Nat.le_trans hz.1 hg))
set_option maxHeartbeats 4000000 in
set_option maxRecDepth 100000 in
theorem newSet_no (p k c : Int) (l : List (Int × Int)) (zs : List Int) (A Z : Option Addr) (cap cz lo hi : Nat) (w : World) (hl : BarsAt w w.heap.size A l) (hz : IntsIn w lo hi Z zs) (hn : l.length ≤ 1048576) (hnz : zs.length ≤ 1048576) (hbad : setB p l zs = false ∨ rangeB k c = false) :
    Calls Try.prog 131 #[.agg #[.int .i64 p, .slice A l.length cap], .int .i64 k, .int .i64 c, .slice Z zs.length cz] w fun e w' => e = .returned (.tuple #[.agg #[.int .i64 0, .slice none 0 0, .int .i64 0, .int .i64 0, .map none], .bool false]) ∧ Below w.heap.size w w' := by
  have HSET : ∀ W : World, BarsAt W W.heap.size A l → ∀ lo hi, IntsIn W lo hi Z zs → Calls Try.prog 113 #[.agg #[.int .i64 p, .slice A l.length cap], .slice Z zs.length cz] W fun e w' => e = .returned (.bool (setB p l zs)) ∧ Below W.heap.size W w' := fun W h lo hi h2 => isBarSet_c p l A Z cap cz lo hi zs W h h2 hn hnz
  rcases hs : setB p l zs with _ | _
  · rw [hs] at HSET
    clear hbad hs
    have hzh := hz.1
    have W0 := Lib.hid (Below.refl w.heap.size w)
    have HB_0 := Lib.hid (bars_in hl)
    have HZ_0 := Lib.hid (hz)
    clear hl hz
    have Z1 := Lib.hid (within_alloc w (.cells #[.int .i64 p, (.slice A l.length cap)] 30)).size
    have W1 := Lib.hid (within_on W0.out (within_alloc w (.cells #[.int .i64 p, (.slice A l.length cap)] 30)) W0.out.size (.inr (Nat.le_refl _)))
    have HB_1 := Lib.hid (HB_0.out.within (within_alloc w (.cells #[.int .i64 p, (.slice A l.length cap)] 30)) (by omega))
    have HZ_1 := Lib.hid (HZ_0.out.within (within_alloc w (.cells #[.int .i64 p, (.slice A l.length cap)] 30)) (by omega))
    have Y1 := Lib.hid (show (w.alloc (.cells #[.int .i64 p, (.slice A l.length cap)] 30)).heap.size = w.heap.size + 1 by simp)
    have hnew := box_new w p (.slice A l.length cap) 30
    have BX_1 := Lib.hid hnew
    clear hnew
    have Z2 := Lib.hid (within_alloc (w.alloc (.cells #[.int .i64 p, (.slice A l.length cap)] 30)) (.cells #[(.int .i64 0), (.slice none 0 0), (.int .i64 0), (.int .i64 0), (.map none)] 129)).size
    have W2 := Lib.hid (within_on W1.out (within_alloc (w.alloc (.cells #[.int .i64 p, (.slice A l.length cap)] 30)) (.cells #[(.int .i64 0), (.slice none 0 0), (.int .i64 0), (.int .i64 0), (.map none)] 129)) W1.out.size (.inr (Nat.le_refl _)))
    have HB_2 := Lib.hid (HB_1.out.within (within_alloc (w.alloc (.cells #[.int .i64 p, (.slice A l.length cap)] 30)) (.cells #[(.int .i64 0), (.slice none 0 0), (.int .i64 0), (.int .i64 0), (.map none)] 129)) (by omega))
    have HZ_2 := Lib.hid (HZ_1.out.within (within_alloc (w.alloc (.cells #[.int .i64 p, (.slice A l.length cap)] 30)) (.cells #[(.int .i64 0), (.slice none 0 0), (.int .i64 0), (.int .i64 0), (.map none)] 129)) (by omega))
    have BX_2 := Lib.hid (BX_1.out.within (within_alloc (w.alloc (.cells #[.int .i64 p, (.slice A l.length cap)] 30)) (.cells #[(.int .i64 0), (.slice none 0 0), (.int .i64 0), (.int .i64 0), (.map none)] 129)) (by omega))
    have Y2 := Lib.hid (show ((w.alloc (.cells #[.int .i64 p, (.slice A l.length cap)] 30)).alloc (.cells #[(.int .i64 0), (.slice none 0 0), (.int .i64 0), (.int .i64 0), (.map none)] 129)).heap.size = (w.alloc (.cells #[.int .i64 p, (.slice A l.length cap)] 30)).heap.size + 1 by simp)
    have hnew := cel5_new (w.alloc (.cells #[.int .i64 p, (.slice A l.length cap)] 30)) (.int .i64 0) (.slice none 0 0) (.int .i64 0) (.int .i64 0) (.map none) 129
    rw [show (w.alloc (.cells #[.int .i64 p, (.slice A l.length cap)] 30)).heap.size = w.heap.size + 1 by simp] at hnew
    have GR_2 := Lib.hid hnew
    clear hnew
    go_enter Try.func131, Try.ntmps131
    obtain ⟨g0_0, g0_1, g0_2⟩ := BX_2.out
    go_wp2_with fail
    clear g0_0 g0_1 g0_2
    generalize ((w.alloc (.cells #[.int .i64 p, (.slice A l.length cap)] 30)).alloc (.cells #[(.int .i64 0), (.slice none 0 0), (.int .i64 0), (.int .i64 0), (.map none)] 129)) = w2 at *
    generalize (w.alloc (.cells #[.int .i64 p, (.slice A l.length cap)] 30)) = w1 at *
    refine (HSET _ HB_2.out.at _ _ HZ_2.out).mono ?_
    rintro e w3 ⟨rfl, hb⟩
    have Z3 := Lib.hid (within_of hb).size
    have W3 := Lib.hid (within_on W2.out (within_of hb) W2.out.size (.inr (Nat.le_refl _)))
    have HB_3 := Lib.hid (HB_2.out.within (within_of hb) (by omega))
    have HZ_3 := Lib.hid (HZ_2.out.within (within_of hb) (by omega))
    have BX_3 := Lib.hid (BX_2.out.within (within_of hb) (by omega))
    have GR_3 := Lib.hid (GR_2.out.within (within_of hb) (by omega))
    clear hb HSET
    obtain ⟨g1_0, g1_1, g1_2, g1_3, g1_4⟩ := GR_3.out.cells
    obtain ⟨g2_0, g2_1, g2_2, g2_3, g2_4⟩ := GR_3.out.frozen
    have Z4 := Lib.hid ((ret5 GR_3.out (.int .i64 0) (.slice none 0 0) (.int .i64 0) (.int .i64 0) (.map none)).2).size
    have W4 := Lib.hid (within_on W3.out ((ret5 GR_3.out (.int .i64 0) (.slice none 0 0) (.int .i64 0) (.int .i64 0) (.map none)).2) W3.out.size (by have := Z1.out; have := Z2.out; have := Z3.out; have := Z4.out; have := Y1.out; have := Y2.out; omega))
    have HB_4 := Lib.hid (HB_3.out.within ((ret5 GR_3.out (.int .i64 0) (.slice none 0 0) (.int .i64 0) (.int .i64 0) (.map none)).2) (by have := Z1.out; have := Z2.out; have := Z3.out; have := Z4.out; have := Y1.out; have := Y2.out; omega))
    have HZ_4 := Lib.hid (HZ_3.out.within ((ret5 GR_3.out (.int .i64 0) (.slice none 0 0) (.int .i64 0) (.int .i64 0) (.map none)).2) (by have := Z1.out; have := Z2.out; have := Z3.out; have := Z4.out; have := Y1.out; have := Y2.out; omega))
    have BX_4 := Lib.hid (BX_3.out.within ((ret5 GR_3.out (.int .i64 0) (.slice none 0 0) (.int .i64 0) (.int .i64 0) (.map none)).2) (by have := Z1.out; have := Z2.out; have := Z3.out; have := Z4.out; have := Y1.out; have := Y2.out; omega))
    have GR_4 := Lib.hid ((ret5 GR_3.out (.int .i64 0) (.slice none 0 0) (.int .i64 0) (.int .i64 0) (.map none)).1)
    obtain ⟨g3_0, g3_1, g3_2, g3_3, g3_4⟩ := GR_4.out.cells
    obtain ⟨g4_0, g4_1, g4_2, g4_3, g4_4⟩ := GR_4.out.frozen
    go_wp2_with fail
    generalize (((((w3.setCell ⟨w.heap.size + 1, 0, none⟩ (.int .i64 0)).setCell ⟨w.heap.size + 1, 1, none⟩ (.slice none 0 0)).setCell ⟨w.heap.size + 1, 2, none⟩ (.int .i64 0)).setCell ⟨w.heap.size + 1, 3, none⟩ (.int .i64 0)).setCell ⟨w.heap.size + 1, 4, none⟩ (.map none)) = w4 at *
    refine bodyPost_ret (v := .tuple #[.agg #[.int .i64 0, .slice none 0 0, .int .i64 0, .int .i64 0, .map none], .bool false]) ?_ rfl ?_
    · simp [results, Try.results131, go_sem, g3_0, g3_1, g3_2, g3_3, g3_4]
    · exact ⟨rfl, W4.out⟩
  · have hr : rangeB k c = false := by
      rcases hbad with h | h
      · rw [hs] at h; cases h
      · exact h
    have HRG := Lib.hid hr
    rw [hs] at HSET
    clear hbad hs hr
    have hzh := hz.1
    have W0 := Lib.hid (Below.refl w.heap.size w)
    have HB_0 := Lib.hid (bars_in hl)
    have HZ_0 := Lib.hid (hz)
    clear hl hz
    have Z1 := Lib.hid (within_alloc w (.cells #[.int .i64 p, (.slice A l.length cap)] 30)).size
    have W1 := Lib.hid (within_on W0.out (within_alloc w (.cells #[.int .i64 p, (.slice A l.length cap)] 30)) W0.out.size (.inr (Nat.le_refl _)))
    have HB_1 := Lib.hid (HB_0.out.within (within_alloc w (.cells #[.int .i64 p, (.slice A l.length cap)] 30)) (by omega))
    have HZ_1 := Lib.hid (HZ_0.out.within (within_alloc w (.cells #[.int .i64 p, (.slice A l.length cap)] 30)) (by omega))
    have Y1 := Lib.hid (show (w.alloc (.cells #[.int .i64 p, (.slice A l.length cap)] 30)).heap.size = w.heap.size + 1 by simp)
    have hnew := box_new w p (.slice A l.length cap) 30
    have BX_1 := Lib.hid hnew
    clear hnew
    have Z2 := Lib.hid (within_alloc (w.alloc (.cells #[.int .i64 p, (.slice A l.length cap)] 30)) (.cells #[(.int .i64 0), (.slice none 0 0), (.int .i64 0), (.int .i64 0), (.map none)] 129)).size
    have W2 := Lib.hid (within_on W1.out (within_alloc (w.alloc (.cells #[.int .i64 p, (.slice A l.length cap)] 30)) (.cells #[(.int .i64 0), (.slice none 0 0), (.int .i64 0), (.int .i64 0), (.map none)] 129)) W1.out.size (.inr (Nat.le_refl _)))
    have HB_2 := Lib.hid (HB_1.out.within (within_alloc (w.alloc (.cells #[.int .i64 p, (.slice A l.length cap)] 30)) (.cells #[(.int .i64 0), (.slice none 0 0), (.int .i64 0), (.int .i64 0), (.map none)] 129)) (by omega))
    have HZ_2 := Lib.hid (HZ_1.out.within (within_alloc (w.alloc (.cells #[.int .i64 p, (.slice A l.length cap)] 30)) (.cells #[(.int .i64 0), (.slice none 0 0), (.int .i64 0), (.int .i64 0), (.map none)] 129)) (by omega))
    have BX_2 := Lib.hid (BX_1.out.within (within_alloc (w.alloc (.cells #[.int .i64 p, (.slice A l.length cap)] 30)) (.cells #[(.int .i64 0), (.slice none 0 0), (.int .i64 0), (.int .i64 0), (.map none)] 129)) (by omega))
    have Y2 := Lib.hid (show ((w.alloc (.cells #[.int .i64 p, (.slice A l.length cap)] 30)).alloc (.cells #[(.int .i64 0), (.slice none 0 0), (.int .i64 0), (.int .i64 0), (.map none)] 129)).heap.size = (w.alloc (.cells #[.int .i64 p, (.slice A l.length cap)] 30)).heap.size + 1 by simp)
    have hnew := cel5_new (w.alloc (.cells #[.int .i64 p, (.slice A l.length cap)] 30)) (.int .i64 0) (.slice none 0 0) (.int .i64 0) (.int .i64 0) (.map none) 129
    rw [show (w.alloc (.cells #[.int .i64 p, (.slice A l.length cap)] 30)).heap.size = w.heap.size + 1 by simp] at hnew
    have GR_2 := Lib.hid hnew
    clear hnew
    go_enter Try.func131, Try.ntmps131
    obtain ⟨g0_0, g0_1, g0_2⟩ := BX_2.out
    go_wp2_with fail
    clear g0_0 g0_1 g0_2
    generalize ((w.alloc (.cells #[.int .i64 p, (.slice A l.length cap)] 30)).alloc (.cells #[(.int .i64 0), (.slice none 0 0), (.int .i64 0), (.int .i64 0), (.map none)] 129)) = w2 at *
    generalize (w.alloc (.cells #[.int .i64 p, (.slice A l.length cap)] 30)) = w1 at *
    refine (HSET _ HB_2.out.at _ _ HZ_2.out).mono ?_
    rintro e w3 ⟨rfl, hb⟩
    have Z3 := Lib.hid (within_of hb).size
    have W3 := Lib.hid (within_on W2.out (within_of hb) W2.out.size (.inr (Nat.le_refl _)))
    have HB_3 := Lib.hid (HB_2.out.within (within_of hb) (by omega))
    have HZ_3 := Lib.hid (HZ_2.out.within (within_of hb) (by omega))
    have BX_3 := Lib.hid (BX_2.out.within (within_of hb) (by omega))
    have GR_3 := Lib.hid (GR_2.out.within (within_of hb) (by omega))
    clear hb HSET
    go_wp2_with fail
    refine (implRange k c _).mono ?_
    rintro e w9 ⟨rfl, rfl⟩
    rw [HRG.out]
    obtain ⟨g1_0, g1_1, g1_2, g1_3, g1_4⟩ := GR_3.out.cells
    obtain ⟨g2_0, g2_1, g2_2, g2_3, g2_4⟩ := GR_3.out.frozen
    have Z4 := Lib.hid ((ret5 GR_3.out (.int .i64 0) (.slice none 0 0) (.int .i64 0) (.int .i64 0) (.map none)).2).size
    have W4 := Lib.hid (within_on W3.out ((ret5 GR_3.out (.int .i64 0) (.slice none 0 0) (.int .i64 0) (.int .i64 0) (.map none)).2) W3.out.size (by have := Z1.out; have := Z2.out; have := Z3.out; have := Z4.out; have := Y1.out; have := Y2.out; omega))
    have HB_4 := Lib.hid (HB_3.out.within ((ret5 GR_3.out (.int .i64 0) (.slice none 0 0) (.int .i64 0) (.int .i64 0) (.map none)).2) (by have := Z1.out; have := Z2.out; have := Z3.out; have := Z4.out; have := Y1.out; have := Y2.out; omega))
    have HZ_4 := Lib.hid (HZ_3.out.within ((ret5 GR_3.out (.int .i64 0) (.slice none 0 0) (.int .i64 0) (.int .i64 0) (.map none)).2) (by have := Z1.out; have := Z2.out; have := Z3.out; have := Z4.out; have := Y1.out; have := Y2.out; omega))
    have BX_4 := Lib.hid (BX_3.out.within ((ret5 GR_3.out (.int .i64 0) (.slice none 0 0) (.int .i64 0) (.int .i64 0) (.map none)).2) (by have := Z1.out; have := Z2.out; have := Z3.out; have := Z4.out; have := Y1.out; have := Y2.out; omega))
    have GR_4 := Lib.hid ((ret5 GR_3.out (.int .i64 0) (.slice none 0 0) (.int .i64 0) (.int .i64 0) (.map none)).1)
    obtain ⟨g3_0, g3_1, g3_2, g3_3, g3_4⟩ := GR_4.out.cells
    obtain ⟨g4_0, g4_1, g4_2, g4_3, g4_4⟩ := GR_4.out.frozen
    go_wp2_with fail
    generalize (((((w3.setCell ⟨w.heap.size + 1, 0, none⟩ (.int .i64 0)).setCell ⟨w.heap.size + 1, 1, none⟩ (.slice none 0 0)).setCell ⟨w.heap.size + 1, 2, none⟩ (.int .i64 0)).setCell ⟨w.heap.size + 1, 3, none⟩ (.int .i64 0)).setCell ⟨w.heap.size + 1, 4, none⟩ (.map none)) = w4 at *
    refine bodyPost_ret (v := .tuple #[.agg #[.int .i64 0, .slice none 0 0, .int .i64 0, .int .i64 0, .map none], .bool false]) ?_ rfl ?_
    · simp [results, Try.results131, go_sem, g3_0, g3_1, g3_2, g3_3, g3_4]
    · exact ⟨rfl, W4.out⟩
/-- A set in a map of the call's own. -/
def NewSetP (w : World) (p : Int) (A : Option Addr) (n cap : Nat) (k c : Int) (zs : List Int) (e : Ending) (w' : World) : Prop :=
  ∃ b, e = .returned (.tuple #[bsV p A n cap k c b, .bool true]) ∧ SetM w' b zs.length zs ∧ w.heap.size ≤ b ∧ Below w.heap.size w w'
theorem setM_step {W W' : World} {b : Nat} {zs : List Int} {j : Nat} (hj : j < zs.length) {D : DataW Unit} (h : OMap W b j D) (hs : SaysS D (zs.take j)) (h' : OMap W' b (j + 1) (D.put (.int .i64 (zs.getD j 0)) (.lit (.bool true)))) : SetM W' b (j + 1) (zs.take (j + 1)) :=
  ⟨_, h', by
    have := hs.put h.isMap (zs.getD j 0)
    rwa [show zs.take j ++ [zs.getD j 0] = zs.take (j + 1) by rw [List.take_add_one]; simp [List.getD, List.getElem?_eq_getElem hj]] at this⟩

set_option maxHeartbeats 4000000 in
set_option maxRecDepth 100000 in
theorem newSet_yes (p k c : Int) (l : List (Int × Int)) (zs : List Int) (A Z : Option Addr) (cap cz lo hi : Nat) (w : World) (hl : BarsAt w w.heap.size A l) (hz : IntsIn w lo hi Z zs) (hn : l.length ≤ 1048576) (hnz : zs.length ≤ 1048576) (hs : setB p l zs = true) (hr : rangeB k c = true) :
    Calls Try.prog 131 #[.agg #[.int .i64 p, .slice A l.length cap], .int .i64 k, .int .i64 c, .slice Z zs.length cz] w (NewSetP w p A l.length cap k c zs) := by
  have HSET : ∀ W : World, BarsAt W W.heap.size A l → ∀ lo hi, IntsIn W lo hi Z zs → Calls Try.prog 113 #[.agg #[.int .i64 p, .slice A l.length cap], .slice Z zs.length cz] W fun e w' => e = .returned (.bool (setB p l zs)) ∧ Below W.heap.size W w' := fun W h lo hi h2 => isBarSet_c p l A Z cap cz lo hi zs W h h2 hn hnz
  have HRG := Lib.hid hr
  have HW := Lib.hid (show ∀ j, j < zs.length → (Lit.int .i64 (zs.getD j 0)).wf = true from fun j hj => WalkArith.wf_i64 (by have := ((setB_is hs).1 j hj).1; omega))
  rw [hs] at HSET
  clear hs hr
  have hzh := hz.1
  have W0 := Lib.hid (Below.refl w.heap.size w)
  have HB_0 := Lib.hid (bars_in hl)
  have HZ_0 := Lib.hid (hz)
  clear hl hz
  have Z1 := Lib.hid (within_alloc w (.cells #[.int .i64 p, (.slice A l.length cap)] 30)).size
  have W1 := Lib.hid (within_on W0.out (within_alloc w (.cells #[.int .i64 p, (.slice A l.length cap)] 30)) W0.out.size (.inr (Nat.le_refl _)))
  have HB_1 := Lib.hid (HB_0.out.within (within_alloc w (.cells #[.int .i64 p, (.slice A l.length cap)] 30)) (by omega))
  have HZ_1 := Lib.hid (HZ_0.out.within (within_alloc w (.cells #[.int .i64 p, (.slice A l.length cap)] 30)) (by omega))
  have Y1 := Lib.hid (show (w.alloc (.cells #[.int .i64 p, (.slice A l.length cap)] 30)).heap.size = w.heap.size + 1 by simp)
  have hnew := box_new w p (.slice A l.length cap) 30
  have BX_1 := Lib.hid hnew
  clear hnew
  have Z2 := Lib.hid (within_alloc (w.alloc (.cells #[.int .i64 p, (.slice A l.length cap)] 30)) (.cells #[(.int .i64 0), (.slice none 0 0), (.int .i64 0), (.int .i64 0), (.map none)] 129)).size
  have W2 := Lib.hid (within_on W1.out (within_alloc (w.alloc (.cells #[.int .i64 p, (.slice A l.length cap)] 30)) (.cells #[(.int .i64 0), (.slice none 0 0), (.int .i64 0), (.int .i64 0), (.map none)] 129)) W1.out.size (.inr (Nat.le_refl _)))
  have HB_2 := Lib.hid (HB_1.out.within (within_alloc (w.alloc (.cells #[.int .i64 p, (.slice A l.length cap)] 30)) (.cells #[(.int .i64 0), (.slice none 0 0), (.int .i64 0), (.int .i64 0), (.map none)] 129)) (by omega))
  have HZ_2 := Lib.hid (HZ_1.out.within (within_alloc (w.alloc (.cells #[.int .i64 p, (.slice A l.length cap)] 30)) (.cells #[(.int .i64 0), (.slice none 0 0), (.int .i64 0), (.int .i64 0), (.map none)] 129)) (by omega))
  have BX_2 := Lib.hid (BX_1.out.within (within_alloc (w.alloc (.cells #[.int .i64 p, (.slice A l.length cap)] 30)) (.cells #[(.int .i64 0), (.slice none 0 0), (.int .i64 0), (.int .i64 0), (.map none)] 129)) (by omega))
  have Y2 := Lib.hid (show ((w.alloc (.cells #[.int .i64 p, (.slice A l.length cap)] 30)).alloc (.cells #[(.int .i64 0), (.slice none 0 0), (.int .i64 0), (.int .i64 0), (.map none)] 129)).heap.size = (w.alloc (.cells #[.int .i64 p, (.slice A l.length cap)] 30)).heap.size + 1 by simp)
  have hnew := cel5_new (w.alloc (.cells #[.int .i64 p, (.slice A l.length cap)] 30)) (.int .i64 0) (.slice none 0 0) (.int .i64 0) (.int .i64 0) (.map none) 129
  rw [show (w.alloc (.cells #[.int .i64 p, (.slice A l.length cap)] 30)).heap.size = w.heap.size + 1 by simp] at hnew
  have GR_2 := Lib.hid hnew
  clear hnew
  go_enter Try.func131, Try.ntmps131
  obtain ⟨g0_0, g0_1, g0_2⟩ := BX_2.out
  go_wp2_with fail
  clear g0_0 g0_1 g0_2
  generalize ((w.alloc (.cells #[.int .i64 p, (.slice A l.length cap)] 30)).alloc (.cells #[(.int .i64 0), (.slice none 0 0), (.int .i64 0), (.int .i64 0), (.map none)] 129)) = w2 at *
  generalize (w.alloc (.cells #[.int .i64 p, (.slice A l.length cap)] 30)) = w1 at *
  refine (HSET _ HB_2.out.at _ _ HZ_2.out).mono ?_
  rintro e w3 ⟨rfl, hb⟩
  have Z3 := Lib.hid (within_of hb).size
  have W3 := Lib.hid (within_on W2.out (within_of hb) W2.out.size (.inr (Nat.le_refl _)))
  have HB_3 := Lib.hid (HB_2.out.within (within_of hb) (by omega))
  have HZ_3 := Lib.hid (HZ_2.out.within (within_of hb) (by omega))
  have BX_3 := Lib.hid (BX_2.out.within (within_of hb) (by omega))
  have GR_3 := Lib.hid (GR_2.out.within (within_of hb) (by omega))
  clear hb HSET
  go_wp2_with fail
  refine (implRange k c _).mono ?_
  rintro e w9 ⟨rfl, rfl⟩
  rw [HRG.out]
  have hmm := @run_makeMap Try.prog
  obtain ⟨g1_0, g1_1, g1_2⟩ := BX_3.out
  have Z4 := Lib.hid (within_alloc w3 (.map #[] 0)).size
  have W4 := Lib.hid (within_on W3.out (within_alloc w3 (.map #[] 0)) W3.out.size (.inr (Nat.le_refl _)))
  have HB_4 := Lib.hid (HB_3.out.within (within_alloc w3 (.map #[] 0)) (by omega))
  have HZ_4 := Lib.hid (HZ_3.out.within (within_alloc w3 (.map #[] 0)) (by omega))
  have BX_4 := Lib.hid (BX_3.out.within (within_alloc w3 (.map #[] 0)) (by omega))
  have GR_4 := Lib.hid (GR_3.out.within (within_alloc w3 (.map #[] 0)) (by omega))
  have Y4 := Lib.hid (show (w3.alloc (.map #[] 0)).heap.size = w3.heap.size + 1 by simp)
  have hom := World.ownsMap_made (H := Unit) w3 Try.prog 3 (plainElem Try.prog 4)
  have MP_4 := Lib.hid (show SetM (w3.alloc (.map #[] 0)) w3.heap.size 0 (zs.take 0) from ⟨_, hom, saysS_nil⟩)
  clear hom
  have Z5 := Lib.hid (within_alloc (w3.alloc (.map #[] 0)) (.cells #[(.int .i64 p), (.slice A l.length cap), (.int .i64 k), (.int .i64 c), (.map (some w3.heap.size))] 129)).size
  have W5 := Lib.hid (within_on W4.out (within_alloc (w3.alloc (.map #[] 0)) (.cells #[(.int .i64 p), (.slice A l.length cap), (.int .i64 k), (.int .i64 c), (.map (some w3.heap.size))] 129)) W4.out.size (.inr (Nat.le_refl _)))
  have HB_5 := Lib.hid (HB_4.out.within (within_alloc (w3.alloc (.map #[] 0)) (.cells #[(.int .i64 p), (.slice A l.length cap), (.int .i64 k), (.int .i64 c), (.map (some w3.heap.size))] 129)) (by omega))
  have HZ_5 := Lib.hid (HZ_4.out.within (within_alloc (w3.alloc (.map #[] 0)) (.cells #[(.int .i64 p), (.slice A l.length cap), (.int .i64 k), (.int .i64 c), (.map (some w3.heap.size))] 129)) (by omega))
  have BX_5 := Lib.hid (BX_4.out.within (within_alloc (w3.alloc (.map #[] 0)) (.cells #[(.int .i64 p), (.slice A l.length cap), (.int .i64 k), (.int .i64 c), (.map (some w3.heap.size))] 129)) (by omega))
  have GR_5 := Lib.hid (GR_4.out.within (within_alloc (w3.alloc (.map #[] 0)) (.cells #[(.int .i64 p), (.slice A l.length cap), (.int .i64 k), (.int .i64 c), (.map (some w3.heap.size))] 129)) (by omega))
  have MP_5 := Lib.hid (MP_4.out.within (within_alloc (w3.alloc (.map #[] 0)) (.cells #[(.int .i64 p), (.slice A l.length cap), (.int .i64 k), (.int .i64 c), (.map (some w3.heap.size))] 129)) (by omega))
  have Y5 := Lib.hid (show ((w3.alloc (.map #[] 0)).alloc (.cells #[(.int .i64 p), (.slice A l.length cap), (.int .i64 k), (.int .i64 c), (.map (some w3.heap.size))] 129)).heap.size = (w3.alloc (.map #[] 0)).heap.size + 1 by simp)
  have hnew := cel5_new (w3.alloc (.map #[] 0)) (.int .i64 p) (.slice A l.length cap) (.int .i64 k) (.int .i64 c) (.map (some w3.heap.size)) 129
  rw [show (w3.alloc (.map #[] 0)).heap.size = w3.heap.size + 1 by simp] at hnew
  have BB_5 := Lib.hid hnew
  clear hnew
  go_wp2_with fail
  clear g1_0 g1_1 g1_2
  generalize ((w3.alloc (.map #[] 0)).alloc (.cells #[(.int .i64 p), (.slice A l.length cap), (.int .i64 k), (.int .i64 c), (.map (some w3.heap.size))] 129)) = w5 at *
  generalize (w3.alloc (.map #[] 0)) = w4 at *
  have HMB := Lib.hid (show w.heap.size + 2 ≤ w3.heap.size from (by have := Z1.out; have := Z2.out; have := Z3.out; have := Z4.out; have := Z5.out; have := Y1.out; have := Y2.out; have := Y4.out; have := Y5.out; omega))
  have HMP := Lib.hid MP_5.out
  go_loopw [12, 31] (fun _ i wr => ∃ j : Nat, j ≤ zs.length ∧ i = .int .i64 j ∧ SetM wr w3.heap.size j (zs.take j) ∧ Within w3.heap.size (w3.heap.size + 1) w5 wr) (fun _ i _ => zs.length - (intOf i).toNat)
  case atStart => exact ⟨0, Nat.zero_le _, rfl, HMP.out, Within.refl _ _ _⟩
  case round =>
    obtain ⟨j, hj, rfl, hset, hwi⟩ := hrel
    have HWI := Lib.hid hwi
    have HB5 := Lib.hid (BB_5.out.within hwi (.inr (Nat.le_refl _)))
    obtain ⟨c0, c1, c2, c3, c4⟩ := HB5.out.cells
    have hzr := HZ_0.out.at_on W5.out hwi (by have := HMB.out; omega)
    by_cases hlt : j < zs.length
    · have hji : (j : Int) < (zs.length : Int) := by omega
      obtain ⟨zb, zo, rfl, hzc⟩ := row_at hzr (by omega)
      have hz := hzc j hlt
      obtain ⟨D, hom, hsay⟩ := hset
      have HOM := Lib.hid hom
      have HSAY := Lib.hid hsay
      have HWF := Lib.hid (HW.out j hlt)
      have HSTEP := Lib.hid (fun (W' : World) h' => setM_step (W' := W') hlt hom hsay h')
      clear hom hsay hzc hzr hwi
      obtain ⟨z, hzd⟩ : ∃ z, zs.getD j 0 = z := ⟨_, rfl⟩
      rw [hzd] at hz HWF HSTEP
      clear hzd
      go_wp2_with (first
        | (at_mapUpdate; refine wpList_mapUpdate_own _ rfl _ _ _ 127 rfl 3 4 lawI Try.underlying127 _ w3.heap.size j D rfl HOM.out (by unfold maxLen; omega) _ _ (.int .i64 z) rfl rfl (keyOf_int_mk Try.underlying3 HWF.out) _ [] (plainElem_bool Try.underlying4 true) ?_; intro w8 hown8 hg8; have HN := Lib.hid (HSTEP.out w8 hown8); have HWN := Lib.hid (HWI.out.trans (within_grown hg8)); clear hown8 hg8)
        | go_in)
      go_roundw
      case rel => exact ⟨j + 1, by omega, by go_num, HN.out, HWN.out⟩
      case measure => simp [intOf]; omega
    · obtain rfl : j = zs.length := by omega
      rw [List.take_length] at hset
      have HSET2 := Lib.hid hset
      clear hset hzr hwi
      have hgr := GR_5.out.within HWI.out (.inl (by have := HMB.out; omega))
      have h5 := ret5 hgr (.int .i64 p) (.slice A l.length cap) (.int .i64 k) (.int .i64 c) (.map (some w3.heap.size))
      obtain ⟨e0, e1, e2, e3, e4⟩ := hgr.cells
      obtain ⟨f0, f1, f2, f3, f4⟩ := hgr.frozen
      obtain ⟨s0, s1, s2, s3, s4⟩ := h5.1.cells
      have HW5 := Lib.hid h5.2
      clear h5 hgr
      go_wp2_with fail
      refine bodyPost_ret (v := .tuple #[bsV p A l.length cap k c w3.heap.size, .bool true]) ?_ rfl ?_
      · simp [results, Try.results131, go_sem, s0, s1, s2, s3, s4]
      · have hmb := HMB.out
        have hb0 := W5.out.size
        have hb1 := HWI.out.size
        exact ⟨_, rfl, HSET2.out.within HW5.out (.inr (by omega)), by omega, within_on (within_on W5.out HWI.out hb0 (.inl (by omega))) HW5.out (by omega) (.inl (by omega))⟩
end Go.Proofs.Ytedjhnedkghhoaa
/- What stands while a path is turned round in a copy of a state. No program's walk. No condition. -/
namespace Go.Proofs.Ytedjhnedkghhoaa
open Go.RowKit

/-- Where a point stands in a queue. -/
def posQ : List (Int × Nat) → Int → Nat
  | [], _ => 0
  | x :: r, t => if x.1 = t then 0 else posQ r t + 1
theorem posQ_in : ∀ (q1 r : List (Int × Nat)) (t : Int), t ∈ q1.map Prod.fst → posQ (q1 ++ r) t < q1.length := by
  intro q1 r t
  induction q1 with
  | nil => intro h; cases h
  | cons x q1 ih =>
    intro h
    rw [List.cons_append, posQ]
    by_cases c : x.1 = t
    · rw [if_pos c]; simp
    · rw [if_neg c]
      have : t ∈ q1.map Prod.fst := by
        rcases List.mem_cons.1 h with e | e
        · exact absurd e.symm c
        · exact e
      have := ih this
      simp only [List.length_cons]
      omega
theorem posQ_out : ∀ (q1 q2 : List (Int × Nat)) (t : Int) (i : Nat), t ∉ q1.map Prod.fst → posQ (q1 ++ (t, i) :: q2) t = q1.length := by
  intro q1 q2 t i
  induction q1 with
  | nil => intro _; simp [posQ]
  | cons x q1 ih =>
    intro h
    simp only [List.map_cons, List.mem_cons, not_or] at h
    rw [List.cons_append, posQ, if_neg (fun e => h.1 e.symm), ih h.2]
    rfl
theorem posQ_step {q1 q2 : List (Int × Nat)} {t t' : Int} {i : Nat} (h : t ∉ q1.map Prod.fst) (h' : t' ∈ q1.map Prod.fst) : posQ (q1 ++ (t, i) :: q2) t' < posQ (q1 ++ (t, i) :: q2) t := by
  rw [posQ_out q1 q2 t i h]
  exact posQ_in q1 _ t' h'
/-- The path from t on is still to be turned. -/
structure TurnI (P : Nat) (E : List (Int × Int)) (T0 : List Int) (a : Int) (q : List (Int × Nat)) (TF : List Int) (t : Int) (T : List Int) : Prop where
  ends : EndsQ P E T0
  len : T.length = E.length
  ex : ∃ q1 q2, q = q1 ++ q2 ∧ PathQ P E T0 a q1 ∧ t ∈ q1.map Prod.fst ∧ turnQ E a q1.reverse t T = TF ∧ ∀ x ∈ q1, x.1 ≠ a → T.getD x.2 0 = T0.getD x.2 0
theorem TurnI.done {P : Nat} {E : List (Int × Int)} {T0 : List Int} {a : Int} {q : List (Int × Nat)} {TF T : List Int} (h : TurnI P E T0 a q TF a T) : T = TF := by
  obtain ⟨q1, q2, _, _, _, e, _⟩ := h.ex
  rw [turnQ_a] at e
  exact e
/-- One bar of the path: its number, and where the path goes on. -/
theorem TurnI.next {P : Nat} {E : List (Int × Int)} {T0 : List Int} {a : Int} {q : List (Int × Nat)} {TF T : List Int} {t : Int} (h : TurnI P E T0 a q TF t T) (hn : t ≠ a) :
    ∃ i, (t, i) ∈ q ∧ i < E.length ∧ (0 ≤ t ∧ t < (P : Int)) ∧ T.getD i 0 = oth (E.getD i (0, 0)) t ∧ isEnd (E.getD i (0, 0)) t ∧ (0 ≤ oth (E.getD i (0, 0)) t ∧ oth (E.getD i (0, 0)) t < (P : Int)) ∧ TurnI P E T0 a q TF (oth (E.getD i (0, 0)) t) (T.set i t) ∧ posQ q (oth (E.getD i (0, 0)) t) < posQ q t := by
  obtain ⟨q1, q2, rfl, hp, ht, e, hT⟩ := h.ex
  obtain ⟨i, p1, p2, rfl, h1, h2, h3, h4, h5, h6, h7, h8⟩ := hp.at ht hn
  rw [turnQ_step E a t i p1 p2 T h1 hn] at e
  have hend : isEnd (E.getD i (0, 0)) t := by
    have := h.ends.tail i h3
    rw [h4] at this
    have := oth_end this
    rwa [oth_oth] at this
  have hb := h.ends.bar i h3
  refine ⟨i, by simp, h3, ⟨h6, h7⟩, (hT (t, i) (by simp) hn).trans h4, hend, ?_, ⟨h.ends, by rw [List.length_set]; exact h.len, p1, (t, i) :: p2 ++ q2, by simp, h8, h5, e, fun x hx hxa => ?_⟩, ?_⟩
  · unfold isEnd at hend
    unfold oth
    omega
  · rw [set_getD_ne _ _ _ _ _ (h8.other h2 h4 hx hxa)]
    exact hT x (List.mem_append_left _ hx) hxa
  · rw [List.append_assoc, List.cons_append]
    exact posQ_step h2 h5
theorem TurnI.start {P : Nat} {E : List (Int × Int)} {T0 : List Int} {a u : Int} {q r : List (Int × Nat)} (he : EndsQ P E T0) (hp : PathQ P E T0 a q) (hu : u ∈ q.map Prod.fst) : TurnI P E T0 a (q ++ r) (turnQ E a q.reverse u T0) u T0 :=
  ⟨he, he.len, q, r, rfl, hp, hu, rfl, fun _ _ _ => rfl⟩
end Go.Proofs.Ytedjhnedkghhoaa
/- What impl.turnPath does: a path is turned round in the row of tails. No condition. -/
namespace Go.Proofs.Ytedjhnedkghhoaa
open Go.RowKit

set_option maxHeartbeats 2000000 in
set_option maxRecDepth 100000 in
theorem turnPath_c (P : Nat) (E : List (Int × Int)) (F T Z TF : List Int) (a u : Int) (q : List (Int × Nat)) (rb B gF cF gT cT cZ z1 z2 : Nat) (AZ : Option Addr) (w : World) (hst : St3 w B gF cF gT cT AZ cZ z1 z2 F T Z) (hn : TurnI P E T a q TF u T) (hP : P ≤ 8)
    (hrb : ∀ x ∈ q, x.1 ≠ a → w.cell? ⟨rb, x.1.toNat, none⟩ = some (.pointer (some ⟨gT, x.2, none⟩))) (hne : rb ≠ gT) (hlt : rb < w.heap.size) :
    Calls Try.prog 182 #[.pointer (some ⟨rb, 0, none⟩), .int .i64 a, .int .i64 u] w fun e w' => e = .returned (.tuple #[]) ∧ St3 w' B gF cF gT cT AZ cZ z1 z2 F TF Z ∧ Within gT (gT + 1) w w' := by
  have HST := Lib.hid hst
  have HN := Lib.hid hn
  have HRB := Lib.hid hrb
  clear hst hn hrb
  go_enter Try.func182, Try.ntmps182
  go_wp2_with fail
  go_loopw [6] (fun v wr => ∃ (t : Int) (T' : List Int), v = .int .i64 t ∧ TurnI P E T a q TF t T' ∧ St3 wr B gF cF gT cT AZ cZ z1 z2 F T' Z ∧ Within gT (gT + 1) w wr) (fun v _ => posQ q (intOf v))
  case atStart => exact ⟨u, T, rfl, HN.out, HST.out, Within.refl _ _ _⟩
  case round =>
    obtain ⟨t, T', rfl, ht, hs, hw⟩ := hrel
    have HW := Lib.hid hw
    have HS := Lib.hid hs
    clear hs hw
    by_cases c : t = a
    · subst c
      obtain rfl := ht.done
      clear ht
      have e1 : (t != t) = false := by simp
      go_wp2_with fail
      go_end0
      exact ⟨rfl, HS.out, HW.out⟩
    · have e1 : (t != a) = true := by simpa using c
      obtain ⟨i, hi1, hi2, hi3, hi4, _, _, hi5, hi6⟩ := ht.next c
      have HX := Lib.hid hi5
      have HM := Lib.hid hi6
      have hlen := ht.len
      obtain ⟨hc1, hf1⟩ := HS.out.cellT i (by omega)
      have hr := (World.cell?_of_block (a := ⟨rb, t.toNat, none⟩) (HW.out.block rb hlt (by omega))).trans (HRB.out (t, i) hi1 c)
      have HS2 := Lib.hid (HS.out.setT i t)
      have HW2 := Lib.hid (HW.out.trans (within_set wr gT i (.int .i64 t)))
      rw [hi4] at hc1
      obtain ⟨v, hv⟩ : ∃ v, oth (E.getD i (0, 0)) t = v := ⟨_, rfl⟩
      rw [hv] at hc1 HX HM
      clear hi1 hi4 hi5 hi6 ht c hv
      obtain ⟨n, rfl⟩ : ∃ n : Nat, t = (n : Int) := ⟨t.toNat, by omega⟩
      rw [Int.toNat_natCast] at hr
      have hn8 : (n : Int) < 8 := by omega
      have hn8' : n < 8 := by omega
      go_wp2_with fail
      go_roundw
      case rel => exact ⟨v, _, rfl, HX.out, HS2.out, HW2.out⟩
      case measure => exact HM.out
end Go.Proofs.Ytedjhnedkghhoaa
/- What spec.NewPebbles answers. No condition. -/
namespace Go.Proofs.Ytedjhnedkghhoaa
open Go.RowKit

/-- An own row of no elements that is kept over steps of the world: what it is, and where. -/
structure Own0 (W : World) (base g : Nat) : Prop where
  row : W.ownsRow base 3 1 (.slice (some ⟨g, 0, none⟩) 0 0) 0 []
theorem Own0.within {W W' : World} {base g lo hi : Nat} (h : Own0 W base g) (hw : Within lo hi W W') (hd : g < lo ∨ hi ≤ g) : Own0 W' base g := by
  rcases h.row.2 with ⟨e, _⟩ | ⟨g', cap, cur, e, _, hh, _⟩
  · cases e
  · cases e
    exact ⟨own_block h.row (hw.block g (Array.getElem?_eq_some_iff.1 hh).1 hd)⟩
theorem Cel3.grown {W W' : World} {b : Nat} {T : TypeId} {v0 v1 v2 : Value} {g : Option Nat} (h : Cel3 W b T v0 v1 v2) (hg : W.grownBy W' g) (hne : some b ≠ g) : Cel3 W' b T v0 v1 v2 := (hg.block b h.lt (fun e => hne e)).trans h
/-- A state under the making: its free pebbles up to j. -/
structure NewS (w wr : World) (p k : Int) (gv : Value) (j : Nat) (v u1 u2 : Value) : Prop where
  row : wr.ownsRow w.heap.size 3 1 v j (intCells (List.replicate j k))
  at_ : ∀ a, v.ownBlock = some a → w.heap.size + 1 < a ∧ a ≠ w.heap.size + 1 + 1 + 1 + 1 + 1
  st : Cel3 wr (w.heap.size + 1 + 1 + 1 + 1 + 1) 58 v u1 u2
  ret : Cel3 wr (w.heap.size + 1) 58 (.slice none 0 0) (.slice none 0 0) (.slice none 0 0)
  box : Box wr w.heap.size p gv
  bel : Below w.heap.size w wr
theorem NewS.alloc {w wr : World} {p k : Int} {gv : Value} {j : Nat} {v u1 u2 : Value} (h : NewS w wr p k gv j v u1 u2) (o : Obj) : NewS w (wr.alloc o) p k gv j v u1 u2 :=
  ⟨h.row.alloc _, h.at_, h.st.kept (new_below wr o), h.ret.kept (new_below wr o), h.box.kept (new_below wr o), below_on h.bel (new_below wr o) h.bel.size⟩
theorem NewS.push {w wr w' : World} {p k : Int} {gv : Value} {j : Nat} {v v' u1 u2 : Value} (h : NewS w wr p k gv j v u1 u2) (ho : w'.ownsRow w.heap.size 3 1 v' (j + 1) (intCells (List.replicate j k) ++ [.int .i64 k])) (hg : wr.grownBy w' v.ownBlock)
    (hat : v'.ownBlock = v.ownBlock ∨ v'.ownBlock = some (wr.heap.size + 1)) : Cel3 w' (w.heap.size + 1 + 1 + 1 + 1 + 1) 58 v u1 u2 ∧ NewS w (w'.setCell ⟨w.heap.size + 1 + 1 + 1 + 1 + 1, 0, none⟩ v') p k gv (j + 1) v' u1 u2 := by
  obtain ⟨h1, h2, h3, h4, h5, h6⟩ := h
  have n5 : some (w.heap.size + 1 + 1 + 1 + 1 + 1) ≠ v.ownBlock := fun e => (h2 _ e.symm).2 rfl
  have c5 := h3.grown hg n5
  have l5 := h3.lt
  have hat' : ∀ a, v'.ownBlock = some a → w.heap.size + 1 < a ∧ a ≠ w.heap.size + 1 + 1 + 1 + 1 + 1 := fun a e => by
    rcases hat with hat | hat
    · exact h2 a (hat ▸ e)
    · rw [hat] at e
      cases e
      omega
  have hs := within_set w' (w.heap.size + 1 + 1 + 1 + 1 + 1) 0 v'
  refine ⟨c5, ?_, hat', c5.set0 v', ?_, ?_, ?_⟩
  · have hr : intCells (List.replicate (j + 1) k) = intCells (List.replicate j k) ++ [.int .i64 k] := by simp [intCells, List.replicate_succ']
    rw [hr]
    rcases ho.2 with ⟨e, e0⟩ | ⟨g, cap', cur, e, _, hh, _⟩
    · omega
    · subst e
      exact own_block ho (hs.block g (Array.getElem?_eq_some_iff.1 hh).1 (by have := (hat' g rfl).2; omega))
  · exact (h4.grown hg fun e => by have := (h2 _ e.symm).1; omega).within hs (by omega)
  · have hb := h5.1
    refine Box.within (W := w') ⟨Nat.lt_of_lt_of_le hb hg.size, ?_, ?_⟩ hs (by omega)
    · exact (World.cell?_of_block (hg.block w.heap.size hb fun e => by have := (h2 _ e.symm).1; omega)).trans h5.2.1
    · exact (World.cell?_of_block (a := ⟨w.heap.size, 1, none⟩) (hg.block w.heap.size hb fun e => by have := (h2 _ e.symm).1; omega)).trans h5.2.2
  · exact (h6.grown hg (Nat.le_trans h6.size (Nat.le_refl _)) fun g hgg => (h1.lt g hgg).1).setCell (p := ⟨w.heap.size + 1 + 1 + 1 + 1 + 1, 0, none⟩) (by simp only []; omega) _
theorem NewS.row2 {w wr : World} {p k : Int} {gv : Value} {j : Nat} {A : Option Addr} {c : Nat} {u1 u2 : Value} (h : NewS w wr p k gv j (.slice A j c) u1 u2) : OwnInts wr (w.heap.size + 1 + 1) wr.heap.size A c (List.replicate j k) := by
  refine ⟨Nat.le_refl _, ?_⟩
  rcases h.row.2 with ⟨_, e⟩ | ⟨g, cap, cur, e, h1, hh, h3⟩
  · subst e
    exact .inl rfl
  · cases e
    have := (h.at_ g rfl).1
    exact .inr ⟨g, rfl, by omega, (Array.getElem?_eq_some_iff.1 hh).1, by rw [List.length_replicate]; exact ⟨h.row.1, .inr ⟨g, c, cur, rfl, by omega, hh, h3⟩⟩⟩

set_option maxHeartbeats 4000000 in
set_option maxRecDepth 100000 in
theorem specNewP (p k : Int) (l : List (Int × Int)) (A : Option Addr) (cap : Nat) (w : World) (hl : BarsAt w w.heap.size A l) (hn : l.length ≤ 1048576) :
    Calls Try.prog 60 #[.agg #[.int .i64 p, .slice A l.length cap], .int .i64 k] w (PebOB w (newF p k l) [] [] (newB p k l)) := by
  have HISG : ∀ W : World, BarsAt W W.heap.size A l → Calls Try.prog 87 #[.agg #[.int .i64 p, .slice A l.length cap]] W fun e w' => e = .returned (.bool (isGB p l)) ∧ Below W.heap.size W w' := fun W h => specIsGraph' p l A cap W h hn
  by_cases hbad : isGB p l = false ∨ k < 1 ∨ 3 < k
  · have HR := Lib.hid (new_no hbad)
    rcases hg : isGB p l with _ | _
    · skip
      rw [hg] at HISG
      clear hbad
      have W0 := Lib.hid (Below.refl w.heap.size w)
      have HB_0 := Lib.hid (bars_in hl)
      clear hl
      have Z1 := Lib.hid (within_alloc w (.cells #[.int .i64 p, (.slice A l.length cap)] 30)).size
      have W1 := Lib.hid (within_on W0.out (within_alloc w (.cells #[.int .i64 p, (.slice A l.length cap)] 30)) W0.out.size (.inr (Nat.le_refl _)))
      have HB_1 := Lib.hid (HB_0.out.within (within_alloc w (.cells #[.int .i64 p, (.slice A l.length cap)] 30)) (by omega))
      have Y1 := Lib.hid (show (w.alloc (.cells #[.int .i64 p, (.slice A l.length cap)] 30)).heap.size = w.heap.size + 1 by simp)
      have hnew := box_new w p (.slice A l.length cap) 30
      have BX_1 := Lib.hid hnew
      clear hnew
      have Z2 := Lib.hid (within_alloc (w.alloc (.cells #[.int .i64 p, (.slice A l.length cap)] 30)) (.cells #[(.slice none 0 0), (.slice none 0 0), (.slice none 0 0)] 58)).size
      have W2 := Lib.hid (within_on W1.out (within_alloc (w.alloc (.cells #[.int .i64 p, (.slice A l.length cap)] 30)) (.cells #[(.slice none 0 0), (.slice none 0 0), (.slice none 0 0)] 58)) W1.out.size (.inr (Nat.le_refl _)))
      have HB_2 := Lib.hid (HB_1.out.within (within_alloc (w.alloc (.cells #[.int .i64 p, (.slice A l.length cap)] 30)) (.cells #[(.slice none 0 0), (.slice none 0 0), (.slice none 0 0)] 58)) (by omega))
      have BX_2 := Lib.hid (BX_1.out.within (within_alloc (w.alloc (.cells #[.int .i64 p, (.slice A l.length cap)] 30)) (.cells #[(.slice none 0 0), (.slice none 0 0), (.slice none 0 0)] 58)) (by omega))
      have Y2 := Lib.hid (show ((w.alloc (.cells #[.int .i64 p, (.slice A l.length cap)] 30)).alloc (.cells #[(.slice none 0 0), (.slice none 0 0), (.slice none 0 0)] 58)).heap.size = (w.alloc (.cells #[.int .i64 p, (.slice A l.length cap)] 30)).heap.size + 1 by simp)
      have hnew := cel3_new (w.alloc (.cells #[.int .i64 p, (.slice A l.length cap)] 30)) (.slice none 0 0) (.slice none 0 0) (.slice none 0 0) 58
      rw [show (w.alloc (.cells #[.int .i64 p, (.slice A l.length cap)] 30)).heap.size = w.heap.size + 1 by simp] at hnew
      have GR_2 := Lib.hid hnew
      clear hnew
      have Z3 := Lib.hid (within_alloc ((w.alloc (.cells #[.int .i64 p, (.slice A l.length cap)] 30)).alloc (.cells #[(.slice none 0 0), (.slice none 0 0), (.slice none 0 0)] 58)) (.cells #[] 3)).size
      have W3 := Lib.hid (within_on W2.out (within_alloc ((w.alloc (.cells #[.int .i64 p, (.slice A l.length cap)] 30)).alloc (.cells #[(.slice none 0 0), (.slice none 0 0), (.slice none 0 0)] 58)) (.cells #[] 3)) W2.out.size (.inr (Nat.le_refl _)))
      have HB_3 := Lib.hid (HB_2.out.within (within_alloc ((w.alloc (.cells #[.int .i64 p, (.slice A l.length cap)] 30)).alloc (.cells #[(.slice none 0 0), (.slice none 0 0), (.slice none 0 0)] 58)) (.cells #[] 3)) (by omega))
      have BX_3 := Lib.hid (BX_2.out.within (within_alloc ((w.alloc (.cells #[.int .i64 p, (.slice A l.length cap)] 30)).alloc (.cells #[(.slice none 0 0), (.slice none 0 0), (.slice none 0 0)] 58)) (.cells #[] 3)) (by omega))
      have GR_3 := Lib.hid (GR_2.out.within (within_alloc ((w.alloc (.cells #[.int .i64 p, (.slice A l.length cap)] 30)).alloc (.cells #[(.slice none 0 0), (.slice none 0 0), (.slice none 0 0)] 58)) (.cells #[] 3)) (by omega))
      have Y3 := Lib.hid (show (((w.alloc (.cells #[.int .i64 p, (.slice A l.length cap)] 30)).alloc (.cells #[(.slice none 0 0), (.slice none 0 0), (.slice none 0 0)] 58)).alloc (.cells #[] 3)).heap.size = ((w.alloc (.cells #[.int .i64 p, (.slice A l.length cap)] 30)).alloc (.cells #[(.slice none 0 0), (.slice none 0 0), (.slice none 0 0)] 58)).heap.size + 1 by simp)
      have Z4 := Lib.hid (within_alloc (((w.alloc (.cells #[.int .i64 p, (.slice A l.length cap)] 30)).alloc (.cells #[(.slice none 0 0), (.slice none 0 0), (.slice none 0 0)] 58)).alloc (.cells #[] 3)) (.cells #[] 3)).size
      have W4 := Lib.hid (within_on W3.out (within_alloc (((w.alloc (.cells #[.int .i64 p, (.slice A l.length cap)] 30)).alloc (.cells #[(.slice none 0 0), (.slice none 0 0), (.slice none 0 0)] 58)).alloc (.cells #[] 3)) (.cells #[] 3)) W3.out.size (.inr (Nat.le_refl _)))
      have HB_4 := Lib.hid (HB_3.out.within (within_alloc (((w.alloc (.cells #[.int .i64 p, (.slice A l.length cap)] 30)).alloc (.cells #[(.slice none 0 0), (.slice none 0 0), (.slice none 0 0)] 58)).alloc (.cells #[] 3)) (.cells #[] 3)) (by omega))
      have BX_4 := Lib.hid (BX_3.out.within (within_alloc (((w.alloc (.cells #[.int .i64 p, (.slice A l.length cap)] 30)).alloc (.cells #[(.slice none 0 0), (.slice none 0 0), (.slice none 0 0)] 58)).alloc (.cells #[] 3)) (.cells #[] 3)) (by omega))
      have GR_4 := Lib.hid (GR_3.out.within (within_alloc (((w.alloc (.cells #[.int .i64 p, (.slice A l.length cap)] 30)).alloc (.cells #[(.slice none 0 0), (.slice none 0 0), (.slice none 0 0)] 58)).alloc (.cells #[] 3)) (.cells #[] 3)) (by omega))
      have Y4 := Lib.hid (show ((((w.alloc (.cells #[.int .i64 p, (.slice A l.length cap)] 30)).alloc (.cells #[(.slice none 0 0), (.slice none 0 0), (.slice none 0 0)] 58)).alloc (.cells #[] 3)).alloc (.cells #[] 3)).heap.size = (((w.alloc (.cells #[.int .i64 p, (.slice A l.length cap)] 30)).alloc (.cells #[(.slice none 0 0), (.slice none 0 0), (.slice none 0 0)] 58)).alloc (.cells #[] 3)).heap.size + 1 by simp)
      have Z5 := Lib.hid (within_alloc ((((w.alloc (.cells #[.int .i64 p, (.slice A l.length cap)] 30)).alloc (.cells #[(.slice none 0 0), (.slice none 0 0), (.slice none 0 0)] 58)).alloc (.cells #[] 3)).alloc (.cells #[] 3)) (.cells #[] 3)).size
      have W5 := Lib.hid (within_on W4.out (within_alloc ((((w.alloc (.cells #[.int .i64 p, (.slice A l.length cap)] 30)).alloc (.cells #[(.slice none 0 0), (.slice none 0 0), (.slice none 0 0)] 58)).alloc (.cells #[] 3)).alloc (.cells #[] 3)) (.cells #[] 3)) W4.out.size (.inr (Nat.le_refl _)))
      have HB_5 := Lib.hid (HB_4.out.within (within_alloc ((((w.alloc (.cells #[.int .i64 p, (.slice A l.length cap)] 30)).alloc (.cells #[(.slice none 0 0), (.slice none 0 0), (.slice none 0 0)] 58)).alloc (.cells #[] 3)).alloc (.cells #[] 3)) (.cells #[] 3)) (by omega))
      have BX_5 := Lib.hid (BX_4.out.within (within_alloc ((((w.alloc (.cells #[.int .i64 p, (.slice A l.length cap)] 30)).alloc (.cells #[(.slice none 0 0), (.slice none 0 0), (.slice none 0 0)] 58)).alloc (.cells #[] 3)).alloc (.cells #[] 3)) (.cells #[] 3)) (by omega))
      have GR_5 := Lib.hid (GR_4.out.within (within_alloc ((((w.alloc (.cells #[.int .i64 p, (.slice A l.length cap)] 30)).alloc (.cells #[(.slice none 0 0), (.slice none 0 0), (.slice none 0 0)] 58)).alloc (.cells #[] 3)).alloc (.cells #[] 3)) (.cells #[] 3)) (by omega))
      have Y5 := Lib.hid (show (((((w.alloc (.cells #[.int .i64 p, (.slice A l.length cap)] 30)).alloc (.cells #[(.slice none 0 0), (.slice none 0 0), (.slice none 0 0)] 58)).alloc (.cells #[] 3)).alloc (.cells #[] 3)).alloc (.cells #[] 3)).heap.size = ((((w.alloc (.cells #[.int .i64 p, (.slice A l.length cap)] 30)).alloc (.cells #[(.slice none 0 0), (.slice none 0 0), (.slice none 0 0)] 58)).alloc (.cells #[] 3)).alloc (.cells #[] 3)).heap.size + 1 by simp)
      have Z6 := Lib.hid (within_alloc (((((w.alloc (.cells #[.int .i64 p, (.slice A l.length cap)] 30)).alloc (.cells #[(.slice none 0 0), (.slice none 0 0), (.slice none 0 0)] 58)).alloc (.cells #[] 3)).alloc (.cells #[] 3)).alloc (.cells #[] 3)) (.cells #[(.slice (some ⟨w.heap.size + 1 + 1, 0, none⟩) 0 0), (.slice (some ⟨w.heap.size + 1 + 1 + 1, 0, none⟩) 0 0), (.slice (some ⟨w.heap.size + 1 + 1 + 1 + 1, 0, none⟩) 0 0)] 58)).size
      have W6 := Lib.hid (within_on W5.out (within_alloc (((((w.alloc (.cells #[.int .i64 p, (.slice A l.length cap)] 30)).alloc (.cells #[(.slice none 0 0), (.slice none 0 0), (.slice none 0 0)] 58)).alloc (.cells #[] 3)).alloc (.cells #[] 3)).alloc (.cells #[] 3)) (.cells #[(.slice (some ⟨w.heap.size + 1 + 1, 0, none⟩) 0 0), (.slice (some ⟨w.heap.size + 1 + 1 + 1, 0, none⟩) 0 0), (.slice (some ⟨w.heap.size + 1 + 1 + 1 + 1, 0, none⟩) 0 0)] 58)) W5.out.size (.inr (Nat.le_refl _)))
      have HB_6 := Lib.hid (HB_5.out.within (within_alloc (((((w.alloc (.cells #[.int .i64 p, (.slice A l.length cap)] 30)).alloc (.cells #[(.slice none 0 0), (.slice none 0 0), (.slice none 0 0)] 58)).alloc (.cells #[] 3)).alloc (.cells #[] 3)).alloc (.cells #[] 3)) (.cells #[(.slice (some ⟨w.heap.size + 1 + 1, 0, none⟩) 0 0), (.slice (some ⟨w.heap.size + 1 + 1 + 1, 0, none⟩) 0 0), (.slice (some ⟨w.heap.size + 1 + 1 + 1 + 1, 0, none⟩) 0 0)] 58)) (by omega))
      have BX_6 := Lib.hid (BX_5.out.within (within_alloc (((((w.alloc (.cells #[.int .i64 p, (.slice A l.length cap)] 30)).alloc (.cells #[(.slice none 0 0), (.slice none 0 0), (.slice none 0 0)] 58)).alloc (.cells #[] 3)).alloc (.cells #[] 3)).alloc (.cells #[] 3)) (.cells #[(.slice (some ⟨w.heap.size + 1 + 1, 0, none⟩) 0 0), (.slice (some ⟨w.heap.size + 1 + 1 + 1, 0, none⟩) 0 0), (.slice (some ⟨w.heap.size + 1 + 1 + 1 + 1, 0, none⟩) 0 0)] 58)) (by omega))
      have GR_6 := Lib.hid (GR_5.out.within (within_alloc (((((w.alloc (.cells #[.int .i64 p, (.slice A l.length cap)] 30)).alloc (.cells #[(.slice none 0 0), (.slice none 0 0), (.slice none 0 0)] 58)).alloc (.cells #[] 3)).alloc (.cells #[] 3)).alloc (.cells #[] 3)) (.cells #[(.slice (some ⟨w.heap.size + 1 + 1, 0, none⟩) 0 0), (.slice (some ⟨w.heap.size + 1 + 1 + 1, 0, none⟩) 0 0), (.slice (some ⟨w.heap.size + 1 + 1 + 1 + 1, 0, none⟩) 0 0)] 58)) (by omega))
      have Y6 := Lib.hid (show ((((((w.alloc (.cells #[.int .i64 p, (.slice A l.length cap)] 30)).alloc (.cells #[(.slice none 0 0), (.slice none 0 0), (.slice none 0 0)] 58)).alloc (.cells #[] 3)).alloc (.cells #[] 3)).alloc (.cells #[] 3)).alloc (.cells #[(.slice (some ⟨w.heap.size + 1 + 1, 0, none⟩) 0 0), (.slice (some ⟨w.heap.size + 1 + 1 + 1, 0, none⟩) 0 0), (.slice (some ⟨w.heap.size + 1 + 1 + 1 + 1, 0, none⟩) 0 0)] 58)).heap.size = (((((w.alloc (.cells #[.int .i64 p, (.slice A l.length cap)] 30)).alloc (.cells #[(.slice none 0 0), (.slice none 0 0), (.slice none 0 0)] 58)).alloc (.cells #[] 3)).alloc (.cells #[] 3)).alloc (.cells #[] 3)).heap.size + 1 by simp)
      have hnew := cel3_new (((((w.alloc (.cells #[.int .i64 p, (.slice A l.length cap)] 30)).alloc (.cells #[(.slice none 0 0), (.slice none 0 0), (.slice none 0 0)] 58)).alloc (.cells #[] 3)).alloc (.cells #[] 3)).alloc (.cells #[] 3)) (.slice (some ⟨w.heap.size + 1 + 1, 0, none⟩) 0 0) (.slice (some ⟨w.heap.size + 1 + 1 + 1, 0, none⟩) 0 0) (.slice (some ⟨w.heap.size + 1 + 1 + 1 + 1, 0, none⟩) 0 0) 58
      rw [show (((((w.alloc (.cells #[.int .i64 p, (.slice A l.length cap)] 30)).alloc (.cells #[(.slice none 0 0), (.slice none 0 0), (.slice none 0 0)] 58)).alloc (.cells #[] 3)).alloc (.cells #[] 3)).alloc (.cells #[] 3)).heap.size = w.heap.size + 1 + 1 + 1 + 1 + 1 by simp] at hnew
      have GP_6 := Lib.hid hnew
      clear hnew
      go_enter Try.func60, Try.ntmps60
      obtain ⟨g0_0, g0_1, g0_2⟩ := BX_6.out
      go_wp2_with fail
      clear g0_0 g0_1 g0_2
      generalize ((((((w.alloc (.cells #[.int .i64 p, (.slice A l.length cap)] 30)).alloc (.cells #[(.slice none 0 0), (.slice none 0 0), (.slice none 0 0)] 58)).alloc (.cells #[] 3)).alloc (.cells #[] 3)).alloc (.cells #[] 3)).alloc (.cells #[(.slice (some ⟨w.heap.size + 1 + 1, 0, none⟩) 0 0), (.slice (some ⟨w.heap.size + 1 + 1 + 1, 0, none⟩) 0 0), (.slice (some ⟨w.heap.size + 1 + 1 + 1 + 1, 0, none⟩) 0 0)] 58)) = w6 at *
      generalize (((((w.alloc (.cells #[.int .i64 p, (.slice A l.length cap)] 30)).alloc (.cells #[(.slice none 0 0), (.slice none 0 0), (.slice none 0 0)] 58)).alloc (.cells #[] 3)).alloc (.cells #[] 3)).alloc (.cells #[] 3)) = w5 at *
      generalize ((((w.alloc (.cells #[.int .i64 p, (.slice A l.length cap)] 30)).alloc (.cells #[(.slice none 0 0), (.slice none 0 0), (.slice none 0 0)] 58)).alloc (.cells #[] 3)).alloc (.cells #[] 3)) = w4 at *
      generalize (((w.alloc (.cells #[.int .i64 p, (.slice A l.length cap)] 30)).alloc (.cells #[(.slice none 0 0), (.slice none 0 0), (.slice none 0 0)] 58)).alloc (.cells #[] 3)) = w3 at *
      generalize ((w.alloc (.cells #[.int .i64 p, (.slice A l.length cap)] 30)).alloc (.cells #[(.slice none 0 0), (.slice none 0 0), (.slice none 0 0)] 58)) = w2 at *
      generalize (w.alloc (.cells #[.int .i64 p, (.slice A l.length cap)] 30)) = w1 at *
      refine (HISG _ HB_6.out.at).mono ?_
      rintro e w7 ⟨rfl, hb⟩
      have Z7 := Lib.hid (within_of hb).size
      have W7 := Lib.hid (within_on W6.out (within_of hb) W6.out.size (.inr (Nat.le_refl _)))
      have HB_7 := Lib.hid (HB_6.out.within (within_of hb) (by omega))
      have BX_7 := Lib.hid (BX_6.out.within (within_of hb) (by omega))
      have GR_7 := Lib.hid (GR_6.out.within (within_of hb) (by omega))
      have GP_7 := Lib.hid (GP_6.out.within (within_of hb) (by omega))
      clear hb HISG
      obtain ⟨g1_0, g1_1, g1_2, g1_3, g1_4, g1_5⟩ := GR_7.out.cells
      have Z8 := Lib.hid ((ret3 GR_7.out (.slice none 0 0) (.slice none 0 0) (.slice none 0 0)).2).size
      have W8 := Lib.hid (within_on W7.out ((ret3 GR_7.out (.slice none 0 0) (.slice none 0 0) (.slice none 0 0)).2) W7.out.size (by have := Z1.out; have := Z2.out; have := Z3.out; have := Z4.out; have := Z5.out; have := Z6.out; have := Z7.out; have := Z8.out; have := Y1.out; have := Y2.out; have := Y3.out; have := Y4.out; have := Y5.out; have := Y6.out; omega))
      have HB_8 := Lib.hid (HB_7.out.within ((ret3 GR_7.out (.slice none 0 0) (.slice none 0 0) (.slice none 0 0)).2) (by have := Z1.out; have := Z2.out; have := Z3.out; have := Z4.out; have := Z5.out; have := Z6.out; have := Z7.out; have := Z8.out; have := Y1.out; have := Y2.out; have := Y3.out; have := Y4.out; have := Y5.out; have := Y6.out; omega))
      have BX_8 := Lib.hid (BX_7.out.within ((ret3 GR_7.out (.slice none 0 0) (.slice none 0 0) (.slice none 0 0)).2) (by have := Z1.out; have := Z2.out; have := Z3.out; have := Z4.out; have := Z5.out; have := Z6.out; have := Z7.out; have := Z8.out; have := Y1.out; have := Y2.out; have := Y3.out; have := Y4.out; have := Y5.out; have := Y6.out; omega))
      have GR_8 := Lib.hid ((ret3 GR_7.out (.slice none 0 0) (.slice none 0 0) (.slice none 0 0)).1)
      have GP_8 := Lib.hid (GP_7.out.within ((ret3 GR_7.out (.slice none 0 0) (.slice none 0 0) (.slice none 0 0)).2) (by have := Z1.out; have := Z2.out; have := Z3.out; have := Z4.out; have := Z5.out; have := Z6.out; have := Z7.out; have := Z8.out; have := Y1.out; have := Y2.out; have := Y3.out; have := Y4.out; have := Y5.out; have := Y6.out; omega))
      obtain ⟨g2_0, g2_1, g2_2, g2_3, g2_4, g2_5⟩ := GR_8.out.cells
      go_wp2_with fail
      generalize (((w7.setCell ⟨w.heap.size + 1, 0, none⟩ (.slice none 0 0)).setCell ⟨w.heap.size + 1, 1, none⟩ (.slice none 0 0)).setCell ⟨w.heap.size + 1, 2, none⟩ (.slice none 0 0)) = w8 at *
      refine bodyPost_ret (v := .tuple #[pebV none 0 0 none 0 0 none 0 0, .bool false]) ?_ rfl ?_
      · simp [results, Try.results60, go_sem, g2_0, g2_1, g2_2]
      · rw [HR.out.1, HR.out.2]
        exact ⟨none, 0, none, 0, none, 0, rfl, own3_nil _ _ W8.out.size _ _ _ _ _ _, W8.out⟩
    · skip
      rw [hg] at HISG
      have hk : k < 1 ∨ 3 < k := by simp only [hg] at hbad; simp at hbad; omega
      clear hbad
      have W0 := Lib.hid (Below.refl w.heap.size w)
      have HB_0 := Lib.hid (bars_in hl)
      clear hl
      have Z1 := Lib.hid (within_alloc w (.cells #[.int .i64 p, (.slice A l.length cap)] 30)).size
      have W1 := Lib.hid (within_on W0.out (within_alloc w (.cells #[.int .i64 p, (.slice A l.length cap)] 30)) W0.out.size (.inr (Nat.le_refl _)))
      have HB_1 := Lib.hid (HB_0.out.within (within_alloc w (.cells #[.int .i64 p, (.slice A l.length cap)] 30)) (by omega))
      have Y1 := Lib.hid (show (w.alloc (.cells #[.int .i64 p, (.slice A l.length cap)] 30)).heap.size = w.heap.size + 1 by simp)
      have hnew := box_new w p (.slice A l.length cap) 30
      have BX_1 := Lib.hid hnew
      clear hnew
      have Z2 := Lib.hid (within_alloc (w.alloc (.cells #[.int .i64 p, (.slice A l.length cap)] 30)) (.cells #[(.slice none 0 0), (.slice none 0 0), (.slice none 0 0)] 58)).size
      have W2 := Lib.hid (within_on W1.out (within_alloc (w.alloc (.cells #[.int .i64 p, (.slice A l.length cap)] 30)) (.cells #[(.slice none 0 0), (.slice none 0 0), (.slice none 0 0)] 58)) W1.out.size (.inr (Nat.le_refl _)))
      have HB_2 := Lib.hid (HB_1.out.within (within_alloc (w.alloc (.cells #[.int .i64 p, (.slice A l.length cap)] 30)) (.cells #[(.slice none 0 0), (.slice none 0 0), (.slice none 0 0)] 58)) (by omega))
      have BX_2 := Lib.hid (BX_1.out.within (within_alloc (w.alloc (.cells #[.int .i64 p, (.slice A l.length cap)] 30)) (.cells #[(.slice none 0 0), (.slice none 0 0), (.slice none 0 0)] 58)) (by omega))
      have Y2 := Lib.hid (show ((w.alloc (.cells #[.int .i64 p, (.slice A l.length cap)] 30)).alloc (.cells #[(.slice none 0 0), (.slice none 0 0), (.slice none 0 0)] 58)).heap.size = (w.alloc (.cells #[.int .i64 p, (.slice A l.length cap)] 30)).heap.size + 1 by simp)
      have hnew := cel3_new (w.alloc (.cells #[.int .i64 p, (.slice A l.length cap)] 30)) (.slice none 0 0) (.slice none 0 0) (.slice none 0 0) 58
      rw [show (w.alloc (.cells #[.int .i64 p, (.slice A l.length cap)] 30)).heap.size = w.heap.size + 1 by simp] at hnew
      have GR_2 := Lib.hid hnew
      clear hnew
      have Z3 := Lib.hid (within_alloc ((w.alloc (.cells #[.int .i64 p, (.slice A l.length cap)] 30)).alloc (.cells #[(.slice none 0 0), (.slice none 0 0), (.slice none 0 0)] 58)) (.cells #[] 3)).size
      have W3 := Lib.hid (within_on W2.out (within_alloc ((w.alloc (.cells #[.int .i64 p, (.slice A l.length cap)] 30)).alloc (.cells #[(.slice none 0 0), (.slice none 0 0), (.slice none 0 0)] 58)) (.cells #[] 3)) W2.out.size (.inr (Nat.le_refl _)))
      have HB_3 := Lib.hid (HB_2.out.within (within_alloc ((w.alloc (.cells #[.int .i64 p, (.slice A l.length cap)] 30)).alloc (.cells #[(.slice none 0 0), (.slice none 0 0), (.slice none 0 0)] 58)) (.cells #[] 3)) (by omega))
      have BX_3 := Lib.hid (BX_2.out.within (within_alloc ((w.alloc (.cells #[.int .i64 p, (.slice A l.length cap)] 30)).alloc (.cells #[(.slice none 0 0), (.slice none 0 0), (.slice none 0 0)] 58)) (.cells #[] 3)) (by omega))
      have GR_3 := Lib.hid (GR_2.out.within (within_alloc ((w.alloc (.cells #[.int .i64 p, (.slice A l.length cap)] 30)).alloc (.cells #[(.slice none 0 0), (.slice none 0 0), (.slice none 0 0)] 58)) (.cells #[] 3)) (by omega))
      have Y3 := Lib.hid (show (((w.alloc (.cells #[.int .i64 p, (.slice A l.length cap)] 30)).alloc (.cells #[(.slice none 0 0), (.slice none 0 0), (.slice none 0 0)] 58)).alloc (.cells #[] 3)).heap.size = ((w.alloc (.cells #[.int .i64 p, (.slice A l.length cap)] 30)).alloc (.cells #[(.slice none 0 0), (.slice none 0 0), (.slice none 0 0)] 58)).heap.size + 1 by simp)
      have Z4 := Lib.hid (within_alloc (((w.alloc (.cells #[.int .i64 p, (.slice A l.length cap)] 30)).alloc (.cells #[(.slice none 0 0), (.slice none 0 0), (.slice none 0 0)] 58)).alloc (.cells #[] 3)) (.cells #[] 3)).size
      have W4 := Lib.hid (within_on W3.out (within_alloc (((w.alloc (.cells #[.int .i64 p, (.slice A l.length cap)] 30)).alloc (.cells #[(.slice none 0 0), (.slice none 0 0), (.slice none 0 0)] 58)).alloc (.cells #[] 3)) (.cells #[] 3)) W3.out.size (.inr (Nat.le_refl _)))
      have HB_4 := Lib.hid (HB_3.out.within (within_alloc (((w.alloc (.cells #[.int .i64 p, (.slice A l.length cap)] 30)).alloc (.cells #[(.slice none 0 0), (.slice none 0 0), (.slice none 0 0)] 58)).alloc (.cells #[] 3)) (.cells #[] 3)) (by omega))
      have BX_4 := Lib.hid (BX_3.out.within (within_alloc (((w.alloc (.cells #[.int .i64 p, (.slice A l.length cap)] 30)).alloc (.cells #[(.slice none 0 0), (.slice none 0 0), (.slice none 0 0)] 58)).alloc (.cells #[] 3)) (.cells #[] 3)) (by omega))
      have GR_4 := Lib.hid (GR_3.out.within (within_alloc (((w.alloc (.cells #[.int .i64 p, (.slice A l.length cap)] 30)).alloc (.cells #[(.slice none 0 0), (.slice none 0 0), (.slice none 0 0)] 58)).alloc (.cells #[] 3)) (.cells #[] 3)) (by omega))
      have Y4 := Lib.hid (show ((((w.alloc (.cells #[.int .i64 p, (.slice A l.length cap)] 30)).alloc (.cells #[(.slice none 0 0), (.slice none 0 0), (.slice none 0 0)] 58)).alloc (.cells #[] 3)).alloc (.cells #[] 3)).heap.size = (((w.alloc (.cells #[.int .i64 p, (.slice A l.length cap)] 30)).alloc (.cells #[(.slice none 0 0), (.slice none 0 0), (.slice none 0 0)] 58)).alloc (.cells #[] 3)).heap.size + 1 by simp)
      have Z5 := Lib.hid (within_alloc ((((w.alloc (.cells #[.int .i64 p, (.slice A l.length cap)] 30)).alloc (.cells #[(.slice none 0 0), (.slice none 0 0), (.slice none 0 0)] 58)).alloc (.cells #[] 3)).alloc (.cells #[] 3)) (.cells #[] 3)).size
      have W5 := Lib.hid (within_on W4.out (within_alloc ((((w.alloc (.cells #[.int .i64 p, (.slice A l.length cap)] 30)).alloc (.cells #[(.slice none 0 0), (.slice none 0 0), (.slice none 0 0)] 58)).alloc (.cells #[] 3)).alloc (.cells #[] 3)) (.cells #[] 3)) W4.out.size (.inr (Nat.le_refl _)))
      have HB_5 := Lib.hid (HB_4.out.within (within_alloc ((((w.alloc (.cells #[.int .i64 p, (.slice A l.length cap)] 30)).alloc (.cells #[(.slice none 0 0), (.slice none 0 0), (.slice none 0 0)] 58)).alloc (.cells #[] 3)).alloc (.cells #[] 3)) (.cells #[] 3)) (by omega))
      have BX_5 := Lib.hid (BX_4.out.within (within_alloc ((((w.alloc (.cells #[.int .i64 p, (.slice A l.length cap)] 30)).alloc (.cells #[(.slice none 0 0), (.slice none 0 0), (.slice none 0 0)] 58)).alloc (.cells #[] 3)).alloc (.cells #[] 3)) (.cells #[] 3)) (by omega))
      have GR_5 := Lib.hid (GR_4.out.within (within_alloc ((((w.alloc (.cells #[.int .i64 p, (.slice A l.length cap)] 30)).alloc (.cells #[(.slice none 0 0), (.slice none 0 0), (.slice none 0 0)] 58)).alloc (.cells #[] 3)).alloc (.cells #[] 3)) (.cells #[] 3)) (by omega))
      have Y5 := Lib.hid (show (((((w.alloc (.cells #[.int .i64 p, (.slice A l.length cap)] 30)).alloc (.cells #[(.slice none 0 0), (.slice none 0 0), (.slice none 0 0)] 58)).alloc (.cells #[] 3)).alloc (.cells #[] 3)).alloc (.cells #[] 3)).heap.size = ((((w.alloc (.cells #[.int .i64 p, (.slice A l.length cap)] 30)).alloc (.cells #[(.slice none 0 0), (.slice none 0 0), (.slice none 0 0)] 58)).alloc (.cells #[] 3)).alloc (.cells #[] 3)).heap.size + 1 by simp)
      have Z6 := Lib.hid (within_alloc (((((w.alloc (.cells #[.int .i64 p, (.slice A l.length cap)] 30)).alloc (.cells #[(.slice none 0 0), (.slice none 0 0), (.slice none 0 0)] 58)).alloc (.cells #[] 3)).alloc (.cells #[] 3)).alloc (.cells #[] 3)) (.cells #[(.slice (some ⟨w.heap.size + 1 + 1, 0, none⟩) 0 0), (.slice (some ⟨w.heap.size + 1 + 1 + 1, 0, none⟩) 0 0), (.slice (some ⟨w.heap.size + 1 + 1 + 1 + 1, 0, none⟩) 0 0)] 58)).size
      have W6 := Lib.hid (within_on W5.out (within_alloc (((((w.alloc (.cells #[.int .i64 p, (.slice A l.length cap)] 30)).alloc (.cells #[(.slice none 0 0), (.slice none 0 0), (.slice none 0 0)] 58)).alloc (.cells #[] 3)).alloc (.cells #[] 3)).alloc (.cells #[] 3)) (.cells #[(.slice (some ⟨w.heap.size + 1 + 1, 0, none⟩) 0 0), (.slice (some ⟨w.heap.size + 1 + 1 + 1, 0, none⟩) 0 0), (.slice (some ⟨w.heap.size + 1 + 1 + 1 + 1, 0, none⟩) 0 0)] 58)) W5.out.size (.inr (Nat.le_refl _)))
      have HB_6 := Lib.hid (HB_5.out.within (within_alloc (((((w.alloc (.cells #[.int .i64 p, (.slice A l.length cap)] 30)).alloc (.cells #[(.slice none 0 0), (.slice none 0 0), (.slice none 0 0)] 58)).alloc (.cells #[] 3)).alloc (.cells #[] 3)).alloc (.cells #[] 3)) (.cells #[(.slice (some ⟨w.heap.size + 1 + 1, 0, none⟩) 0 0), (.slice (some ⟨w.heap.size + 1 + 1 + 1, 0, none⟩) 0 0), (.slice (some ⟨w.heap.size + 1 + 1 + 1 + 1, 0, none⟩) 0 0)] 58)) (by omega))
      have BX_6 := Lib.hid (BX_5.out.within (within_alloc (((((w.alloc (.cells #[.int .i64 p, (.slice A l.length cap)] 30)).alloc (.cells #[(.slice none 0 0), (.slice none 0 0), (.slice none 0 0)] 58)).alloc (.cells #[] 3)).alloc (.cells #[] 3)).alloc (.cells #[] 3)) (.cells #[(.slice (some ⟨w.heap.size + 1 + 1, 0, none⟩) 0 0), (.slice (some ⟨w.heap.size + 1 + 1 + 1, 0, none⟩) 0 0), (.slice (some ⟨w.heap.size + 1 + 1 + 1 + 1, 0, none⟩) 0 0)] 58)) (by omega))
      have GR_6 := Lib.hid (GR_5.out.within (within_alloc (((((w.alloc (.cells #[.int .i64 p, (.slice A l.length cap)] 30)).alloc (.cells #[(.slice none 0 0), (.slice none 0 0), (.slice none 0 0)] 58)).alloc (.cells #[] 3)).alloc (.cells #[] 3)).alloc (.cells #[] 3)) (.cells #[(.slice (some ⟨w.heap.size + 1 + 1, 0, none⟩) 0 0), (.slice (some ⟨w.heap.size + 1 + 1 + 1, 0, none⟩) 0 0), (.slice (some ⟨w.heap.size + 1 + 1 + 1 + 1, 0, none⟩) 0 0)] 58)) (by omega))
      have Y6 := Lib.hid (show ((((((w.alloc (.cells #[.int .i64 p, (.slice A l.length cap)] 30)).alloc (.cells #[(.slice none 0 0), (.slice none 0 0), (.slice none 0 0)] 58)).alloc (.cells #[] 3)).alloc (.cells #[] 3)).alloc (.cells #[] 3)).alloc (.cells #[(.slice (some ⟨w.heap.size + 1 + 1, 0, none⟩) 0 0), (.slice (some ⟨w.heap.size + 1 + 1 + 1, 0, none⟩) 0 0), (.slice (some ⟨w.heap.size + 1 + 1 + 1 + 1, 0, none⟩) 0 0)] 58)).heap.size = (((((w.alloc (.cells #[.int .i64 p, (.slice A l.length cap)] 30)).alloc (.cells #[(.slice none 0 0), (.slice none 0 0), (.slice none 0 0)] 58)).alloc (.cells #[] 3)).alloc (.cells #[] 3)).alloc (.cells #[] 3)).heap.size + 1 by simp)
      have hnew := cel3_new (((((w.alloc (.cells #[.int .i64 p, (.slice A l.length cap)] 30)).alloc (.cells #[(.slice none 0 0), (.slice none 0 0), (.slice none 0 0)] 58)).alloc (.cells #[] 3)).alloc (.cells #[] 3)).alloc (.cells #[] 3)) (.slice (some ⟨w.heap.size + 1 + 1, 0, none⟩) 0 0) (.slice (some ⟨w.heap.size + 1 + 1 + 1, 0, none⟩) 0 0) (.slice (some ⟨w.heap.size + 1 + 1 + 1 + 1, 0, none⟩) 0 0) 58
      rw [show (((((w.alloc (.cells #[.int .i64 p, (.slice A l.length cap)] 30)).alloc (.cells #[(.slice none 0 0), (.slice none 0 0), (.slice none 0 0)] 58)).alloc (.cells #[] 3)).alloc (.cells #[] 3)).alloc (.cells #[] 3)).heap.size = w.heap.size + 1 + 1 + 1 + 1 + 1 by simp] at hnew
      have GP_6 := Lib.hid hnew
      clear hnew
      go_enter Try.func60, Try.ntmps60
      obtain ⟨g0_0, g0_1, g0_2⟩ := BX_6.out
      go_wp2_with fail
      clear g0_0 g0_1 g0_2
      generalize ((((((w.alloc (.cells #[.int .i64 p, (.slice A l.length cap)] 30)).alloc (.cells #[(.slice none 0 0), (.slice none 0 0), (.slice none 0 0)] 58)).alloc (.cells #[] 3)).alloc (.cells #[] 3)).alloc (.cells #[] 3)).alloc (.cells #[(.slice (some ⟨w.heap.size + 1 + 1, 0, none⟩) 0 0), (.slice (some ⟨w.heap.size + 1 + 1 + 1, 0, none⟩) 0 0), (.slice (some ⟨w.heap.size + 1 + 1 + 1 + 1, 0, none⟩) 0 0)] 58)) = w6 at *
      generalize (((((w.alloc (.cells #[.int .i64 p, (.slice A l.length cap)] 30)).alloc (.cells #[(.slice none 0 0), (.slice none 0 0), (.slice none 0 0)] 58)).alloc (.cells #[] 3)).alloc (.cells #[] 3)).alloc (.cells #[] 3)) = w5 at *
      generalize ((((w.alloc (.cells #[.int .i64 p, (.slice A l.length cap)] 30)).alloc (.cells #[(.slice none 0 0), (.slice none 0 0), (.slice none 0 0)] 58)).alloc (.cells #[] 3)).alloc (.cells #[] 3)) = w4 at *
      generalize (((w.alloc (.cells #[.int .i64 p, (.slice A l.length cap)] 30)).alloc (.cells #[(.slice none 0 0), (.slice none 0 0), (.slice none 0 0)] 58)).alloc (.cells #[] 3)) = w3 at *
      generalize ((w.alloc (.cells #[.int .i64 p, (.slice A l.length cap)] 30)).alloc (.cells #[(.slice none 0 0), (.slice none 0 0), (.slice none 0 0)] 58)) = w2 at *
      generalize (w.alloc (.cells #[.int .i64 p, (.slice A l.length cap)] 30)) = w1 at *
      refine (HISG _ HB_6.out.at).mono ?_
      rintro e w7 ⟨rfl, hb⟩
      have Z7 := Lib.hid (within_of hb).size
      have W7 := Lib.hid (within_on W6.out (within_of hb) W6.out.size (.inr (Nat.le_refl _)))
      have HB_7 := Lib.hid (HB_6.out.within (within_of hb) (by omega))
      have BX_7 := Lib.hid (BX_6.out.within (within_of hb) (by omega))
      have GR_7 := Lib.hid (GR_6.out.within (within_of hb) (by omega))
      have GP_7 := Lib.hid (GP_6.out.within (within_of hb) (by omega))
      clear hb HISG
      go_wp2_with fail
      refine (l1In_no k 1 3 _ hk).mono ?_
      rintro e w9 ⟨rfl, rfl⟩
      obtain ⟨g1_0, g1_1, g1_2, g1_3, g1_4, g1_5⟩ := GR_7.out.cells
      have Z8 := Lib.hid ((ret3 GR_7.out (.slice none 0 0) (.slice none 0 0) (.slice none 0 0)).2).size
      have W8 := Lib.hid (within_on W7.out ((ret3 GR_7.out (.slice none 0 0) (.slice none 0 0) (.slice none 0 0)).2) W7.out.size (by have := Z1.out; have := Z2.out; have := Z3.out; have := Z4.out; have := Z5.out; have := Z6.out; have := Z7.out; have := Z8.out; have := Y1.out; have := Y2.out; have := Y3.out; have := Y4.out; have := Y5.out; have := Y6.out; omega))
      have HB_8 := Lib.hid (HB_7.out.within ((ret3 GR_7.out (.slice none 0 0) (.slice none 0 0) (.slice none 0 0)).2) (by have := Z1.out; have := Z2.out; have := Z3.out; have := Z4.out; have := Z5.out; have := Z6.out; have := Z7.out; have := Z8.out; have := Y1.out; have := Y2.out; have := Y3.out; have := Y4.out; have := Y5.out; have := Y6.out; omega))
      have BX_8 := Lib.hid (BX_7.out.within ((ret3 GR_7.out (.slice none 0 0) (.slice none 0 0) (.slice none 0 0)).2) (by have := Z1.out; have := Z2.out; have := Z3.out; have := Z4.out; have := Z5.out; have := Z6.out; have := Z7.out; have := Z8.out; have := Y1.out; have := Y2.out; have := Y3.out; have := Y4.out; have := Y5.out; have := Y6.out; omega))
      have GR_8 := Lib.hid ((ret3 GR_7.out (.slice none 0 0) (.slice none 0 0) (.slice none 0 0)).1)
      have GP_8 := Lib.hid (GP_7.out.within ((ret3 GR_7.out (.slice none 0 0) (.slice none 0 0) (.slice none 0 0)).2) (by have := Z1.out; have := Z2.out; have := Z3.out; have := Z4.out; have := Z5.out; have := Z6.out; have := Z7.out; have := Z8.out; have := Y1.out; have := Y2.out; have := Y3.out; have := Y4.out; have := Y5.out; have := Y6.out; omega))
      obtain ⟨g2_0, g2_1, g2_2, g2_3, g2_4, g2_5⟩ := GR_8.out.cells
      go_wp2_with fail
      generalize (((w7.setCell ⟨w.heap.size + 1, 0, none⟩ (.slice none 0 0)).setCell ⟨w.heap.size + 1, 1, none⟩ (.slice none 0 0)).setCell ⟨w.heap.size + 1, 2, none⟩ (.slice none 0 0)) = w8 at *
      refine bodyPost_ret (v := .tuple #[pebV none 0 0 none 0 0 none 0 0, .bool false]) ?_ rfl ?_
      · simp [results, Try.results60, go_sem, g2_0, g2_1, g2_2]
      · rw [HR.out.1, HR.out.2]
        exact ⟨none, 0, none, 0, none, 0, rfl, own3_nil _ _ W8.out.size _ _ _ _ _ _, W8.out⟩
  · skip
    have hg : isGB p l = true := by
      cases h : isGB p l with
      | true => rfl
      | false => exact absurd (.inl h) hbad
    have hG : IsG p l := Classical.byContradiction fun g => by rw [isGB_no g] at hg; cases hg
    obtain ⟨P, rfl⟩ : ∃ P : Nat, p = (P : Int) := ⟨p.toNat, by have := hG.1; omega⟩
    have hP : 1 ≤ P ∧ P ≤ 8 := by have := hG.1; omega
    have hk1 : ¬ k < 1 := by omega
    have hk2 : ¬ 3 < k := by omega
    have HR := Lib.hid (new_yes (l := l) hg (by omega : 1 ≤ k) (by omega))
    rw [hg] at HISG
    clear hbad hG hg
    have W0 := Lib.hid (Below.refl w.heap.size w)
    have HB_0 := Lib.hid (bars_in hl)
    clear hl
    have Z1 := Lib.hid (within_alloc w (.cells #[.int .i64 (P : Int), (.slice A l.length cap)] 30)).size
    have W1 := Lib.hid (within_on W0.out (within_alloc w (.cells #[.int .i64 (P : Int), (.slice A l.length cap)] 30)) W0.out.size (.inr (Nat.le_refl _)))
    have HB_1 := Lib.hid (HB_0.out.within (within_alloc w (.cells #[.int .i64 (P : Int), (.slice A l.length cap)] 30)) (by omega))
    have Y1 := Lib.hid (show (w.alloc (.cells #[.int .i64 (P : Int), (.slice A l.length cap)] 30)).heap.size = w.heap.size + 1 by simp)
    have hnew := box_new w (P : Int) (.slice A l.length cap) 30
    have BX_1 := Lib.hid hnew
    clear hnew
    have Z2 := Lib.hid (within_alloc (w.alloc (.cells #[.int .i64 (P : Int), (.slice A l.length cap)] 30)) (.cells #[(.slice none 0 0), (.slice none 0 0), (.slice none 0 0)] 58)).size
    have W2 := Lib.hid (within_on W1.out (within_alloc (w.alloc (.cells #[.int .i64 (P : Int), (.slice A l.length cap)] 30)) (.cells #[(.slice none 0 0), (.slice none 0 0), (.slice none 0 0)] 58)) W1.out.size (.inr (Nat.le_refl _)))
    have HB_2 := Lib.hid (HB_1.out.within (within_alloc (w.alloc (.cells #[.int .i64 (P : Int), (.slice A l.length cap)] 30)) (.cells #[(.slice none 0 0), (.slice none 0 0), (.slice none 0 0)] 58)) (by omega))
    have BX_2 := Lib.hid (BX_1.out.within (within_alloc (w.alloc (.cells #[.int .i64 (P : Int), (.slice A l.length cap)] 30)) (.cells #[(.slice none 0 0), (.slice none 0 0), (.slice none 0 0)] 58)) (by omega))
    have Y2 := Lib.hid (show ((w.alloc (.cells #[.int .i64 (P : Int), (.slice A l.length cap)] 30)).alloc (.cells #[(.slice none 0 0), (.slice none 0 0), (.slice none 0 0)] 58)).heap.size = (w.alloc (.cells #[.int .i64 (P : Int), (.slice A l.length cap)] 30)).heap.size + 1 by simp)
    have hnew := cel3_new (w.alloc (.cells #[.int .i64 (P : Int), (.slice A l.length cap)] 30)) (.slice none 0 0) (.slice none 0 0) (.slice none 0 0) 58
    rw [show (w.alloc (.cells #[.int .i64 (P : Int), (.slice A l.length cap)] 30)).heap.size = w.heap.size + 1 by simp] at hnew
    have GR_2 := Lib.hid hnew
    clear hnew
    have Z3 := Lib.hid (within_alloc ((w.alloc (.cells #[.int .i64 (P : Int), (.slice A l.length cap)] 30)).alloc (.cells #[(.slice none 0 0), (.slice none 0 0), (.slice none 0 0)] 58)) (.cells #[] 3)).size
    have W3 := Lib.hid (within_on W2.out (within_alloc ((w.alloc (.cells #[.int .i64 (P : Int), (.slice A l.length cap)] 30)).alloc (.cells #[(.slice none 0 0), (.slice none 0 0), (.slice none 0 0)] 58)) (.cells #[] 3)) W2.out.size (.inr (Nat.le_refl _)))
    have HB_3 := Lib.hid (HB_2.out.within (within_alloc ((w.alloc (.cells #[.int .i64 (P : Int), (.slice A l.length cap)] 30)).alloc (.cells #[(.slice none 0 0), (.slice none 0 0), (.slice none 0 0)] 58)) (.cells #[] 3)) (by omega))
    have BX_3 := Lib.hid (BX_2.out.within (within_alloc ((w.alloc (.cells #[.int .i64 (P : Int), (.slice A l.length cap)] 30)).alloc (.cells #[(.slice none 0 0), (.slice none 0 0), (.slice none 0 0)] 58)) (.cells #[] 3)) (by omega))
    have GR_3 := Lib.hid (GR_2.out.within (within_alloc ((w.alloc (.cells #[.int .i64 (P : Int), (.slice A l.length cap)] 30)).alloc (.cells #[(.slice none 0 0), (.slice none 0 0), (.slice none 0 0)] 58)) (.cells #[] 3)) (by omega))
    have Y3 := Lib.hid (show (((w.alloc (.cells #[.int .i64 (P : Int), (.slice A l.length cap)] 30)).alloc (.cells #[(.slice none 0 0), (.slice none 0 0), (.slice none 0 0)] 58)).alloc (.cells #[] 3)).heap.size = ((w.alloc (.cells #[.int .i64 (P : Int), (.slice A l.length cap)] 30)).alloc (.cells #[(.slice none 0 0), (.slice none 0 0), (.slice none 0 0)] 58)).heap.size + 1 by simp)
    have hown := World.ownsRow_made (base := w.heap.size) (e := 3) (size := 1) ((w.alloc (.cells #[.int .i64 (P : Int), (.slice A l.length cap)] 30)).alloc (.cells #[(.slice none 0 0), (.slice none 0 0), (.slice none 0 0)] 58)) #[] 0 (by simp; omega) (by unfold maxLen; omega) (by simp)
    rw [show ((w.alloc (.cells #[.int .i64 (P : Int), (.slice A l.length cap)] 30)).alloc (.cells #[(.slice none 0 0), (.slice none 0 0), (.slice none 0 0)] 58)).heap.size = w.heap.size + 1 + 1 by simp] at hown
    have OF_3 := Lib.hid (Own0.mk hown)
    clear hown
    have Z4 := Lib.hid (within_alloc (((w.alloc (.cells #[.int .i64 (P : Int), (.slice A l.length cap)] 30)).alloc (.cells #[(.slice none 0 0), (.slice none 0 0), (.slice none 0 0)] 58)).alloc (.cells #[] 3)) (.cells #[] 3)).size
    have W4 := Lib.hid (within_on W3.out (within_alloc (((w.alloc (.cells #[.int .i64 (P : Int), (.slice A l.length cap)] 30)).alloc (.cells #[(.slice none 0 0), (.slice none 0 0), (.slice none 0 0)] 58)).alloc (.cells #[] 3)) (.cells #[] 3)) W3.out.size (.inr (Nat.le_refl _)))
    have HB_4 := Lib.hid (HB_3.out.within (within_alloc (((w.alloc (.cells #[.int .i64 (P : Int), (.slice A l.length cap)] 30)).alloc (.cells #[(.slice none 0 0), (.slice none 0 0), (.slice none 0 0)] 58)).alloc (.cells #[] 3)) (.cells #[] 3)) (by omega))
    have BX_4 := Lib.hid (BX_3.out.within (within_alloc (((w.alloc (.cells #[.int .i64 (P : Int), (.slice A l.length cap)] 30)).alloc (.cells #[(.slice none 0 0), (.slice none 0 0), (.slice none 0 0)] 58)).alloc (.cells #[] 3)) (.cells #[] 3)) (by omega))
    have GR_4 := Lib.hid (GR_3.out.within (within_alloc (((w.alloc (.cells #[.int .i64 (P : Int), (.slice A l.length cap)] 30)).alloc (.cells #[(.slice none 0 0), (.slice none 0 0), (.slice none 0 0)] 58)).alloc (.cells #[] 3)) (.cells #[] 3)) (by omega))
    have OF_4 := Lib.hid (OF_3.out.within (within_alloc (((w.alloc (.cells #[.int .i64 (P : Int), (.slice A l.length cap)] 30)).alloc (.cells #[(.slice none 0 0), (.slice none 0 0), (.slice none 0 0)] 58)).alloc (.cells #[] 3)) (.cells #[] 3)) (by omega))
    have Y4 := Lib.hid (show ((((w.alloc (.cells #[.int .i64 (P : Int), (.slice A l.length cap)] 30)).alloc (.cells #[(.slice none 0 0), (.slice none 0 0), (.slice none 0 0)] 58)).alloc (.cells #[] 3)).alloc (.cells #[] 3)).heap.size = (((w.alloc (.cells #[.int .i64 (P : Int), (.slice A l.length cap)] 30)).alloc (.cells #[(.slice none 0 0), (.slice none 0 0), (.slice none 0 0)] 58)).alloc (.cells #[] 3)).heap.size + 1 by simp)
    have Z5 := Lib.hid (within_alloc ((((w.alloc (.cells #[.int .i64 (P : Int), (.slice A l.length cap)] 30)).alloc (.cells #[(.slice none 0 0), (.slice none 0 0), (.slice none 0 0)] 58)).alloc (.cells #[] 3)).alloc (.cells #[] 3)) (.cells #[] 3)).size
    have W5 := Lib.hid (within_on W4.out (within_alloc ((((w.alloc (.cells #[.int .i64 (P : Int), (.slice A l.length cap)] 30)).alloc (.cells #[(.slice none 0 0), (.slice none 0 0), (.slice none 0 0)] 58)).alloc (.cells #[] 3)).alloc (.cells #[] 3)) (.cells #[] 3)) W4.out.size (.inr (Nat.le_refl _)))
    have HB_5 := Lib.hid (HB_4.out.within (within_alloc ((((w.alloc (.cells #[.int .i64 (P : Int), (.slice A l.length cap)] 30)).alloc (.cells #[(.slice none 0 0), (.slice none 0 0), (.slice none 0 0)] 58)).alloc (.cells #[] 3)).alloc (.cells #[] 3)) (.cells #[] 3)) (by omega))
    have BX_5 := Lib.hid (BX_4.out.within (within_alloc ((((w.alloc (.cells #[.int .i64 (P : Int), (.slice A l.length cap)] 30)).alloc (.cells #[(.slice none 0 0), (.slice none 0 0), (.slice none 0 0)] 58)).alloc (.cells #[] 3)).alloc (.cells #[] 3)) (.cells #[] 3)) (by omega))
    have GR_5 := Lib.hid (GR_4.out.within (within_alloc ((((w.alloc (.cells #[.int .i64 (P : Int), (.slice A l.length cap)] 30)).alloc (.cells #[(.slice none 0 0), (.slice none 0 0), (.slice none 0 0)] 58)).alloc (.cells #[] 3)).alloc (.cells #[] 3)) (.cells #[] 3)) (by omega))
    have OF_5 := Lib.hid (OF_4.out.within (within_alloc ((((w.alloc (.cells #[.int .i64 (P : Int), (.slice A l.length cap)] 30)).alloc (.cells #[(.slice none 0 0), (.slice none 0 0), (.slice none 0 0)] 58)).alloc (.cells #[] 3)).alloc (.cells #[] 3)) (.cells #[] 3)) (by omega))
    have Y5 := Lib.hid (show (((((w.alloc (.cells #[.int .i64 (P : Int), (.slice A l.length cap)] 30)).alloc (.cells #[(.slice none 0 0), (.slice none 0 0), (.slice none 0 0)] 58)).alloc (.cells #[] 3)).alloc (.cells #[] 3)).alloc (.cells #[] 3)).heap.size = ((((w.alloc (.cells #[.int .i64 (P : Int), (.slice A l.length cap)] 30)).alloc (.cells #[(.slice none 0 0), (.slice none 0 0), (.slice none 0 0)] 58)).alloc (.cells #[] 3)).alloc (.cells #[] 3)).heap.size + 1 by simp)
    have Z6 := Lib.hid (within_alloc (((((w.alloc (.cells #[.int .i64 (P : Int), (.slice A l.length cap)] 30)).alloc (.cells #[(.slice none 0 0), (.slice none 0 0), (.slice none 0 0)] 58)).alloc (.cells #[] 3)).alloc (.cells #[] 3)).alloc (.cells #[] 3)) (.cells #[(.slice (some ⟨w.heap.size + 1 + 1, 0, none⟩) 0 0), (.slice (some ⟨w.heap.size + 1 + 1 + 1, 0, none⟩) 0 0), (.slice (some ⟨w.heap.size + 1 + 1 + 1 + 1, 0, none⟩) 0 0)] 58)).size
    have W6 := Lib.hid (within_on W5.out (within_alloc (((((w.alloc (.cells #[.int .i64 (P : Int), (.slice A l.length cap)] 30)).alloc (.cells #[(.slice none 0 0), (.slice none 0 0), (.slice none 0 0)] 58)).alloc (.cells #[] 3)).alloc (.cells #[] 3)).alloc (.cells #[] 3)) (.cells #[(.slice (some ⟨w.heap.size + 1 + 1, 0, none⟩) 0 0), (.slice (some ⟨w.heap.size + 1 + 1 + 1, 0, none⟩) 0 0), (.slice (some ⟨w.heap.size + 1 + 1 + 1 + 1, 0, none⟩) 0 0)] 58)) W5.out.size (.inr (Nat.le_refl _)))
    have HB_6 := Lib.hid (HB_5.out.within (within_alloc (((((w.alloc (.cells #[.int .i64 (P : Int), (.slice A l.length cap)] 30)).alloc (.cells #[(.slice none 0 0), (.slice none 0 0), (.slice none 0 0)] 58)).alloc (.cells #[] 3)).alloc (.cells #[] 3)).alloc (.cells #[] 3)) (.cells #[(.slice (some ⟨w.heap.size + 1 + 1, 0, none⟩) 0 0), (.slice (some ⟨w.heap.size + 1 + 1 + 1, 0, none⟩) 0 0), (.slice (some ⟨w.heap.size + 1 + 1 + 1 + 1, 0, none⟩) 0 0)] 58)) (by omega))
    have BX_6 := Lib.hid (BX_5.out.within (within_alloc (((((w.alloc (.cells #[.int .i64 (P : Int), (.slice A l.length cap)] 30)).alloc (.cells #[(.slice none 0 0), (.slice none 0 0), (.slice none 0 0)] 58)).alloc (.cells #[] 3)).alloc (.cells #[] 3)).alloc (.cells #[] 3)) (.cells #[(.slice (some ⟨w.heap.size + 1 + 1, 0, none⟩) 0 0), (.slice (some ⟨w.heap.size + 1 + 1 + 1, 0, none⟩) 0 0), (.slice (some ⟨w.heap.size + 1 + 1 + 1 + 1, 0, none⟩) 0 0)] 58)) (by omega))
    have GR_6 := Lib.hid (GR_5.out.within (within_alloc (((((w.alloc (.cells #[.int .i64 (P : Int), (.slice A l.length cap)] 30)).alloc (.cells #[(.slice none 0 0), (.slice none 0 0), (.slice none 0 0)] 58)).alloc (.cells #[] 3)).alloc (.cells #[] 3)).alloc (.cells #[] 3)) (.cells #[(.slice (some ⟨w.heap.size + 1 + 1, 0, none⟩) 0 0), (.slice (some ⟨w.heap.size + 1 + 1 + 1, 0, none⟩) 0 0), (.slice (some ⟨w.heap.size + 1 + 1 + 1 + 1, 0, none⟩) 0 0)] 58)) (by omega))
    have OF_6 := Lib.hid (OF_5.out.within (within_alloc (((((w.alloc (.cells #[.int .i64 (P : Int), (.slice A l.length cap)] 30)).alloc (.cells #[(.slice none 0 0), (.slice none 0 0), (.slice none 0 0)] 58)).alloc (.cells #[] 3)).alloc (.cells #[] 3)).alloc (.cells #[] 3)) (.cells #[(.slice (some ⟨w.heap.size + 1 + 1, 0, none⟩) 0 0), (.slice (some ⟨w.heap.size + 1 + 1 + 1, 0, none⟩) 0 0), (.slice (some ⟨w.heap.size + 1 + 1 + 1 + 1, 0, none⟩) 0 0)] 58)) (by omega))
    have Y6 := Lib.hid (show ((((((w.alloc (.cells #[.int .i64 (P : Int), (.slice A l.length cap)] 30)).alloc (.cells #[(.slice none 0 0), (.slice none 0 0), (.slice none 0 0)] 58)).alloc (.cells #[] 3)).alloc (.cells #[] 3)).alloc (.cells #[] 3)).alloc (.cells #[(.slice (some ⟨w.heap.size + 1 + 1, 0, none⟩) 0 0), (.slice (some ⟨w.heap.size + 1 + 1 + 1, 0, none⟩) 0 0), (.slice (some ⟨w.heap.size + 1 + 1 + 1 + 1, 0, none⟩) 0 0)] 58)).heap.size = (((((w.alloc (.cells #[.int .i64 (P : Int), (.slice A l.length cap)] 30)).alloc (.cells #[(.slice none 0 0), (.slice none 0 0), (.slice none 0 0)] 58)).alloc (.cells #[] 3)).alloc (.cells #[] 3)).alloc (.cells #[] 3)).heap.size + 1 by simp)
    have hnew := cel3_new (((((w.alloc (.cells #[.int .i64 (P : Int), (.slice A l.length cap)] 30)).alloc (.cells #[(.slice none 0 0), (.slice none 0 0), (.slice none 0 0)] 58)).alloc (.cells #[] 3)).alloc (.cells #[] 3)).alloc (.cells #[] 3)) (.slice (some ⟨w.heap.size + 1 + 1, 0, none⟩) 0 0) (.slice (some ⟨w.heap.size + 1 + 1 + 1, 0, none⟩) 0 0) (.slice (some ⟨w.heap.size + 1 + 1 + 1 + 1, 0, none⟩) 0 0) 58
    rw [show (((((w.alloc (.cells #[.int .i64 (P : Int), (.slice A l.length cap)] 30)).alloc (.cells #[(.slice none 0 0), (.slice none 0 0), (.slice none 0 0)] 58)).alloc (.cells #[] 3)).alloc (.cells #[] 3)).alloc (.cells #[] 3)).heap.size = w.heap.size + 1 + 1 + 1 + 1 + 1 by simp] at hnew
    have GP_6 := Lib.hid hnew
    clear hnew
    go_enter Try.func60, Try.ntmps60
    obtain ⟨g0_0, g0_1, g0_2⟩ := BX_6.out
    go_wp2_with fail
    clear g0_0 g0_1 g0_2
    generalize ((((((w.alloc (.cells #[.int .i64 (P : Int), (.slice A l.length cap)] 30)).alloc (.cells #[(.slice none 0 0), (.slice none 0 0), (.slice none 0 0)] 58)).alloc (.cells #[] 3)).alloc (.cells #[] 3)).alloc (.cells #[] 3)).alloc (.cells #[(.slice (some ⟨w.heap.size + 1 + 1, 0, none⟩) 0 0), (.slice (some ⟨w.heap.size + 1 + 1 + 1, 0, none⟩) 0 0), (.slice (some ⟨w.heap.size + 1 + 1 + 1 + 1, 0, none⟩) 0 0)] 58)) = w6 at *
    generalize (((((w.alloc (.cells #[.int .i64 (P : Int), (.slice A l.length cap)] 30)).alloc (.cells #[(.slice none 0 0), (.slice none 0 0), (.slice none 0 0)] 58)).alloc (.cells #[] 3)).alloc (.cells #[] 3)).alloc (.cells #[] 3)) = w5 at *
    generalize ((((w.alloc (.cells #[.int .i64 (P : Int), (.slice A l.length cap)] 30)).alloc (.cells #[(.slice none 0 0), (.slice none 0 0), (.slice none 0 0)] 58)).alloc (.cells #[] 3)).alloc (.cells #[] 3)) = w4 at *
    generalize (((w.alloc (.cells #[.int .i64 (P : Int), (.slice A l.length cap)] 30)).alloc (.cells #[(.slice none 0 0), (.slice none 0 0), (.slice none 0 0)] 58)).alloc (.cells #[] 3)) = w3 at *
    generalize ((w.alloc (.cells #[.int .i64 (P : Int), (.slice A l.length cap)] 30)).alloc (.cells #[(.slice none 0 0), (.slice none 0 0), (.slice none 0 0)] 58)) = w2 at *
    generalize (w.alloc (.cells #[.int .i64 (P : Int), (.slice A l.length cap)] 30)) = w1 at *
    refine (HISG _ HB_6.out.at).mono ?_
    rintro e w7 ⟨rfl, hb⟩
    have Z7 := Lib.hid (within_of hb).size
    have W7 := Lib.hid (within_on W6.out (within_of hb) W6.out.size (.inr (Nat.le_refl _)))
    have HB_7 := Lib.hid (HB_6.out.within (within_of hb) (by omega))
    have BX_7 := Lib.hid (BX_6.out.within (within_of hb) (by omega))
    have GR_7 := Lib.hid (GR_6.out.within (within_of hb) (by omega))
    have OF_7 := Lib.hid (OF_6.out.within (within_of hb) (by omega))
    have GP_7 := Lib.hid (GP_6.out.within (within_of hb) (by omega))
    clear hb HISG
    go_wp2_with fail
    refine (l1In_yes k 1 3 _ (by omega) (by omega)).mono ?_
    rintro e w9 ⟨rfl, rfl⟩
    have HN := Lib.hid (show NewS w w7 (P : Int) k (.slice A l.length cap) 0 (.slice (some ⟨w.heap.size + 1 + 1, 0, none⟩) 0 0) (.slice (some ⟨w.heap.size + 1 + 1 + 1, 0, none⟩) 0 0) (.slice (some ⟨w.heap.size + 1 + 1 + 1 + 1, 0, none⟩) 0 0) from ⟨OF_7.out.row, fun a e => by simp [Value.ownBlock] at e; omega, GP_7.out, GR_7.out, BX_7.out, W7.out⟩)
    go_wp2_with fail
    go_loopw [7] (fun i wr => ∃ j : Nat, j ≤ P ∧ i = .int .i64 j ∧ ∃ v, NewS w wr (P : Int) k (.slice A l.length cap) j v (.slice (some ⟨w.heap.size + 1 + 1 + 1, 0, none⟩) 0 0) (.slice (some ⟨w.heap.size + 1 + 1 + 1 + 1, 0, none⟩) 0 0)) (fun i _ => P - (intOf i).toNat)
    case atStart => exact ⟨0, Nat.zero_le _, rfl, _, HN.out⟩
    case round =>
      obtain ⟨j, hj, rfl, v, hst⟩ := hrel
      have HS := Lib.hid hst
      obtain ⟨A', c', rfl⟩ := own_shape hst.row
      have hbs := hst.bel.size
      obtain ⟨_, g1, g2⟩ := hst.box
      obtain ⟨c0, c1, c2, f0, f1, f2⟩ := hst.st.cells
      clear hst
      by_cases hlt : j < P
      · have hji : (j : Int) < (P : Int) := by omega
        obtain ⟨k0, k1, k2, e0, e1, e2⟩ := (HS.out.alloc (.cells #[.int .i64 k] 3)).st.cells
        go_wp2_with (at_builtin; refine wpList_at _ rfl _ _ 25 rfl w.heap.size 3 (.int .i64 0) 1 8 Try.underlying25 infoInt rfl (by decide) _ _ _ rfl HS.out.row #[.int .i64 k] 1 rfl (by simp [Value.oneCell']) _ _ rfl (by omega) (by unfold maxLen; omega) hbs ?_; intro v' w' ho hg hat _; obtain ⟨A2, c2', rfl⟩ := own_shape ho; obtain ⟨q5, hN⟩ := HS.out.push ho hg hat; obtain ⟨d0, d1, d2, h0, h1, h2⟩ := q5.cells; have HN2 := Lib.hid hN; clear ho hg hat q5 hN)
        go_roundw
        case rel => exact ⟨j + 1, by omega, by go_num, _, HN2.out⟩
        case measure => simp [intOf]; omega
      · obtain rfl : j = P := by omega
        have rt := HS.out.ret
        obtain ⟨r0, r1, r2, q0, q1, q2⟩ := rt.cells
        have h3 := ret3 rt (.slice A' j c') (.slice (some ⟨w.heap.size + 1 + 1 + 1, 0, none⟩) 0 0) (.slice (some ⟨w.heap.size + 1 + 1 + 1 + 1, 0, none⟩) 0 0)
        obtain ⟨s0, s1, s2, _⟩ := h3.1.cells
        have HW := Lib.hid h3.2
        clear h3 rt
        go_wp2_with fail
        refine bodyPost_ret (v := .tuple #[pebV A' j c' (some ⟨w.heap.size + 1 + 1 + 1, 0, none⟩) 0 0 (some ⟨w.heap.size + 1 + 1 + 1 + 1, 0, none⟩) 0 0, .bool true]) ?_ rfl ?_
        · simp [results, Try.results60, go_sem, s0, s1, s2]
        · have hro := HS.out.row2.within HW.out (by omega)
          have hz := HW.out.size
          rw [HR.out.1, HR.out.2]
          refine ⟨A', c', some ⟨w.heap.size + 1 + 1 + 1, 0, none⟩, 0, some ⟨w.heap.size + 1 + 1 + 1 + 1, 0, none⟩, 0, by rw [List.length_replicate]; rfl, ?_, within_on HS.out.bel HW.out hbs (by omega)⟩
          exact own3_f hro (by omega) hz (by omega)
end Go.Proofs.Ytedjhnedkghhoaa
/- What stands while a pebble is looked for in a state of the call's own. No program's walk. No condition. -/
namespace Go.Proofs.Ytedjhnedkghhoaa
open Go.RowKit

/-- The pointers to the tails that led to the points of a queue. -/
def arrV (gT : Nat) (a : Int) (q : List (Int × Nat)) (v : Int) : Value :=
  match q.find? (fun x => decide (x.1 = v) && decide (x.1 ≠ a)) with
  | some x => .pointer (some ⟨gT, x.2, none⟩)
  | none => .pointer none
def arrL (gT : Nat) (a : Int) (q : List (Int × Nat)) : List Value := (List.range 8).map fun (v : Nat) => arrV gT a q (v : Int)
theorem arrL_len (gT : Nat) (a : Int) (q : List (Int × Nat)) : (arrL gT a q).length = 8 := by simp [arrL]
theorem arrL_get (gT : Nat) (a : Int) (q : List (Int × Nat)) (v : Nat) (h : v < 8) : (arrL gT a q)[v]? = some (arrV gT a q (v : Int)) := by simp [arrL, h]
theorem arrV_none {gT : Nat} {a : Int} {q : List (Int × Nat)} {v : Int} (h : v ∉ q.map Prod.fst ∨ v = a) : arrV gT a q v = .pointer none := by
  unfold arrV
  rw [List.find?_eq_none.2]
  intro x hx
  rcases h with h | h
  · have : x.1 ≠ v := fun e => h (e ▸ List.mem_map_of_mem hx)
    simp [this]
  · subst h
    by_cases e : x.1 = v <;> simp [e]
theorem arrV_some {gT : Nat} {a : Int} {q : List (Int × Nat)} {v : Int} (h : v ∈ q.map Prod.fst) (ha : v ≠ a) : ∃ g j, arrV gT a q v = .pointer (some ⟨g, j, none⟩) := by
  unfold arrV
  obtain ⟨x, hx, e⟩ := List.mem_map.1 h
  cases hf : q.find? (fun x => decide (x.1 = v) && decide (x.1 ≠ a)) with
  | some y => exact ⟨gT, y.2, rfl⟩
  | none =>
    have := List.find?_eq_none.1 hf x hx
    simp [e, ha] at this
theorem arrV_at {P : Nat} {E : List (Int × Int)} {T : List Int} {gT : Nat} {a : Int} {q : List (Int × Nat)} (hp : PathQ P E T a q) {x : Int × Nat} (hx : x ∈ q) (ha : x.1 ≠ a) : arrV gT a q x.1 = .pointer (some ⟨gT, x.2, none⟩) := by
  obtain ⟨q1, q2, rfl⟩ := List.append_of_mem hx
  have hne : q1 ≠ [] := by
    rintro rfl
    obtain ⟨s, e⟩ := hp.1
    cases e
    exact ha rfl
  have h1 := (hp.2 q1 x q2 rfl hne).1
  unfold arrV
  rw [List.find?_append, List.find?_eq_none.2 fun y hy => by
    have : y.1 ≠ x.1 := fun e => h1 (e ▸ List.mem_map_of_mem hy)
    simp [this]]
  simp [ha]
theorem arrL_set (gT : Nat) (a : Int) (q : List (Int × Nat)) (o j : Nat) (h8 : o < 8) (ho : (o : Int) ∉ q.map Prod.fst) (ha : (o : Int) ≠ a) : (arrL gT a q).set o (.pointer (some ⟨gT, j, none⟩)) = arrL gT a (q ++ [((o : Int), j)]) := by
  apply List.ext_getElem?
  intro v
  by_cases hv : v < 8
  · rw [List.getElem?_set, arrL_get _ _ _ v hv, arrL_get _ _ _ v hv, arrL_len]
    by_cases e : o = v
    · subst e
      rw [if_pos rfl, if_pos h8]
      congr 1
      unfold arrV
      rw [List.find?_append, List.find?_eq_none.2 fun y hy => by
        have : y.1 ≠ (o : Int) := fun e => ho (e ▸ List.mem_map_of_mem hy)
        simp [this]]
      simp [ha]
    · rw [if_neg e]
      congr 1
      unfold arrV
      rw [List.find?_append]
      have hne : ¬ (o : Int) = (v : Int) := by omega
      simp [hne]
  · rw [List.getElem?_eq_none (by rw [List.length_set, arrL_len]; omega), List.getElem?_eq_none (by rw [arrL_len]; omega)]

/-- Where the search stands: the state, the graph's box, the pointers, the queue. -/
structure PullI (w wr : World) (pb : Nat) (f t z : Nat × Nat) (p : Int) (A : Option Addr) (cap : Nat) (l : List (Int × Int)) (AF : Option Addr) (cF : Nat) (AT : Option Addr) (cT : Nat) (AZ : Option Addr) (cZ : Nat) (F T Z : List Int) (a : Int) (gT : Nat) (qa qr : List (Int × Nat)) (qv : Value) : Prop where
  st : Cel3 wr pb 58 (.slice AF F.length cF) (.slice AT T.length cT) (.slice AZ Z.length cZ)
  own : OwnF wr f t z AF cF AT cT AZ cZ F T Z
  box : Box wr w.heap.size p (.slice A l.length cap)
  bars : BarsIn wr 0 w.heap.size A l
  arr : wr.heap[w.heap.size + 1]? = some (.cells (arrL gT a qa).toArray 174 (0, 0))
  row : wr.ownsRow (w.heap.size + 1 + 1) 3 1 qv qr.length (intCells (qr.map Prod.fst))
  bel : Below w.heap.size w wr
  low : pb < w.heap.size ∧ f.2 ≤ w.heap.size ∧ t.2 ≤ w.heap.size ∧ z.2 ≤ w.heap.size
theorem PullI.below {w wr w' : World} {pb : Nat} {f t z : Nat × Nat} {p : Int} {A : Option Addr} {cap : Nat} {l : List (Int × Int)} {AF : Option Addr} {cF : Nat} {AT : Option Addr} {cT : Nat} {AZ : Option Addr} {cZ : Nat} {F T Z : List Int} {a : Int} {gT : Nat} {qa qr : List (Int × Nat)} {qv : Value}
    (h : PullI w wr pb f t z p A cap l AF cF AT cT AZ cZ F T Z a gT qa qr qv) (hb : Below wr.heap.size wr w') : PullI w w' pb f t z p A cap l AF cF AT cT AZ cZ F T Z a gT qa qr qv :=
  ⟨h.st.kept hb, h.own.below hb, h.box.kept hb, h.bars.within (within_of hb) (.inr (Nat.zero_le _)), (hb.block _ (Array.getElem?_eq_some_iff.1 h.arr).1).trans h.arr, own_below h.row hb, below_on h.bel hb h.bel.size, h.low⟩
theorem PullI.reach {w wr : World} {pb : Nat} {f t z : Nat × Nat} {p : Int} {A : Option Addr} {cap : Nat} {l : List (Int × Int)} {AF : Option Addr} {cF : Nat} {AT : Option Addr} {cT : Nat} {AZ : Option Addr} {cZ : Nat} {F T Z : List Int} {a : Int} {gT : Nat} {qa qr : List (Int × Nat)} {qv : Value}
    (h : PullI w wr pb f t z p A cap l AF cF AT cT AZ cZ F T Z a gT qa qr qv) (o j : Nat) (h8 : o < 8) (ho : (o : Int) ∉ qa.map Prod.fst) (ha : (o : Int) ≠ a) : PullI w (wr.setCell ⟨w.heap.size + 1, o, none⟩ (.pointer (some ⟨gT, j, none⟩))) pb f t z p A cap l AF cF AT cT AZ cZ F T Z a gT (qa ++ [((o : Int), j)]) qr qv := by
  have hw := within_set wr (w.heap.size + 1) o (.pointer (some ⟨gT, j, none⟩))
  obtain ⟨l1, l2, l3, l4⟩ := h.low
  refine ⟨h.st.within hw (by omega), h.own.within hw (by omega) (by omega) (by omega), h.box.within hw (by omega), h.bars.within hw (by omega), ?_, ?_, h.bel.setCell (p := ⟨w.heap.size + 1, o, none⟩) (by simp only []; omega) _, h.low⟩
  · have := heap_setCell_same wr (w.heap.size + 1) o _ _ (.pointer (some ⟨gT, j, none⟩)) h.arr
    rw [← arrL_set gT a qa o j h8 ho ha]
    simpa using this
  · rcases h.row.2 with ⟨e, e0⟩ | ⟨g, c, cur, e, hg, hh, _⟩
    · exact ⟨h.row.1, .inl ⟨e, e0⟩⟩
    · subst e
      exact own_block h.row (hw.block g (Array.getElem?_eq_some_iff.1 hh).1 (by omega))
theorem PullI.push {w wr w' : World} {pb : Nat} {f t z : Nat × Nat} {p : Int} {A : Option Addr} {cap : Nat} {l : List (Int × Int)} {AF : Option Addr} {cF : Nat} {AT : Option Addr} {cT : Nat} {AZ : Option Addr} {cZ : Nat} {F T Z : List Int} {a : Int} {gT : Nat} {qa qr : List (Int × Nat)} {qv qv' : Value}
    (h : PullI w wr pb f t z p A cap l AF cF AT cT AZ cZ F T Z a gT qa qr qv) (x : Int × Nat) (ho : w'.ownsRow (w.heap.size + 1 + 1) 3 1 qv' (qr.length + 1) (intCells (qr.map Prod.fst) ++ [.int .i64 x.1])) (hg : wr.grownBy w' qv.ownBlock) : PullI w w' pb f t z p A cap l AF cF AT cT AZ cZ F T Z a gT qa (qr ++ [x]) qv' := by
  obtain ⟨l1, l2, l3, l4⟩ := h.low
  have hs := h.bel.size
  have hra := (Array.getElem?_eq_some_iff.1 h.arr).1
  have hw : Within (w.heap.size + 1 + 1) wr.heap.size wr w' := ⟨hg.os, hg.tape, hg.output, hg.size, fun k hk hd => hg.block k hk fun e => by
    have := (h.row.lt k e.symm).1
    omega⟩
  have hbx := h.box.1
  refine ⟨h.st.within hw (by omega), h.own.within hw (by omega) (by omega) (by omega), h.box.within hw (by omega), h.bars.within hw (by omega), (hw.block _ hra (by omega)).trans h.arr, ?_, h.bel.grown hg (by omega) fun g e => by have := (h.row.lt g e).1; omega, h.low⟩
  rw [List.length_append, List.map_append, show intCells (qr.map Prod.fst ++ [x].map Prod.fst) = intCells (qr.map Prod.fst) ++ [.int .i64 x.1] by simp [intCells]]
  exact ho
theorem GoodQ.range {P : Nat} {E : List (Int × Int)} {T : List Int} {a : Int} {q : List (Int × Nat)} (h : GoodQ P E T a q) (ha : 0 ≤ a ∧ a < (P : Int)) (k : Nat) (hk : k < q.length) : 0 ≤ (q.getD k (0, 0)).1 ∧ (q.getD k (0, 0)).1 < (P : Int) := by
  have hm := getD_mem_fst q k hk
  by_cases e : (q.getD k (0, 0)).1 = a
  · rw [e]; exact ha
  · obtain ⟨_, _, _, _, _, _, _, _, _, h6, h7, _⟩ := h.path.at hm e
    exact ⟨h6, h7⟩
theorem Own3.fst {W : World} {lo hi : Nat} {AF AT AZ : Option Addr} {cF cT cZ : Nat} {F T Z : List Int} (h : Own3 W lo hi AF cF AT cT AZ cZ F T Z) (hF : 0 < F.length) : ∃ gF, AF = some ⟨gF, 0, none⟩ ∧ lo ≤ gF ∧ gF < hi := by
  obtain ⟨⟨f1, f2⟩, _, _, o1, _, _, _, _, _, b1, _, _, _⟩ := h
  simp only at o1 b1
  rcases o1.2 with e | ⟨gF, rfl, g1, g2, _⟩
  · subst e; simp at hF
  · exact ⟨gF, rfl, by omega, by omega⟩
theorem turn_prefix {E : List (Int × Int)} {a : Int} {q0 r : List (Int × Nat)} {x : Int × Nat} (T : List Int) (h : x.1 ∉ r.map Prod.fst) : turnQ E a (q0 ++ x :: r).reverse x.1 T = turnQ E a (q0 ++ [x]).reverse x.1 T := by
  rw [show (q0 ++ x :: r).reverse = r.reverse ++ (q0 ++ [x]).reverse by simp, turnQ_skip _ _ _ _ _ _ (by simpa using h)]
theorem take_snoc_getD (q : List (Int × Nat)) (k : Nat) (hk : k < q.length) : q.take (k + 1) = q.take k ++ [q.getD k (0, 0)] := take_getD q (0, 0) k hk
theorem map_fst_getD (q : List (Int × Nat)) (k : Nat) (h : k < q.length) : (q.map Prod.fst).getD k 0 = (q.getD k (0, 0)).1 := by
  simp [List.getD, List.getElem?_eq_getElem h]
/-- A point was looked at: none of those so far gives a pebble. -/
theorem no_step {E : List (Int × Int)} {T F : List Int} {a b : Int} {k : Nat} (hk : k < (bfs E T a k).length) (h : ∀ y ∈ (bfs E T a k).take k, givesB F a b y = false) (hx : givesB F a b ((bfs E T a k).getD k (0, 0)) = false) : ∀ y ∈ (bfs E T a (k + 1)).take (k + 1), givesB F a b y = false := by
  obtain ⟨r, e⟩ := bfs_pre1 E T a k
  rw [e, List.take_append_of_le_length (by omega), take_snoc_getD _ _ hk]
  intro y hy
  rcases List.mem_append.1 hy with hy | hy
  · exact h y hy
  · have : y = (bfs E T a k).getD k (0, 0) := by simpa using hy
    rw [this]; exact hx
/-- What a search for a pebble answers, and what it makes of the state. -/
def PullP (w : World) (f t z : Nat × Nat) (AF : Option Addr) (cF : Nat) (AT : Option Addr) (cT : Nat) (AZ : Option Addr) (cZ : Nat) (E : List (Int × Int)) (F T Z : List Int) (a b : Int) (e : Ending) (w' : World) : Prop :=
  Within2 f t w w' ∧ ((e = .returned (.bool false) ∧ findM E a b (F, T) = none ∧ OwnF w' f t z AF cF AT cT AZ cZ F T Z) ∨ ∃ s', e = .returned (.bool true) ∧ findM E a b (F, T) = some s' ∧ OwnF w' f t z AF cF AT cT AZ cZ s'.1 s'.2 Z)
end Go.Proofs.Ytedjhnedkghhoaa
