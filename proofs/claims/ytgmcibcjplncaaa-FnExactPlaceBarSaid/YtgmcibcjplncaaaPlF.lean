/- Several texts in one, in the order in which they build on each other (part 6 of 7): what stands on the way to the law; each names its own matter. No condition. -/
import Derived.Test.YtgmcibcjplncaaaPlE
import Derived.Deep.QuietTactic
import Derived.BigQuiet
import Derived.Deep.RegionHeld3
import Derived.Deep.DeepCutAuto
/- What slices.Equal and slices.Min answer over rows of ints. No condition. -/
namespace Go.Proofs.Ytgmcibcjplncaaa
open Go.RowKit

theorem eq_of_getD {xs ys : List Int} (h1 : xs.length = ys.length) (h2 : ∀ j, j < xs.length → xs.getD j 0 = ys.getD j 0) : xs = ys := by
  apply List.ext_getElem h1
  intro j hj hj'
  have := h2 j hj
  simpa [List.getD, List.getElem?_eq_getElem hj, List.getElem?_eq_getElem hj'] using this

set_option maxHeartbeats 1000000 in
set_option maxRecDepth 100000 in
theorem slEqual (xs ys : List Int) (A B : Option Addr) (ca cb lo hi lo' hi' : Nat) (w : World) (hx : IntsIn w lo hi A xs) (hy : IntsIn w lo' hi' B ys) (hn : xs.length ≤ 1048576) :
    Calls Try.prog 90 #[.slice A xs.length ca, .slice B ys.length cb] w fun e w' => e = .returned (.bool (decide (xs = ys))) ∧ Below w.heap.size w w' := by
  have HX := Lib.hid hx
  have HY := Lib.hid hy
  clear hx hy
  by_cases hl : xs.length = ys.length
  · have hne : ((xs.length : Int) != (ys.length : Int)) = false := by rw [bne_eq_false_iff_eq]; omega
    have HL := Lib.hid hl
    clear hl
    go_enter Try.func90, Try.ntmps90
    go_wp2_with fail
    clear hne
    go_loopw [13] (fun i wr => ∃ k : Nat, k ≤ xs.length ∧ i = .int .i64 k ∧ (∀ j, j < k → xs.getD j 0 = ys.getD j 0) ∧ ∃ m, wr = w.drewN m) (fun i _ => xs.length - (intOf i).toNat)
    case atStart => exact ⟨0, Nat.zero_le _, rfl, fun j hj => absurd hj (Nat.not_lt_zero _), 0, rfl⟩
    case round =>
      obtain ⟨k, hk, rfl, hall, m, rfl⟩ := hrel
      have HALL := Lib.hid hall
      clear hall
      by_cases hlt : k < xs.length
      · have hi' : (k : Int) < (xs.length : Int) := by omega
        have hi2 : (k : Int) < (ys.length : Int) := by have := HL.out; omega
        obtain ⟨b, off, rfl, hc⟩ := row_at HX.out (by omega)
        obtain ⟨b', off', rfl, hc'⟩ := row_at HY.out (by have := HL.out; omega)
        have h1 := hc k hlt
        have h2 := hc' k (by omega)
        have HNE := Lib.hid (fun h : xs.getD k 0 ≠ ys.getD k 0 => show decide (xs = ys) = false from decide_eq_false fun e => h (by rw [e]))
        have HNX := Lib.hid (fun h : xs.getD k 0 = ys.getD k 0 => show ∀ j, j < k + 1 → xs.getD j 0 = ys.getD j 0 from fun j hj => by
          by_cases e : j = k
          · subst e; exact h
          · exact HALL.out j (by omega))
        obtain ⟨x, hx⟩ : ∃ x, xs.getD k 0 = x := ⟨_, rfl⟩
        obtain ⟨y, hy⟩ : ∃ y, ys.getD k 0 = y := ⟨_, rfl⟩
        rw [hx] at h1 HNE HNX
        rw [hy] at h2 HNE HNX
        clear hx hy hc hc'
        by_cases c : x = y
        · have e1 : (x != y) = false := by simpa using c
          have HN := Lib.hid (HNX.out c)
          clear c
          go_wp2_with fail
          go_big_quiet (fail)
          go_wp2_with fail
          go_roundw
          case rel => exact ⟨k + 1, by omega, by go_num, HN.out, m + nq, rfl⟩
          case measure => simp [intOf]; omega
        · have e1 : (x != y) = true := by simpa using c
          have HN := Lib.hid (HNE.out c)
          clear c
          go_wp2_with fail
          go_big_quiet (fail)
          go_wp2_with fail
          go_ret
          exact ⟨by rw [HN.out]; rfl, (below_drewN _ _ _).trans (below_drewN _ _ _)⟩
      · obtain rfl : k = xs.length := by omega
        have HE := Lib.hid (show decide (xs = ys) = true from decide_eq_true (eq_of_getD HL.out HALL.out))
        go_wp2_with fail
        go_ret
        exact ⟨by rw [HE.out]; rfl, below_drewN _ _ _⟩
  · have hne : ((xs.length : Int) != (ys.length : Int)) = true := by rw [bne_iff_ne]; omega
    have HE := Lib.hid (show decide (xs = ys) = false from decide_eq_false fun e => hl (by rw [e]))
    clear hl
    go_enter Try.func90, Try.ntmps90
    go_wp2_with fail
    go_ret
    exact ⟨by rw [HE.out]; rfl, Below.refl _ _⟩

set_option maxHeartbeats 1000000 in
set_option maxRecDepth 100000 in
/-- Is the least of a row at least 0? -/
theorem slMin (xs : List Int) (A : Option Addr) (ca lo hi : Nat) (w : World) (hx : IntsIn w lo hi A xs) (hn : xs.length ≤ 1048576) (h0 : 0 < xs.length) :
    Calls Try.prog 91 #[.slice A xs.length ca] w fun e w' => ∃ y : Int, e = .returned (.int .i64 y) ∧ (0 ≤ y ↔ ∀ j, j < xs.length → 0 ≤ xs.getD j 0) ∧ w = w' := by
  have HX := Lib.hid hx
  clear hx
  have h1 : ¬ (xs.length : Int) < 1 := by omega
  obtain ⟨b, off, rfl, hc⟩ := row_at HX.out h0
  have hc0 := hc 0 h0
  rw [Nat.add_zero] at hc0
  have h0i : (0 : Int) < (xs.length : Int) := by omega
  have HC := Lib.hid hc
  clear hc
  obtain ⟨z, hz⟩ : ∃ z, xs.getD 0 0 = z := ⟨_, rfl⟩
  rw [hz] at hc0
  have HZ := Lib.hid hz
  clear hz
  go_enter Try.func91, Try.ntmps91
  go_wp2_with fail
  go_loop [3, 4] (fun m i => ∃ k : Nat, 1 ≤ k ∧ k ≤ xs.length ∧ i = .int .i64 k ∧ ∃ y : Int, m = .int .i64 y ∧ (0 ≤ y ↔ ∀ j, j < k → 0 ≤ xs.getD j 0)) (fun _ i => xs.length - (intOf i).toNat)
  case atStart => exact ⟨1, Nat.le_refl _, h0, rfl, z, rfl, by
    constructor
    · intro h j hj
      obtain rfl : j = 0 := by omega
      rw [HZ.out]; exact h
    · intro h
      rw [← HZ.out]; exact h 0 (by omega)⟩
  case round =>
    obtain ⟨k, hk1, hk, rfl, y, rfl, hy⟩ := hrel
    have HY := Lib.hid hy
    clear hy hc0
    by_cases hlt : k < xs.length
    · have hi' : (k : Int) < (xs.length : Int) := by omega
      have hck := HC.out k hlt
      have HNX := Lib.hid (show ∀ u : Int, (0 ≤ u ↔ 0 ≤ y ∧ 0 ≤ xs.getD k 0) → (0 ≤ u ↔ ∀ j, j < k + 1 → 0 ≤ xs.getD j 0) from fun u hu => by
        rw [hu, HY.out]
        constructor
        · rintro ⟨g1, g2⟩ j hj
          by_cases e : j = k
          · subst e; exact g2
          · exact g1 j (by omega)
        · intro g
          exact ⟨fun j hj => g j (by omega), g k (by omega)⟩)
      obtain ⟨x, hx⟩ : ∃ x, xs.getD k 0 = x := ⟨_, rfl⟩
      rw [hx] at hck HNX
      clear hx
      by_cases c : x < y
      all_goals
        go_wp2_with fail
        go_round
        case rel => exact ⟨k + 1, by omega, by omega, by go_num, _, rfl, HNX.out _ (by omega)⟩
        case measure => simp [intOf]; omega
    · obtain rfl : k = xs.length := by omega
      go_wp2_with fail
      go_ret
      exact ⟨y, rfl, HY.out, rfl⟩
end Go.Proofs.Ytgmcibcjplncaaa
/- When a list is one of bars of a valid graph, in order; a state by it. No program. No condition. -/
namespace Go.Proofs.Ytgmcibcjplncaaa
open Go.RowKit

/-- The number at place j names a bar, behind the one before. -/
def OkS (m : Nat) (Z : List Int) (j : Nat) : Prop := (0 ≤ Z.getD j 0 ∧ Z.getD j 0 < (m : Int)) ∧ (0 < j → Z.getD (j - 1) 0 < Z.getD j 0)
theorem okS_snoc {m : Nat} {Z : List Int} {k : Nat} (h : ∀ j, j < k → OkS m Z j) (hk : OkS m Z k) : ∀ j, j < k + 1 → OkS m Z j := fun j hj => by
  by_cases e : j = k
  · subst e; exact hk
  · exact h j (by omega)
open Classical in
/-- A set of bars of a valid graph, as a list. -/
noncomputable def setB (p : Int) (l : List (Int × Int)) (Z : List Int) : Bool := if (∀ j, j < Z.length → OkS l.length Z j) ∧ IsG p l then true else false
theorem setB_all {p : Int} {l : List (Int × Int)} {Z : List Int} (h : ∀ j, j < Z.length → OkS l.length Z j) : setB p l Z = isGB p l := by
  unfold setB
  by_cases g : IsG p l
  · rw [if_pos ⟨h, g⟩, isGB_yes g]
  · rw [if_neg (fun q => g q.2), isGB_no g]
theorem setB_bad {p : Int} {l : List (Int × Int)} {Z : List Int} {j : Nat} (hj : j < Z.length) (h : ¬ OkS l.length Z j) : setB p l Z = false := by
  unfold setB
  rw [if_neg (fun q => h (q.1 j hj))]
theorem setB_is {p : Int} {l : List (Int × Int)} {Z : List Int} (h : setB p l Z = true) : (∀ j, j < Z.length → OkS l.length Z j) ∧ IsG p l := by
  unfold setB at h
  by_cases g : (∀ j, j < Z.length → OkS l.length Z j) ∧ IsG p l
  · exact g
  · rw [if_neg g] at h; cases h
theorem setB_not {p : Int} {l : List (Int × Int)} {Z : List Int} (hG : IsG p l) (h : setB p l Z = false) : ∃ j, j < Z.length ∧ ¬ OkS l.length Z j := by
  refine Classical.byContradiction fun q => ?_
  have : ∀ j, j < Z.length → OkS l.length Z j := fun j hj => Classical.byContradiction fun n => q ⟨j, hj, n⟩
  rw [setB_all this, isGB_yes hG] at h
  cases h
/-- The index of the bar before. -/
def lastP (Z : List Int) (j : Nat) : Int := if j = 0 then -1 else Z.getD (j - 1) 0
theorem lastP_s (Z : List Int) (j : Nat) : lastP Z (j + 1) = Z.getD j 0 := by unfold lastP; rw [if_neg (by omega)]; rfl
theorem lastP_ok {m : Nat} {Z : List Int} {j : Nat} (h : ∀ u, u < j → OkS m Z u) : OkS m Z j ↔ lastP Z j < Z.getD j 0 ∧ Z.getD j 0 < (m : Int) := by
  unfold OkS lastP
  by_cases e : j = 0
  · subst e
    rw [if_pos rfl]
    constructor
    · rintro ⟨h1, _⟩; omega
    · rintro ⟨h1, h2⟩; exact ⟨by omega, fun h => absurd h (by omega)⟩
  · rw [if_neg e]
    have h0 := (h (j - 1) (by omega)).1.1
    constructor
    · rintro ⟨h1, h2⟩; have := h2 (by omega); omega
    · rintro ⟨h1, h2⟩; exact ⟨by omega, fun _ => by omega⟩
theorem okP_s {l : List (Int × Int)} {T Z : List Int} {j : Nat} : OkP l T Z j ↔ OkS l.length Z j ∧ isEnd (l.getD (Z.getD j 0).toNat (0, 0)) (T.getD j 0) := by
  unfold OkP OkS
  constructor
  · rintro ⟨h1, h2, h3⟩; exact ⟨⟨h1, h2⟩, h3⟩
  · rintro ⟨⟨h1, h2⟩, h3⟩; exact ⟨h1, h2, h3⟩
end Go.Proofs.Ytgmcibcjplncaaa
/- What isBarSet answers. No condition. -/
namespace Go.Proofs.Ytgmcibcjplncaaa
open Go.RowKit

set_option maxHeartbeats 2000000 in
set_option maxRecDepth 100000 in
theorem isBarSet_c (p : Int) (l : List (Int × Int)) (A AZ : Option Addr) (cap cZ lo hi : Nat) (Z : List Int) (w : World) (hl : BarsAt w w.heap.size A l) (hz : IntsIn w lo hi AZ Z) (hn : l.length ≤ 1048576) (hZ : Z.length ≤ 1048576) :
    Calls Try.prog 88 #[.agg #[.int .i64 p, .slice A l.length cap], .slice AZ Z.length cZ] w fun e w' => e = .returned (.bool (setB p l Z)) ∧ Below w.heap.size w w' := by
  have hA := new_below w (.cells #[.int .i64 p, .slice A l.length cap] 35)
  have HA := Lib.hid hA
  have HL := Lib.hid ((bars_in hl).within (within_of hA) (.inr (Nat.zero_le _)))
  have HZ := Lib.hid (hz.within (within_of hA) (.inr (Nat.zero_le _)))
  have BX := Lib.hid (box_new w p (.slice A l.length cap) 35)
  clear hl hz hA
  go_enter Try.func88, Try.ntmps88
  go_wp2_with fail
  generalize (w.alloc (.cells #[.int .i64 p, .slice A l.length cap] 35)) = w1 at *
  go_loopw [5, 10] (fun la i wr => ∃ j : Nat, j ≤ Z.length ∧ i = .int .i64 j ∧ la = .int .i64 (lastP Z j) ∧ (∀ u, u < j → OkS l.length Z u) ∧ Below w1.heap.size w1 wr) (fun _ i _ => Z.length - (intOf i).toNat)
  case atStart => exact ⟨0, Nat.zero_le _, rfl, rfl, fun u hu => absurd hu (Nat.not_lt_zero _), Below.refl _ _⟩
  case round =>
    obtain ⟨j, hj, rfl, rfl, hok, hb⟩ := hrel
    have HB := Lib.hid hb
    have HOK := Lib.hid hok
    have BX1 := Lib.hid (BX.out.kept hb)
    obtain ⟨_, g0, g1⟩ := BX1.out
    by_cases hlt : j < Z.length
    · have hji : (j : Int) < (Z.length : Int) := by omega
      obtain ⟨b, off, rfl, hzc⟩ := row_at (HZ.out.within (within_of hb) (.inr (Nat.zero_le _))) (by omega)
      have hz := hzc j hlt
      have HLO := Lib.hid (lastP_ok hok)
      have HBAD := Lib.hid (fun h : ¬ OkS l.length Z j => setB_bad (p := p) hlt h)
      have HLN := Lib.hid (lastP_s Z j)
      clear hb hok hzc
      obtain ⟨y, hyd⟩ : ∃ y, Z.getD j 0 = y := ⟨_, rfl⟩
      obtain ⟨la, hla⟩ : ∃ la, lastP Z j = la := ⟨_, rfl⟩
      rw [hyd] at hz HLO HLN
      rw [hla] at HLO ⊢
      clear hyd hla
      by_cases c1 : y ≤ la
      · have Q := Lib.hid (HBAD.out fun h => by have := HLO.out.1 h; omega)
        have d1 : decide (y ≤ la) = true := by simpa using c1
        go_wp2_with fail
        go_ret
        exact ⟨by rw [Q.out]; rfl, below_on HA.out HB.out HA.out.size⟩
      · have d1 : decide (y ≤ la) = false := by simpa using c1
        by_cases c2 : (l.length : Int) ≤ y
        · have Q := Lib.hid (HBAD.out fun h => by have := HLO.out.1 h; omega)
          go_wp2_with fail
          go_ret
          exact ⟨by rw [Q.out]; rfl, below_on HA.out HB.out HA.out.size⟩
        · have HN := Lib.hid (okS_snoc HOK.out (HLO.out.2 ⟨by omega, by omega⟩))
          go_wp2_with fail
          go_roundw
          case rel => exact ⟨j + 1, by omega, by go_num, by rw [HLN.out], HN.out, HB.out⟩
          case measure => simp [intOf]; omega
    · obtain rfl : j = Z.length := by omega
      have HL1 := Lib.hid (HL.out.within (within_of hb) (.inr (Nat.zero_le _)))
      have HQ := Lib.hid (setB_all (p := p) HOK.out)
      clear hb hok
      go_wp2_with fail
      refine (implIsGraph p l A cap _ HL1.out.at hn).mono ?_
      rintro e w2 ⟨rfl, hb⟩
      have HB2 := Lib.hid (below_on (below_on HA.out HB.out HA.out.size) hb (by have := HA.out.size; have := HB.out.size; omega))
      clear hb
      go_wp2_with fail
      go_ret
      exact ⟨by rw [HQ.out]; rfl, HB2.out⟩
end Go.Proofs.Ytgmcibcjplncaaa
/- What impl.IsPebbles answers. No condition. -/
namespace Go.Proofs.Ytgmcibcjplncaaa
open Go.RowKit

/-- The free pebbles that are left when the first j tails are taken. -/
def decL (P : Nat) (k : Int) (T : List Int) (j : Nat) : List Int := (List.range P).map fun (v : Nat) => k - ((T.take j).count (v : Int) : Int)
theorem decL_len (P : Nat) (k : Int) (T : List Int) (j : Nat) : (decL P k T j).length = P := by simp [decL]
theorem decL_get (P : Nat) (k : Int) (T : List Int) (j v : Nat) (h : v < P) : (decL P k T j).getD v 0 = k - ((T.take j).count (v : Int) : Int) := by simp [decL, List.getD, h]
theorem decL_zero (P : Nat) (k : Int) (T : List Int) : decL P k T 0 = List.replicate P k := by
  apply List.ext_getElem
  · simp [decL]
  · intro i h1 h2
    simp [decL]
theorem decL_step (P : Nat) (k : Int) (T : List Int) (j t : Nat) (hj : j < T.length) (ht : T.getD j 0 = (t : Int)) (h : t < P) : (intCells (decL P k T j)).set t (.int .i64 ((decL P k T j).getD t 0 - 1)) = intCells (decL P k T (j + 1)) := by
  rw [decL_get P k T j t h]
  unfold intCells
  rw [← List.map_set]
  congr 1
  apply List.ext_getElem
  · simp [decL]
  · intro i h1 h2
    have hi : i < P := by simpa [decL] using h2
    rw [List.getElem_set]
    simp only [decL, List.getElem_map, List.getElem_range]
    rw [count_take T (i : Int) j hj, ht]
    by_cases e : t = i
    · subst e
      simp
      omega
    · have e' : ¬ (t : Int) = (i : Int) := by omega
      rw [if_neg e, if_neg e']
      omega
theorem isPeb_dec {P : Nat} {k : Int} {l : List (Int × Int)} {F T Z : List Int} (hG : IsG (P : Int) l) (hk : 1 ≤ k ∧ k ≤ 3) (htz : T.length = Z.length) (hok : ∀ j, j < Z.length → OkP l T Z j) : isPebB (P : Int) k l F T Z = (decide (F = decL P k T T.length) && decide (∀ j, j < F.length → 0 ≤ F.getD j 0)) := by
  by_cases h1 : F = decL P k T T.length
  · have hl : F.length = P := by rw [h1, decL_len]
    by_cases h2 : ∀ j, j < F.length → 0 ≤ F.getD j 0
    · rw [decide_eq_true h1, decide_eq_true h2]
      refine isPebB_yes ⟨hG, hk, by rw [hl], htz, hok, fun v hv => ⟨h2 v hv, ?_⟩⟩
      have hg : F.getD v 0 = k - (T.count (v : Int) : Int) := by
        conv => lhs; rw [h1]
        rw [decL_get P k T T.length v (by omega), List.take_length]
      omega
    · rw [decide_eq_true h1, decide_eq_false h2]
      exact isPebB_no fun hp => h2 fun j hj => (hp.2.2.2.2.2 j hj).1
  · rw [decide_eq_false h1]
    refine isPebB_no fun hp => h1 ?_
    have hl : F.length = P := by have := hp.2.2.1; omega
    refine eq_of_getD (by rw [decL_len, hl]) fun j hj => ?_
    rw [decL_get P k T T.length j (by omega), List.take_length]
    have := (hp.2.2.2.2.2 j hj).2
    omega
theorem new_false {p k : Int} {l : List (Int × Int)} {F T Z : List Int} (h : newB p k l = false) : isPebB p k l F T Z = false := isPebB_no fun hp => by
  have : newB p k l = true := by
    unfold newB
    rw [isGB_yes hp.1, decide_eq_true hp.2.1.1, decide_eq_true hp.2.1.2]
    rfl
  rw [h] at this
  cases this
theorem new_true {p k : Int} {l : List (Int × Int)} (h : newB p k l = true) : ∃ P : Nat, p = (P : Int) ∧ (1 ≤ P ∧ P ≤ 8) ∧ IsG p l ∧ (1 ≤ k ∧ k ≤ 3) ∧ newF p k l = List.replicate P k := by
  unfold newB at h
  simp only [Bool.and_eq_true, decide_eq_true_eq] at h
  have hG : IsG p l := Classical.byContradiction fun g => by rw [isGB_no g] at h; cases h.1
  obtain ⟨P, rfl⟩ : ∃ P : Nat, p = (P : Int) := ⟨p.toNat, by have := hG.1; omega⟩
  exact ⟨P, rfl, by have := hG.1; omega, hG, h.2, (new_yes h.1 h.2.1 h.2.2).2⟩

/-- Where the program's walk stands behind j bars. -/
structure DecI (w wr : World) (bn g cap : Nat) (t z : Value) (P : Nat) (k : Int) (T : List Int) (j : Nat) : Prop where
  row : wr.ownsRow (w.heap.size + 1 + 1) 3 1 (.slice (some ⟨g, 0, none⟩) P cap) P (intCells (decL P k T j))
  st : Cel3 wr bn 30 (.slice (some ⟨g, 0, none⟩) P cap) t z
  ne : g ≠ bn
theorem DecI.below {w wr w' : World} {bn g cap : Nat} {t z : Value} {P : Nat} {k : Int} {T : List Int} {j : Nat} (h : DecI w wr bn g cap t z P k T j) (hb : Below wr.heap.size wr w') : DecI w w' bn g cap t z P k T j :=
  ⟨own_below h.row hb, h.st.kept hb, h.ne⟩
theorem DecI.store {w wr : World} {bn g cap : Nat} {t z : Value} {P : Nat} {k : Int} {T : List Int} {j : Nat} (h : DecI w wr bn g cap t z P k T j) (n : Nat) (v : Value) (hs : (intCells (decL P k T j)).set n v = intCells (decL P k T (j + 1))) : DecI w (wr.setCell ⟨g, n, none⟩ v) bn g cap t z P k T (j + 1) := by
  have h1 := (h.row.stored n v).1
  rw [hs] at h1
  exact ⟨h1, h.st.within (within_set wr g n v) (by have := h.ne; omega), h.ne⟩
theorem GP.store {w wr : World} {bx bp : Nat} {p : Int} {A : Option Addr} {cap : Nat} {l : List (Int × Int)} {AF AT AZ : Option Addr} {cF cT cZ lo hi : Nat} {F T Z : List Int} (h : GP w wr bx bp p A cap l AF AT AZ cF cT cZ lo hi F T Z) (g o : Nat) (v : Value) (h1 : bx < g) (h2 : bp < g) (h3 : w.heap.size ≤ g) (h4 : hi ≤ g) : GP w (wr.setCell ⟨g, o, none⟩ v) bx bp p A cap l AF AT AZ cF cT cZ lo hi F T Z :=
  ⟨h.box.within (within_set wr g o v) (by omega), h.st.within (within_set wr g o v) (by omega), h.bars.within (within_set wr g o v) (by omega), h.rows.within (within_set wr g o v) (by omega), h.bel.setCell (p := ⟨g, o, none⟩) h3 v⟩

set_option maxHeartbeats 8000000 in
set_option maxRecDepth 100000 in
theorem implIsPeb (p k : Int) (l : List (Int × Int)) (A : Option Addr) (cap : Nat) (AF AT AZ : Option Addr) (cF cT cZ lo hi : Nat) (F T Z : List Int) (w : World) (hl : BarsAt w w.heap.size A l) (h : Peb3 w lo hi AF AT AZ F T Z) (hn : l.length ≤ 1048576) (hF : F.length ≤ 1048576) (hT : T.length ≤ 1048576) (hZ : Z.length ≤ 1048576) :
    Calls Try.prog 40 #[.agg #[.int .i64 p, .slice A l.length cap], .int .i64 k, pebV AF F.length cF AT T.length cT AZ Z.length cZ] w fun e w' => e = .returned (.bool (isPebB p k l F T Z)) ∧ Below w.heap.size w w' := by
  rcases hg : newB p k l with _ | _
  · skip
    have HR := Lib.hid (new_false (F := F) (T := T) (Z := Z) hg)
    have HNB := Lib.hid hg
    clear hg
    have hhi : hi ≤ w.heap.size := h.f.1
    have W0 := Lib.hid (Below.refl w.heap.size w)
    have HB_0 := Lib.hid (bars_in hl)
    have H_0 := Lib.hid (h)
    clear hl h
    have Z1 := Lib.hid (within_alloc w (.cells #[.int .i64 p, (.slice A l.length cap)] 35)).size
    have W1 := Lib.hid (within_on W0.out (within_alloc w (.cells #[.int .i64 p, (.slice A l.length cap)] 35)) W0.out.size (.inr (Nat.le_refl _)))
    have HB_1 := Lib.hid (HB_0.out.within (within_alloc w (.cells #[.int .i64 p, (.slice A l.length cap)] 35)) (by omega))
    have H_1 := Lib.hid (H_0.out.within (within_alloc w (.cells #[.int .i64 p, (.slice A l.length cap)] 35)) (by omega))
    have Y1 := Lib.hid (show (w.alloc (.cells #[.int .i64 p, (.slice A l.length cap)] 35)).heap.size = w.heap.size + 1 by simp)
    have hnew := box_new w p (.slice A l.length cap) 35
    have BX_1 := Lib.hid hnew
    clear hnew
    have Z2 := Lib.hid (within_alloc (w.alloc (.cells #[.int .i64 p, (.slice A l.length cap)] 35)) (.cells #[(.slice AF F.length cF), (.slice AT T.length cT), (.slice AZ Z.length cZ)] 30)).size
    have W2 := Lib.hid (within_on W1.out (within_alloc (w.alloc (.cells #[.int .i64 p, (.slice A l.length cap)] 35)) (.cells #[(.slice AF F.length cF), (.slice AT T.length cT), (.slice AZ Z.length cZ)] 30)) W1.out.size (.inr (Nat.le_refl _)))
    have HB_2 := Lib.hid (HB_1.out.within (within_alloc (w.alloc (.cells #[.int .i64 p, (.slice A l.length cap)] 35)) (.cells #[(.slice AF F.length cF), (.slice AT T.length cT), (.slice AZ Z.length cZ)] 30)) (by omega))
    have H_2 := Lib.hid (H_1.out.within (within_alloc (w.alloc (.cells #[.int .i64 p, (.slice A l.length cap)] 35)) (.cells #[(.slice AF F.length cF), (.slice AT T.length cT), (.slice AZ Z.length cZ)] 30)) (by omega))
    have BX_2 := Lib.hid (BX_1.out.within (within_alloc (w.alloc (.cells #[.int .i64 p, (.slice A l.length cap)] 35)) (.cells #[(.slice AF F.length cF), (.slice AT T.length cT), (.slice AZ Z.length cZ)] 30)) (by omega))
    have Y2 := Lib.hid (show ((w.alloc (.cells #[.int .i64 p, (.slice A l.length cap)] 35)).alloc (.cells #[(.slice AF F.length cF), (.slice AT T.length cT), (.slice AZ Z.length cZ)] 30)).heap.size = (w.alloc (.cells #[.int .i64 p, (.slice A l.length cap)] 35)).heap.size + 1 by simp)
    have hnew := cel3_new (w.alloc (.cells #[.int .i64 p, (.slice A l.length cap)] 35)) (.slice AF F.length cF) (.slice AT T.length cT) (.slice AZ Z.length cZ) 30
    rw [show (w.alloc (.cells #[.int .i64 p, (.slice A l.length cap)] 35)).heap.size = w.heap.size + 1 by simp] at hnew
    have GA_2 := Lib.hid hnew
    clear hnew
    go_enter Try.func40, Try.ntmps40
    obtain ⟨g0_0, g0_1, g0_2⟩ := BX_2.out
    obtain ⟨g1_0, g1_1, g1_2, g1_3, g1_4, g1_5⟩ := GA_2.out.cells
    go_wp2_with fail
    clear g0_0 g0_1 g0_2 g1_0 g1_1 g1_2 g1_3 g1_4 g1_5
    generalize ((w.alloc (.cells #[.int .i64 p, (.slice A l.length cap)] 35)).alloc (.cells #[(.slice AF F.length cF), (.slice AT T.length cT), (.slice AZ Z.length cZ)] 30)) = w2 at *
    generalize (w.alloc (.cells #[.int .i64 p, (.slice A l.length cap)] 35)) = w1 at *
    refine (implNewP p k l A cap _ HB_2.out.at hn).mono ?_
    rintro e w3 ⟨AF', cF', AT', cT', AZ', cZ', rfl, ho, hb⟩
    have Z3 := Lib.hid (within_of hb).size
    have W3 := Lib.hid (within_on W2.out (within_of hb) W2.out.size (.inr (Nat.le_refl _)))
    have HB_3 := Lib.hid (HB_2.out.within (within_of hb) (by omega))
    have H_3 := Lib.hid (H_2.out.within (within_of hb) (by omega))
    have BX_3 := Lib.hid (BX_2.out.within (within_of hb) (by omega))
    have GA_3 := Lib.hid (GA_2.out.within (within_of hb) (by omega))
    have SO_3 := Lib.hid (ho)
    clear ho hb
    rw [HNB.out]
    have Z4 := Lib.hid (within_alloc w3 (.cells #[(.slice AF' (newF p k l).length cF'), (.slice AT' 0 cT'), (.slice AZ' 0 cZ')] 30)).size
    have W4 := Lib.hid (within_on W3.out (within_alloc w3 (.cells #[(.slice AF' (newF p k l).length cF'), (.slice AT' 0 cT'), (.slice AZ' 0 cZ')] 30)) W3.out.size (.inr (Nat.le_refl _)))
    have HB_4 := Lib.hid (HB_3.out.within (within_alloc w3 (.cells #[(.slice AF' (newF p k l).length cF'), (.slice AT' 0 cT'), (.slice AZ' 0 cZ')] 30)) (by omega))
    have H_4 := Lib.hid (H_3.out.within (within_alloc w3 (.cells #[(.slice AF' (newF p k l).length cF'), (.slice AT' 0 cT'), (.slice AZ' 0 cZ')] 30)) (by omega))
    have BX_4 := Lib.hid (BX_3.out.within (within_alloc w3 (.cells #[(.slice AF' (newF p k l).length cF'), (.slice AT' 0 cT'), (.slice AZ' 0 cZ')] 30)) (by omega))
    have GA_4 := Lib.hid (GA_3.out.within (within_alloc w3 (.cells #[(.slice AF' (newF p k l).length cF'), (.slice AT' 0 cT'), (.slice AZ' 0 cZ')] 30)) (by omega))
    have SO_4 := Lib.hid (SO_3.out.within (within_alloc w3 (.cells #[(.slice AF' (newF p k l).length cF'), (.slice AT' 0 cT'), (.slice AZ' 0 cZ')] 30)) (by omega))
    have Y4 := Lib.hid (show (w3.alloc (.cells #[(.slice AF' (newF p k l).length cF'), (.slice AT' 0 cT'), (.slice AZ' 0 cZ')] 30)).heap.size = w3.heap.size + 1 by simp)
    have hnew := cel3_new w3 (.slice AF' (newF p k l).length cF') (.slice AT' 0 cT') (.slice AZ' 0 cZ') 30
    have BN_4 := Lib.hid hnew
    clear hnew
    go_wp2_with fail
    generalize (w3.alloc (.cells #[(.slice AF' (newF p k l).length cF'), (.slice AT' 0 cT'), (.slice AZ' 0 cZ')] 30)) = w4 at *
    go_ret
    exact ⟨by rw [HR.out]; rfl, W4.out⟩
  · obtain ⟨P, rfl, hP, hG, hk, hnf⟩ := new_true hg
    have h24 := hG.2.1
    have HNB := Lib.hid hg
    have HNF := Lib.hid hnf
    clear hg hnf
    by_cases htz : T.length = Z.length
    case neg =>
      have HR := Lib.hid (show isPebB (P : Int) k l F T Z = false from isPebB_no fun hp => htz hp.2.2.2.1)
      have hne : ((T.length : Int) != (Z.length : Int)) = true := by rw [bne_iff_ne]; omega
      clear hG
      have hhi : hi ≤ w.heap.size := h.f.1
      have W0 := Lib.hid (Below.refl w.heap.size w)
      have HB_0 := Lib.hid (bars_in hl)
      have H_0 := Lib.hid (h)
      clear hl h
      have Z1 := Lib.hid (within_alloc w (.cells #[.int .i64 (P : Int), (.slice A l.length cap)] 35)).size
      have W1 := Lib.hid (within_on W0.out (within_alloc w (.cells #[.int .i64 (P : Int), (.slice A l.length cap)] 35)) W0.out.size (.inr (Nat.le_refl _)))
      have HB_1 := Lib.hid (HB_0.out.within (within_alloc w (.cells #[.int .i64 (P : Int), (.slice A l.length cap)] 35)) (by omega))
      have H_1 := Lib.hid (H_0.out.within (within_alloc w (.cells #[.int .i64 (P : Int), (.slice A l.length cap)] 35)) (by omega))
      have Y1 := Lib.hid (show (w.alloc (.cells #[.int .i64 (P : Int), (.slice A l.length cap)] 35)).heap.size = w.heap.size + 1 by simp)
      have hnew := box_new w (P : Int) (.slice A l.length cap) 35
      have BX_1 := Lib.hid hnew
      clear hnew
      have Z2 := Lib.hid (within_alloc (w.alloc (.cells #[.int .i64 (P : Int), (.slice A l.length cap)] 35)) (.cells #[(.slice AF F.length cF), (.slice AT T.length cT), (.slice AZ Z.length cZ)] 30)).size
      have W2 := Lib.hid (within_on W1.out (within_alloc (w.alloc (.cells #[.int .i64 (P : Int), (.slice A l.length cap)] 35)) (.cells #[(.slice AF F.length cF), (.slice AT T.length cT), (.slice AZ Z.length cZ)] 30)) W1.out.size (.inr (Nat.le_refl _)))
      have HB_2 := Lib.hid (HB_1.out.within (within_alloc (w.alloc (.cells #[.int .i64 (P : Int), (.slice A l.length cap)] 35)) (.cells #[(.slice AF F.length cF), (.slice AT T.length cT), (.slice AZ Z.length cZ)] 30)) (by omega))
      have H_2 := Lib.hid (H_1.out.within (within_alloc (w.alloc (.cells #[.int .i64 (P : Int), (.slice A l.length cap)] 35)) (.cells #[(.slice AF F.length cF), (.slice AT T.length cT), (.slice AZ Z.length cZ)] 30)) (by omega))
      have BX_2 := Lib.hid (BX_1.out.within (within_alloc (w.alloc (.cells #[.int .i64 (P : Int), (.slice A l.length cap)] 35)) (.cells #[(.slice AF F.length cF), (.slice AT T.length cT), (.slice AZ Z.length cZ)] 30)) (by omega))
      have Y2 := Lib.hid (show ((w.alloc (.cells #[.int .i64 (P : Int), (.slice A l.length cap)] 35)).alloc (.cells #[(.slice AF F.length cF), (.slice AT T.length cT), (.slice AZ Z.length cZ)] 30)).heap.size = (w.alloc (.cells #[.int .i64 (P : Int), (.slice A l.length cap)] 35)).heap.size + 1 by simp)
      have hnew := cel3_new (w.alloc (.cells #[.int .i64 (P : Int), (.slice A l.length cap)] 35)) (.slice AF F.length cF) (.slice AT T.length cT) (.slice AZ Z.length cZ) 30
      rw [show (w.alloc (.cells #[.int .i64 (P : Int), (.slice A l.length cap)] 35)).heap.size = w.heap.size + 1 by simp] at hnew
      have GA_2 := Lib.hid hnew
      clear hnew
      go_enter Try.func40, Try.ntmps40
      obtain ⟨g0_0, g0_1, g0_2⟩ := BX_2.out
      obtain ⟨g1_0, g1_1, g1_2, g1_3, g1_4, g1_5⟩ := GA_2.out.cells
      go_wp2_with fail
      clear g0_0 g0_1 g0_2 g1_0 g1_1 g1_2 g1_3 g1_4 g1_5
      generalize ((w.alloc (.cells #[.int .i64 (P : Int), (.slice A l.length cap)] 35)).alloc (.cells #[(.slice AF F.length cF), (.slice AT T.length cT), (.slice AZ Z.length cZ)] 30)) = w2 at *
      generalize (w.alloc (.cells #[.int .i64 (P : Int), (.slice A l.length cap)] 35)) = w1 at *
      refine (implNewP (P : Int) k l A cap _ HB_2.out.at hn).mono ?_
      rintro e w3 ⟨AF', cF', AT', cT', AZ', cZ', rfl, ho, hb⟩
      have Z3 := Lib.hid (within_of hb).size
      have W3 := Lib.hid (within_on W2.out (within_of hb) W2.out.size (.inr (Nat.le_refl _)))
      have HB_3 := Lib.hid (HB_2.out.within (within_of hb) (by omega))
      have H_3 := Lib.hid (H_2.out.within (within_of hb) (by omega))
      have BX_3 := Lib.hid (BX_2.out.within (within_of hb) (by omega))
      have GA_3 := Lib.hid (GA_2.out.within (within_of hb) (by omega))
      have SO_3 := Lib.hid (ho)
      clear ho hb
      rw [HNB.out]
      have Z4 := Lib.hid (within_alloc w3 (.cells #[(.slice AF' (newF (P : Int) k l).length cF'), (.slice AT' 0 cT'), (.slice AZ' 0 cZ')] 30)).size
      have W4 := Lib.hid (within_on W3.out (within_alloc w3 (.cells #[(.slice AF' (newF (P : Int) k l).length cF'), (.slice AT' 0 cT'), (.slice AZ' 0 cZ')] 30)) W3.out.size (.inr (Nat.le_refl _)))
      have HB_4 := Lib.hid (HB_3.out.within (within_alloc w3 (.cells #[(.slice AF' (newF (P : Int) k l).length cF'), (.slice AT' 0 cT'), (.slice AZ' 0 cZ')] 30)) (by omega))
      have H_4 := Lib.hid (H_3.out.within (within_alloc w3 (.cells #[(.slice AF' (newF (P : Int) k l).length cF'), (.slice AT' 0 cT'), (.slice AZ' 0 cZ')] 30)) (by omega))
      have BX_4 := Lib.hid (BX_3.out.within (within_alloc w3 (.cells #[(.slice AF' (newF (P : Int) k l).length cF'), (.slice AT' 0 cT'), (.slice AZ' 0 cZ')] 30)) (by omega))
      have GA_4 := Lib.hid (GA_3.out.within (within_alloc w3 (.cells #[(.slice AF' (newF (P : Int) k l).length cF'), (.slice AT' 0 cT'), (.slice AZ' 0 cZ')] 30)) (by omega))
      have SO_4 := Lib.hid (SO_3.out.within (within_alloc w3 (.cells #[(.slice AF' (newF (P : Int) k l).length cF'), (.slice AT' 0 cT'), (.slice AZ' 0 cZ')] 30)) (by omega))
      have Y4 := Lib.hid (show (w3.alloc (.cells #[(.slice AF' (newF (P : Int) k l).length cF'), (.slice AT' 0 cT'), (.slice AZ' 0 cZ')] 30)).heap.size = w3.heap.size + 1 by simp)
      have hnew := cel3_new w3 (.slice AF' (newF (P : Int) k l).length cF') (.slice AT' 0 cT') (.slice AZ' 0 cZ') 30
      have BN_4 := Lib.hid hnew
      clear hnew
      obtain ⟨g2_0, g2_1, g2_2, g2_3, g2_4, g2_5⟩ := GA_4.out.cells
      go_wp2_with fail
      clear g2_0 g2_1 g2_2 g2_3 g2_4 g2_5
      generalize (w3.alloc (.cells #[(.slice AF' (newF (P : Int) k l).length cF'), (.slice AT' 0 cT'), (.slice AZ' 0 cZ')] 30)) = w4 at *
      go_ret
      exact ⟨by rw [HR.out]; rfl, W4.out⟩
    rcases hsb : setB (P : Int) l Z with _ | _
    · skip
      have hne : ((T.length : Int) != (Z.length : Int)) = false := by rw [bne_eq_false_iff_eq]; omega
      have HTZ := Lib.hid htz
      have HDEC := Lib.hid (fun hok : ∀ j, j < Z.length → OkP l T Z j => isPeb_dec (F := F) hG hk htz hok)
      have HG := Lib.hid hG
      have HR := Lib.hid (show isPebB (P : Int) k l F T Z = false from by
        obtain ⟨j, hj, hno⟩ := setB_not hG hsb
        exact isPeb_bad hj fun h => hno (okP_s.1 h).1)
      have HSB := Lib.hid hsb
      clear hG htz hsb
      have hhi : hi ≤ w.heap.size := h.f.1
      have W0 := Lib.hid (Below.refl w.heap.size w)
      have HB_0 := Lib.hid (bars_in hl)
      have H_0 := Lib.hid (h)
      clear hl h
      have Z1 := Lib.hid (within_alloc w (.cells #[.int .i64 (P : Int), (.slice A l.length cap)] 35)).size
      have W1 := Lib.hid (within_on W0.out (within_alloc w (.cells #[.int .i64 (P : Int), (.slice A l.length cap)] 35)) W0.out.size (.inr (Nat.le_refl _)))
      have HB_1 := Lib.hid (HB_0.out.within (within_alloc w (.cells #[.int .i64 (P : Int), (.slice A l.length cap)] 35)) (by omega))
      have H_1 := Lib.hid (H_0.out.within (within_alloc w (.cells #[.int .i64 (P : Int), (.slice A l.length cap)] 35)) (by omega))
      have Y1 := Lib.hid (show (w.alloc (.cells #[.int .i64 (P : Int), (.slice A l.length cap)] 35)).heap.size = w.heap.size + 1 by simp)
      have hnew := box_new w (P : Int) (.slice A l.length cap) 35
      have BX_1 := Lib.hid hnew
      clear hnew
      have Z2 := Lib.hid (within_alloc (w.alloc (.cells #[.int .i64 (P : Int), (.slice A l.length cap)] 35)) (.cells #[(.slice AF F.length cF), (.slice AT T.length cT), (.slice AZ Z.length cZ)] 30)).size
      have W2 := Lib.hid (within_on W1.out (within_alloc (w.alloc (.cells #[.int .i64 (P : Int), (.slice A l.length cap)] 35)) (.cells #[(.slice AF F.length cF), (.slice AT T.length cT), (.slice AZ Z.length cZ)] 30)) W1.out.size (.inr (Nat.le_refl _)))
      have HB_2 := Lib.hid (HB_1.out.within (within_alloc (w.alloc (.cells #[.int .i64 (P : Int), (.slice A l.length cap)] 35)) (.cells #[(.slice AF F.length cF), (.slice AT T.length cT), (.slice AZ Z.length cZ)] 30)) (by omega))
      have H_2 := Lib.hid (H_1.out.within (within_alloc (w.alloc (.cells #[.int .i64 (P : Int), (.slice A l.length cap)] 35)) (.cells #[(.slice AF F.length cF), (.slice AT T.length cT), (.slice AZ Z.length cZ)] 30)) (by omega))
      have BX_2 := Lib.hid (BX_1.out.within (within_alloc (w.alloc (.cells #[.int .i64 (P : Int), (.slice A l.length cap)] 35)) (.cells #[(.slice AF F.length cF), (.slice AT T.length cT), (.slice AZ Z.length cZ)] 30)) (by omega))
      have Y2 := Lib.hid (show ((w.alloc (.cells #[.int .i64 (P : Int), (.slice A l.length cap)] 35)).alloc (.cells #[(.slice AF F.length cF), (.slice AT T.length cT), (.slice AZ Z.length cZ)] 30)).heap.size = (w.alloc (.cells #[.int .i64 (P : Int), (.slice A l.length cap)] 35)).heap.size + 1 by simp)
      have hnew := cel3_new (w.alloc (.cells #[.int .i64 (P : Int), (.slice A l.length cap)] 35)) (.slice AF F.length cF) (.slice AT T.length cT) (.slice AZ Z.length cZ) 30
      rw [show (w.alloc (.cells #[.int .i64 (P : Int), (.slice A l.length cap)] 35)).heap.size = w.heap.size + 1 by simp] at hnew
      have GA_2 := Lib.hid hnew
      clear hnew
      go_enter Try.func40, Try.ntmps40
      obtain ⟨g0_0, g0_1, g0_2⟩ := BX_2.out
      obtain ⟨g1_0, g1_1, g1_2, g1_3, g1_4, g1_5⟩ := GA_2.out.cells
      go_wp2_with fail
      clear g0_0 g0_1 g0_2 g1_0 g1_1 g1_2 g1_3 g1_4 g1_5
      generalize ((w.alloc (.cells #[.int .i64 (P : Int), (.slice A l.length cap)] 35)).alloc (.cells #[(.slice AF F.length cF), (.slice AT T.length cT), (.slice AZ Z.length cZ)] 30)) = w2 at *
      generalize (w.alloc (.cells #[.int .i64 (P : Int), (.slice A l.length cap)] 35)) = w1 at *
      refine (implNewP (P : Int) k l A cap _ HB_2.out.at hn).mono ?_
      rintro e w3 ⟨AF', cF', AT', cT', AZ', cZ', rfl, ho, hb⟩
      have Z3 := Lib.hid (within_of hb).size
      have W3 := Lib.hid (within_on W2.out (within_of hb) W2.out.size (.inr (Nat.le_refl _)))
      have HB_3 := Lib.hid (HB_2.out.within (within_of hb) (by omega))
      have H_3 := Lib.hid (H_2.out.within (within_of hb) (by omega))
      have BX_3 := Lib.hid (BX_2.out.within (within_of hb) (by omega))
      have GA_3 := Lib.hid (GA_2.out.within (within_of hb) (by omega))
      have SO_3 := Lib.hid (ho)
      clear ho hb
      rw [HNB.out, HNF.out, List.length_replicate]
      obtain ⟨_, _, _, o1, _, _, _, _, _, b1, _, _, hsz⟩ := SO_3.out
      rw [HNF.out] at o1
      obtain ⟨g, rfl, hg1, hg2, hgo⟩ : ∃ g, AF' = some ⟨g, 0, none⟩ ∧ w2.heap.size ≤ g ∧ g < w3.heap.size ∧ w3.ownsRow (w.heap.size + 1 + 1) 3 1 (.slice (some ⟨g, 0, none⟩) P cF') P (intCells (decL P k T 0)) := by
        rcases o1.2 with h | ⟨g, e, h1, h2, ho⟩
        · exact absurd (congrArg List.length h) (by simp; omega)
        · refine ⟨g, e, by omega, by omega, ?_⟩
          rw [decL_zero]
          rw [List.length_replicate] at ho
          exact own_base ho (by have := Y1.out; have := Y2.out; omega)
      clear o1 b1 hsz
      have HGO := Lib.hid hgo
      clear hgo
      have Z4 := Lib.hid (within_alloc w3 (.cells #[(.slice (some ⟨g, 0, none⟩) P cF'), (.slice AT' 0 cT'), (.slice AZ' 0 cZ')] 30)).size
      have W4 := Lib.hid (within_on W3.out (within_alloc w3 (.cells #[(.slice (some ⟨g, 0, none⟩) P cF'), (.slice AT' 0 cT'), (.slice AZ' 0 cZ')] 30)) W3.out.size (.inr (Nat.le_refl _)))
      have HB_4 := Lib.hid (HB_3.out.within (within_alloc w3 (.cells #[(.slice (some ⟨g, 0, none⟩) P cF'), (.slice AT' 0 cT'), (.slice AZ' 0 cZ')] 30)) (by omega))
      have H_4 := Lib.hid (H_3.out.within (within_alloc w3 (.cells #[(.slice (some ⟨g, 0, none⟩) P cF'), (.slice AT' 0 cT'), (.slice AZ' 0 cZ')] 30)) (by omega))
      have BX_4 := Lib.hid (BX_3.out.within (within_alloc w3 (.cells #[(.slice (some ⟨g, 0, none⟩) P cF'), (.slice AT' 0 cT'), (.slice AZ' 0 cZ')] 30)) (by omega))
      have GA_4 := Lib.hid (GA_3.out.within (within_alloc w3 (.cells #[(.slice (some ⟨g, 0, none⟩) P cF'), (.slice AT' 0 cT'), (.slice AZ' 0 cZ')] 30)) (by omega))
      have SO_4 := Lib.hid (SO_3.out.within (within_alloc w3 (.cells #[(.slice (some ⟨g, 0, none⟩) P cF'), (.slice AT' 0 cT'), (.slice AZ' 0 cZ')] 30)) (by omega))
      have Y4 := Lib.hid (show (w3.alloc (.cells #[(.slice (some ⟨g, 0, none⟩) P cF'), (.slice AT' 0 cT'), (.slice AZ' 0 cZ')] 30)).heap.size = w3.heap.size + 1 by simp)
      have hnew := cel3_new w3 (.slice (some ⟨g, 0, none⟩) P cF') (.slice AT' 0 cT') (.slice AZ' 0 cZ') 30
      have BN_4 := Lib.hid hnew
      clear hnew
      have HGA := Lib.hid (show World.ownsRow (w3.alloc (.cells #[(.slice (some ⟨g, 0, none⟩) P cF'), (.slice AT' 0 cT'), (.slice AZ' 0 cZ')] 30)) _ _ _ _ _ _ from HGO.out.alloc _)
      obtain ⟨g2_0, g2_1, g2_2⟩ := BX_4.out
      obtain ⟨g3_0, g3_1, g3_2, g3_3, g3_4, g3_5⟩ := GA_4.out.cells
      obtain ⟨g4_0, g4_1, g4_2, g4_3, g4_4, g4_5⟩ := BN_4.out.cells
      go_wp2_with fail
      clear g2_0 g2_1 g2_2 g3_0 g3_1 g3_2 g3_3 g3_4 g3_5 g4_0 g4_1 g4_2 g4_3 g4_4 g4_5
      generalize (w3.alloc (.cells #[(.slice (some ⟨g, 0, none⟩) P cF'), (.slice AT' 0 cT'), (.slice AZ' 0 cZ')] 30)) = w4 at *
      refine (isBarSet_c (P : Int) l A AZ cap cZ lo hi Z _ HB_4.out.at H_4.out.z hn hZ).mono ?_
      rintro e w5 ⟨rfl, hb⟩
      have Z5 := Lib.hid (within_of hb).size
      have W5 := Lib.hid (within_on W4.out (within_of hb) W4.out.size (.inr (Nat.le_refl _)))
      have HB_5 := Lib.hid (HB_4.out.within (within_of hb) (by omega))
      have H_5 := Lib.hid (H_4.out.within (within_of hb) (by omega))
      have BX_5 := Lib.hid (BX_4.out.within (within_of hb) (by omega))
      have GA_5 := Lib.hid (GA_4.out.within (within_of hb) (by omega))
      have SO_5 := Lib.hid (SO_4.out.within (within_of hb) (by omega))
      have BN_5 := Lib.hid (BN_4.out.within (within_of hb) (by omega))
      clear hb
      rw [HSB.out]
      go_wp2_with fail
      go_ret
      exact ⟨by rw [HR.out]; rfl, W5.out⟩
    · skip
      have hne : ((T.length : Int) != (Z.length : Int)) = false := by rw [bne_eq_false_iff_eq]; omega
      have HTZ := Lib.hid htz
      have HDEC := Lib.hid (fun hok : ∀ j, j < Z.length → OkP l T Z j => isPeb_dec (F := F) hG hk htz hok)
      have HG := Lib.hid hG
      have HSET := Lib.hid (setB_is hsb).1
      have HSB := Lib.hid hsb
      clear hG htz hsb
      have hhi : hi ≤ w.heap.size := h.f.1
      have W0 := Lib.hid (Below.refl w.heap.size w)
      have HB_0 := Lib.hid (bars_in hl)
      have H_0 := Lib.hid (h)
      clear hl h
      have Z1 := Lib.hid (within_alloc w (.cells #[.int .i64 (P : Int), (.slice A l.length cap)] 35)).size
      have W1 := Lib.hid (within_on W0.out (within_alloc w (.cells #[.int .i64 (P : Int), (.slice A l.length cap)] 35)) W0.out.size (.inr (Nat.le_refl _)))
      have HB_1 := Lib.hid (HB_0.out.within (within_alloc w (.cells #[.int .i64 (P : Int), (.slice A l.length cap)] 35)) (by omega))
      have H_1 := Lib.hid (H_0.out.within (within_alloc w (.cells #[.int .i64 (P : Int), (.slice A l.length cap)] 35)) (by omega))
      have Y1 := Lib.hid (show (w.alloc (.cells #[.int .i64 (P : Int), (.slice A l.length cap)] 35)).heap.size = w.heap.size + 1 by simp)
      have hnew := box_new w (P : Int) (.slice A l.length cap) 35
      have BX_1 := Lib.hid hnew
      clear hnew
      have Z2 := Lib.hid (within_alloc (w.alloc (.cells #[.int .i64 (P : Int), (.slice A l.length cap)] 35)) (.cells #[(.slice AF F.length cF), (.slice AT T.length cT), (.slice AZ Z.length cZ)] 30)).size
      have W2 := Lib.hid (within_on W1.out (within_alloc (w.alloc (.cells #[.int .i64 (P : Int), (.slice A l.length cap)] 35)) (.cells #[(.slice AF F.length cF), (.slice AT T.length cT), (.slice AZ Z.length cZ)] 30)) W1.out.size (.inr (Nat.le_refl _)))
      have HB_2 := Lib.hid (HB_1.out.within (within_alloc (w.alloc (.cells #[.int .i64 (P : Int), (.slice A l.length cap)] 35)) (.cells #[(.slice AF F.length cF), (.slice AT T.length cT), (.slice AZ Z.length cZ)] 30)) (by omega))
      have H_2 := Lib.hid (H_1.out.within (within_alloc (w.alloc (.cells #[.int .i64 (P : Int), (.slice A l.length cap)] 35)) (.cells #[(.slice AF F.length cF), (.slice AT T.length cT), (.slice AZ Z.length cZ)] 30)) (by omega))
      have BX_2 := Lib.hid (BX_1.out.within (within_alloc (w.alloc (.cells #[.int .i64 (P : Int), (.slice A l.length cap)] 35)) (.cells #[(.slice AF F.length cF), (.slice AT T.length cT), (.slice AZ Z.length cZ)] 30)) (by omega))
      have Y2 := Lib.hid (show ((w.alloc (.cells #[.int .i64 (P : Int), (.slice A l.length cap)] 35)).alloc (.cells #[(.slice AF F.length cF), (.slice AT T.length cT), (.slice AZ Z.length cZ)] 30)).heap.size = (w.alloc (.cells #[.int .i64 (P : Int), (.slice A l.length cap)] 35)).heap.size + 1 by simp)
      have hnew := cel3_new (w.alloc (.cells #[.int .i64 (P : Int), (.slice A l.length cap)] 35)) (.slice AF F.length cF) (.slice AT T.length cT) (.slice AZ Z.length cZ) 30
      rw [show (w.alloc (.cells #[.int .i64 (P : Int), (.slice A l.length cap)] 35)).heap.size = w.heap.size + 1 by simp] at hnew
      have GA_2 := Lib.hid hnew
      clear hnew
      go_enter Try.func40, Try.ntmps40
      obtain ⟨g0_0, g0_1, g0_2⟩ := BX_2.out
      obtain ⟨g1_0, g1_1, g1_2, g1_3, g1_4, g1_5⟩ := GA_2.out.cells
      go_wp2_with fail
      clear g0_0 g0_1 g0_2 g1_0 g1_1 g1_2 g1_3 g1_4 g1_5
      generalize ((w.alloc (.cells #[.int .i64 (P : Int), (.slice A l.length cap)] 35)).alloc (.cells #[(.slice AF F.length cF), (.slice AT T.length cT), (.slice AZ Z.length cZ)] 30)) = w2 at *
      generalize (w.alloc (.cells #[.int .i64 (P : Int), (.slice A l.length cap)] 35)) = w1 at *
      refine (implNewP (P : Int) k l A cap _ HB_2.out.at hn).mono ?_
      rintro e w3 ⟨AF', cF', AT', cT', AZ', cZ', rfl, ho, hb⟩
      have Z3 := Lib.hid (within_of hb).size
      have W3 := Lib.hid (within_on W2.out (within_of hb) W2.out.size (.inr (Nat.le_refl _)))
      have HB_3 := Lib.hid (HB_2.out.within (within_of hb) (by omega))
      have H_3 := Lib.hid (H_2.out.within (within_of hb) (by omega))
      have BX_3 := Lib.hid (BX_2.out.within (within_of hb) (by omega))
      have GA_3 := Lib.hid (GA_2.out.within (within_of hb) (by omega))
      have SO_3 := Lib.hid (ho)
      clear ho hb
      rw [HNB.out, HNF.out, List.length_replicate]
      obtain ⟨_, _, _, o1, _, _, _, _, _, b1, _, _, hsz⟩ := SO_3.out
      rw [HNF.out] at o1
      obtain ⟨g, rfl, hg1, hg2, hgo⟩ : ∃ g, AF' = some ⟨g, 0, none⟩ ∧ w2.heap.size ≤ g ∧ g < w3.heap.size ∧ w3.ownsRow (w.heap.size + 1 + 1) 3 1 (.slice (some ⟨g, 0, none⟩) P cF') P (intCells (decL P k T 0)) := by
        rcases o1.2 with h | ⟨g, e, h1, h2, ho⟩
        · exact absurd (congrArg List.length h) (by simp; omega)
        · refine ⟨g, e, by omega, by omega, ?_⟩
          rw [decL_zero]
          rw [List.length_replicate] at ho
          exact own_base ho (by have := Y1.out; have := Y2.out; omega)
      clear o1 b1 hsz
      have HGO := Lib.hid hgo
      clear hgo
      have Z4 := Lib.hid (within_alloc w3 (.cells #[(.slice (some ⟨g, 0, none⟩) P cF'), (.slice AT' 0 cT'), (.slice AZ' 0 cZ')] 30)).size
      have W4 := Lib.hid (within_on W3.out (within_alloc w3 (.cells #[(.slice (some ⟨g, 0, none⟩) P cF'), (.slice AT' 0 cT'), (.slice AZ' 0 cZ')] 30)) W3.out.size (.inr (Nat.le_refl _)))
      have HB_4 := Lib.hid (HB_3.out.within (within_alloc w3 (.cells #[(.slice (some ⟨g, 0, none⟩) P cF'), (.slice AT' 0 cT'), (.slice AZ' 0 cZ')] 30)) (by omega))
      have H_4 := Lib.hid (H_3.out.within (within_alloc w3 (.cells #[(.slice (some ⟨g, 0, none⟩) P cF'), (.slice AT' 0 cT'), (.slice AZ' 0 cZ')] 30)) (by omega))
      have BX_4 := Lib.hid (BX_3.out.within (within_alloc w3 (.cells #[(.slice (some ⟨g, 0, none⟩) P cF'), (.slice AT' 0 cT'), (.slice AZ' 0 cZ')] 30)) (by omega))
      have GA_4 := Lib.hid (GA_3.out.within (within_alloc w3 (.cells #[(.slice (some ⟨g, 0, none⟩) P cF'), (.slice AT' 0 cT'), (.slice AZ' 0 cZ')] 30)) (by omega))
      have SO_4 := Lib.hid (SO_3.out.within (within_alloc w3 (.cells #[(.slice (some ⟨g, 0, none⟩) P cF'), (.slice AT' 0 cT'), (.slice AZ' 0 cZ')] 30)) (by omega))
      have Y4 := Lib.hid (show (w3.alloc (.cells #[(.slice (some ⟨g, 0, none⟩) P cF'), (.slice AT' 0 cT'), (.slice AZ' 0 cZ')] 30)).heap.size = w3.heap.size + 1 by simp)
      have hnew := cel3_new w3 (.slice (some ⟨g, 0, none⟩) P cF') (.slice AT' 0 cT') (.slice AZ' 0 cZ') 30
      have BN_4 := Lib.hid hnew
      clear hnew
      have HGA := Lib.hid (show World.ownsRow (w3.alloc (.cells #[(.slice (some ⟨g, 0, none⟩) P cF'), (.slice AT' 0 cT'), (.slice AZ' 0 cZ')] 30)) _ _ _ _ _ _ from HGO.out.alloc _)
      obtain ⟨g2_0, g2_1, g2_2⟩ := BX_4.out
      obtain ⟨g3_0, g3_1, g3_2, g3_3, g3_4, g3_5⟩ := GA_4.out.cells
      obtain ⟨g4_0, g4_1, g4_2, g4_3, g4_4, g4_5⟩ := BN_4.out.cells
      go_wp2_with fail
      clear g2_0 g2_1 g2_2 g3_0 g3_1 g3_2 g3_3 g3_4 g3_5 g4_0 g4_1 g4_2 g4_3 g4_4 g4_5
      generalize (w3.alloc (.cells #[(.slice (some ⟨g, 0, none⟩) P cF'), (.slice AT' 0 cT'), (.slice AZ' 0 cZ')] 30)) = w4 at *
      refine (isBarSet_c (P : Int) l A AZ cap cZ lo hi Z _ HB_4.out.at H_4.out.z hn hZ).mono ?_
      rintro e w5 ⟨rfl, hb⟩
      have Z5 := Lib.hid (within_of hb).size
      have W5 := Lib.hid (within_on W4.out (within_of hb) W4.out.size (.inr (Nat.le_refl _)))
      have HB_5 := Lib.hid (HB_4.out.within (within_of hb) (by omega))
      have H_5 := Lib.hid (H_4.out.within (within_of hb) (by omega))
      have BX_5 := Lib.hid (BX_4.out.within (within_of hb) (by omega))
      have GA_5 := Lib.hid (GA_4.out.within (within_of hb) (by omega))
      have SO_5 := Lib.hid (SO_4.out.within (within_of hb) (by omega))
      have BN_5 := Lib.hid (BN_4.out.within (within_of hb) (by omega))
      have HO_5 := Lib.hid (own_below HGA.out hb)
      clear hb
      rw [HSB.out]
      have HGP := Lib.hid (⟨BX_5.out, GA_5.out, HB_5.out, H_5.out, W5.out⟩ : GP w w5 w.heap.size (w.heap.size + 1) (P : Int) A cap l AF AT AZ cF cT cZ lo hi F T Z)
      have HD := Lib.hid (show DecI w w5 w3.heap.size g cF' (.slice AT' 0 cT') (.slice AZ' 0 cZ') P k T 0 from ⟨HO_5.out, BN_5.out, by omega⟩)
      obtain ⟨g5_0, g5_1, g5_2, g5_3, g5_4, g5_5⟩ := GA_5.out.cells
      obtain ⟨g6_0, g6_1, g6_2, g6_3, g6_4, g6_5⟩ := BN_5.out.cells
      go_wp2_with fail
      clear g5_0 g5_1 g5_2 g5_3 g5_4 g5_5 g6_0 g6_1 g6_2 g6_3 g6_4 g6_5
      clear hne
      have hbn : w.heap.size + 1 < w3.heap.size := by have := Y1.out; have := Y2.out; have := Z3.out; omega
      go_loopw [38] (fun i wr => ∃ j : Nat, j ≤ Z.length ∧ i = .int .i64 j ∧ (∀ u, u < j → OkP l T Z u) ∧ GP w wr w.heap.size (w.heap.size + 1) (P : Int) A cap l AF AT AZ cF cT cZ lo hi F T Z ∧ DecI w wr w3.heap.size g cF' (.slice AT' 0 cT') (.slice AZ' 0 cZ') P k T j) (fun i _ => Z.length - (intOf i).toNat)
      case atStart => exact ⟨0, Nat.zero_le _, rfl, fun u hu => absurd hu (Nat.not_lt_zero _), HGP.out, HD.out⟩
      case round =>
        clear HGP HD
        obtain ⟨j, hj, rfl, hok, hst, hdi⟩ := hrel
        have HOK := Lib.hid hok
        have HS := Lib.hid hst
        have HDI := Lib.hid hdi
        obtain ⟨_, gx0, gx1⟩ := hst.box
        obtain ⟨gc0, gc1, gc2, _, _, _⟩ := hst.st.cells
        obtain ⟨gn0, _, _, _, _, _⟩ := hdi.st.cells
        clear hok hst hdi
        by_cases hlt : j < Z.length
        · skip
          have hji : (j : Int) < (Z.length : Int) := by omega
          have hjt : (j : Int) < (T.length : Int) := by have := HTZ.out; omega
          obtain ⟨zb, zo, rfl, hzc⟩ := row_at HS.out.rows.z (by omega)
          obtain ⟨tb, tq9, rfl, htc⟩ := row_at HS.out.rows.t (by have := HTZ.out; omega)
          have hz := hzc j hlt
          have ht := htc j (by omega)
          have HBAD := Lib.hid (fun h : ¬ OkP l T Z j => isPeb_bad (p := (P : Int)) (k := k) (F := F) hlt h)
          have HNEXT := Lib.hid (fun h : OkP l T Z j => okP_snoc HOK.out h)
          have hsj := HSET.out j hlt
          have hsb := hsj.1
          have HSJ := Lib.hid hsj
          clear hsj
          have HDEF := Lib.hid (show OkP l T Z j ↔ OkS l.length Z j ∧ isEnd (l.getD (Z.getD j 0).toNat (0, 0)) (T.getD j 0) from okP_s)
          have HTD := Lib.hid (show ∀ t : Nat, T.getD j 0 = (t : Int) → t < P → (intCells (decL P k T j)).set t (.int .i64 ((decL P k T j).getD t 0 - 1)) = intCells (decL P k T (j + 1)) from fun t ht hp => decL_step P k T j t (by omega) ht hp)
          obtain ⟨y, hyd⟩ : ∃ y, Z.getD j 0 = y := ⟨_, rfl⟩
          obtain ⟨t, htd⟩ : ∃ t, T.getD j 0 = t := ⟨_, rfl⟩
          rw [hyd] at hz HDEF hsb
          rw [htd] at ht HDEF HTD
          clear hyd htd hzc htc
          obtain ⟨n, rfl⟩ : ∃ n : Nat, y = (n : Int) := ⟨y.toNat, by omega⟩
          have hni : (n : Int) < (l.length : Int) := hsb.2
          obtain ⟨b, off, rfl, hbB, hbc⟩ := HS.out.bars.at (by omega)
          have hx1 := (hbc n (by omega)).1
          have hx2 := (hbc n (by omega)).2
          have hbar := isG_bar HG.out n (by omega)
          obtain ⟨x, hxd⟩ : ∃ x, l.getD n (0, 0) = x := ⟨_, rfl⟩
          rw [hxd] at hx1 hx2 hbar
          rw [Int.toNat_natCast, hxd] at HDEF
          clear hxd hbc
          obtain ⟨x1, x2⟩ := x
          simp only at hx1 hx2 hbar
          have HSD := Lib.hid (HS.out.below (Below.refl _ _).drew)
          have kk : (fun W' => W'.cell? ⟨w.heap.size, 1, none⟩ = some (.slice (some ⟨b, off, none⟩) l.length cap) ∧ W'.cell? ⟨w.heap.size + 1, 1, none⟩ = some (.slice (some ⟨tb, tq9, none⟩) T.length cT) ∧ W'.cell? ⟨tb, tq9 + j, none⟩ = some (.int .i64 t) ∧ W'.cell? ⟨b, off + n * 2, none⟩ = some (.int .i64 x1) ∧ W'.cell? ⟨b, off + n * 2 + 1, none⟩ = some (.int .i64 x2)) wr := ⟨gx1, gc1, ht, hx1, hx2⟩
          have HKK := Lib.hid kk
          clear kk
          have he := endB_is (x1, x2) t
          by_cases c3 : isEnd (x1, x2) t
          · skip
            have HE := Lib.hid (he.2 c3)
            have HN := Lib.hid (HNEXT.out (HDEF.out.2 ⟨HSJ.out, c3⟩))
            obtain ⟨tn, rfl⟩ : ∃ tn : Nat, t = (tn : Int) := ⟨t.toNat, by unfold isEnd at c3; simp only at c3; omega⟩
            have htP : tn < P := by unfold isEnd at c3; simp only at c3; omega
            have HTN := Lib.hid (HTD.out tn rfl htP)
            clear c3 he HTD
            have hlow := (HDI.out.row.lt g rfl).1
            go_wp2_with fail
            go_region_held3 (fun W' => W'.cell? ⟨w.heap.size, 1, none⟩ = some (.slice (some ⟨b, off, none⟩) l.length cap) ∧ W'.cell? ⟨w.heap.size + 1, 1, none⟩ = some (.slice (some ⟨tb, tq9, none⟩) T.length cT) ∧ W'.cell? ⟨tb, tq9 + j, none⟩ = some (.int .i64 (tn : Int)) ∧ W'.cell? ⟨b, off + n * 2, none⟩ = some (.int .i64 x1) ∧ W'.cell? ⟨b, off + n * 2 + 1, none⟩ = some (.int .i64 x2))
              (first | exact HKK.out | exact HK5.out | fail)
              (first | (go_at_call 89; refine (hasEnd_c (tn : Int) (x1, x2) _).mono ?_; rintro e w5 ⟨rfl, hb⟩; rw [HE.out]; have HS5 := Lib.hid (HSD.out.below hb); have HB5 := Lib.hid hb; have HK5 := Lib.hid (show (fun W' => W'.cell? ⟨w.heap.size, 1, none⟩ = some (.slice (some ⟨b, off, none⟩) l.length cap) ∧ W'.cell? ⟨w.heap.size + 1, 1, none⟩ = some (.slice (some ⟨tb, tq9, none⟩) T.length cT) ∧ W'.cell? ⟨tb, tq9 + j, none⟩ = some (.int .i64 (tn : Int)) ∧ W'.cell? ⟨b, off + n * 2, none⟩ = some (.int .i64 x1) ∧ W'.cell? ⟨b, off + n * 2 + 1, none⟩ = some (.int .i64 x2)) w5 from ⟨HS5.out.box.2.2, HS5.out.st.cells.2.1, (hb.cell (p := ⟨tb, tq9 + j, none⟩) (World.block_lt_of_cell? _ _ HKK.out.2.2.1)).trans HKK.out.2.2.1, (hb.cell (p := ⟨b, off + n * 2, none⟩) (World.block_lt_of_cell? _ _ HKK.out.2.2.2.1)).trans HKK.out.2.2.2.1, (hb.cell (p := ⟨b, off + n * 2 + 1, none⟩) (World.block_lt_of_cell? _ _ HKK.out.2.2.2.2)).trans HKK.out.2.2.2.2⟩); clear hb))
            have HD5 := Lib.hid (HDI.out.below ((Below.refl _ _).drew.trans (HB5.out.mono (Nat.le_refl _))))
            obtain ⟨gm0, _, _, _, _, _⟩ := HD5.out.st.cells
            have hc5 := (HD5.out.row.cellAt tn (by omega)).trans (intCells_get _ tn (by rw [decL_len]; exact htP))
            have hf5 := HD5.out.row.frozenAt tn
            obtain ⟨_, gy0, gy1⟩ := HS5.out.box
            obtain ⟨ge0, ge1, ge2, _, _, _⟩ := HS5.out.st.cells
            have ht5 := HK5.out.2.2.1
            have htPi : (tn : Int) < (P : Int) := by omega
            have hdin := decL_get P k T j tn htP
            have hcj : (T.take j).count (tn : Int) ≤ 1048576 := Nat.le_trans (List.count_le_length ..) (by simp; omega)
            obtain ⟨d, hd⟩ : ∃ d, (decL P k T j).getD tn 0 = d := ⟨_, rfl⟩
            rw [hd] at hc5 hdin HTN
            clear hd
            have HTN2 := Lib.hid (show (intCells (decL P k T j)).set tn (.int .i64 (k - ((T.take j).count (tn : Int) : Int) - 1)) = intCells (decL P k T (j + 1)) by rw [← hdin]; exact HTN.out)
            go_wp2_with fail
            go_region
            go_wp2_with fail
            go_roundw
            case rel => exact ⟨j + 1, by omega, by go_num, HN.out, (HS5.out.store g tn _ (by omega) (by omega) (by omega) (by omega)).below (Below.refl _ _).drew, (HD5.out.store tn _ HTN2.out).below (Below.refl _ _).drew⟩
            case measure => simp [intOf]; omega
          have HE := Lib.hid (show endB t (x1, x2) = false by cases e : endB t (x1, x2) with | false => rfl | true => exact absurd (he.1 e) c3)
          have Q := Lib.hid (HBAD.out fun h => c3 (HDEF.out.1 h).2)
          clear c3 he
          go_wp2_with fail
          go_region_held3 (fun W' => W'.cell? ⟨w.heap.size, 1, none⟩ = some (.slice (some ⟨b, off, none⟩) l.length cap) ∧ W'.cell? ⟨w.heap.size + 1, 1, none⟩ = some (.slice (some ⟨tb, tq9, none⟩) T.length cT) ∧ W'.cell? ⟨tb, tq9 + j, none⟩ = some (.int .i64 t) ∧ W'.cell? ⟨b, off + n * 2, none⟩ = some (.int .i64 x1) ∧ W'.cell? ⟨b, off + n * 2 + 1, none⟩ = some (.int .i64 x2))
            (first | exact HKK.out | exact HK5.out | fail)
            (first | (go_at_call 89; refine (hasEnd_c t (x1, x2) _).mono ?_; rintro e w5 ⟨rfl, hb⟩; rw [HE.out]; have HS5 := Lib.hid (HSD.out.below hb); have HB5 := Lib.hid hb; have HK5 := Lib.hid (show (fun W' => W'.cell? ⟨w.heap.size, 1, none⟩ = some (.slice (some ⟨b, off, none⟩) l.length cap) ∧ W'.cell? ⟨w.heap.size + 1, 1, none⟩ = some (.slice (some ⟨tb, tq9, none⟩) T.length cT) ∧ W'.cell? ⟨tb, tq9 + j, none⟩ = some (.int .i64 t) ∧ W'.cell? ⟨b, off + n * 2, none⟩ = some (.int .i64 x1) ∧ W'.cell? ⟨b, off + n * 2 + 1, none⟩ = some (.int .i64 x2)) w5 from ⟨HS5.out.box.2.2, HS5.out.st.cells.2.1, (hb.cell (p := ⟨tb, tq9 + j, none⟩) (World.block_lt_of_cell? _ _ HKK.out.2.2.1)).trans HKK.out.2.2.1, (hb.cell (p := ⟨b, off + n * 2, none⟩) (World.block_lt_of_cell? _ _ HKK.out.2.2.2.1)).trans HKK.out.2.2.2.1, (hb.cell (p := ⟨b, off + n * 2 + 1, none⟩) (World.block_lt_of_cell? _ _ HKK.out.2.2.2.2)).trans HKK.out.2.2.2.2⟩); clear hb))
          go_wp2_with fail
          go_ret
          exact ⟨by rw [Q.out]; rfl, HS5.out.bel⟩
        · obtain rfl : j = Z.length := by omega
          have HDC := Lib.hid (HDEC.out HOK.out)
          have hfin := HDI.out.row
          rw [show intCells (decL P k T Z.length) = intCells (decL P k T T.length) by rw [HTZ.out]] at hfin
          have HOI := Lib.hid (show IntsIn wr (w.heap.size + 1 + 1) wr.heap.size (some ⟨g, 0, none⟩) (decL P k T T.length) from (own_ints' (zs := decL P k T T.length) (by rw [decL_len]; exact hfin)).reads)
          clear hfin
          go_wp2_with fail
          have heq := slEqual F (decL P k T T.length) AF (some ⟨g, 0, none⟩) cF cF' lo hi _ _ _ HS.out.rows.f HOI.out hF
          rw [decL_len] at heq
          refine heq.mono ?_
          rintro e w5 ⟨rfl, hb⟩
          clear heq
          have HS5 := Lib.hid (HS.out.below hb)
          obtain ⟨gd0, gd1, gd2, _, _, _⟩ := HS5.out.st.cells
          clear hb
          by_cases c1 : F = decL P k T T.length
          · skip
            have d1 : decide (F = decL P k T T.length) = true := decide_eq_true c1
            have HF1 := Lib.hid (show F.length = P by rw [c1, decL_len])
            rw [d1] at HDC ⊢
            clear c1 d1
            go_wp2_with fail
            refine (slMin F AF cF lo hi _ HS5.out.rows.f hF (by have := HF1.out; omega)).mono ?_
            rintro e w6 ⟨y, rfl, hy, rfl⟩
            by_cases c2 : 0 ≤ y
            all_goals
              first
                | (have HY := Lib.hid (show decide (∀ j, j < F.length → 0 ≤ F.getD j 0) = true from decide_eq_true (hy.1 c2)))
                | (have HY := Lib.hid (show decide (∀ j, j < F.length → 0 ≤ F.getD j 0) = false from decide_eq_false fun h => c2 (hy.2 h)))
              clear hy
              go_wp2_with fail
              go_ret
              exact ⟨by rw [HDC.out, HY.out]; try simp; try omega, HS5.out.bel⟩
          have d1 : decide (F = decL P k T T.length) = false := decide_eq_false c1
          rw [d1] at HDC ⊢
          clear c1 d1
          go_wp2_with fail
          go_ret
          exact ⟨by rw [HDC.out]; rfl, HS5.out.bel⟩
end Go.Proofs.Ytgmcibcjplncaaa
/- What impl.PlaceBar answers. No condition. -/
namespace Go.Proofs.Ytgmcibcjplncaaa
open Go.RowKit

set_option maxHeartbeats 8000000 in
set_option maxRecDepth 100000 in
theorem implPlaP (p k c : Int) (l : List (Int × Int)) (A : Option Addr) (cap : Nat) (AF AT AZ : Option Addr) (cF cT cZ lo hi : Nat) (F T Z : List Int) (n : Int) (w : World) (hl : BarsAt w w.heap.size A l) (h : Peb3 w lo hi AF AT AZ F T Z) (hn : l.length ≤ 1048576) (hF : F.length ≤ 1048576) (hT : T.length ≤ 1048576) (hZ : Z.length ≤ 1048576) :
    Calls Try.prog 29 #[.agg #[.int .i64 p, .slice A l.length cap], .int .i64 k, .int .i64 c, pebV AF F.length cF AT T.length cT AZ Z.length cZ, .int .i64 n] w (PebOB w ((plaV p k c l F T Z n).getD (F, T, Z)).1 ((plaV p k c l F T Z n).getD (F, T, Z)).2.1 ((plaV p k c l F T Z n).getD (F, T, Z)).2.2 (plaV p k c l F T Z n).isSome) := by
  by_cases c1 : isPebB p k l F T Z = true
  case neg =>
    have c1' : isPebB p k l F T Z = false := by simpa using c1
    have HB := Lib.hid c1'
    clear c1'
    have HI0 := Lib.hid (GtI.start w p A cap l AF AT AZ cF cT cZ lo hi F T Z hl h)
    have hs3 : (((w.alloc (.cells #[.int .i64 p, .slice A l.length cap] 35)).alloc (.cells #[.slice AF F.length cF, .slice AT T.length cT, .slice AZ Z.length cZ] 30)).alloc (.cells #[.slice none 0 0, .slice none 0 0, .slice none 0 0] 30)).heap.size = w.heap.size + 3 := by simp
    have HS3 := Lib.hid hs3
    obtain ⟨x0, x1, x2, _, _, _⟩ := HI0.out.pb.cells
    clear hl h hs3
    have HN := Lib.hid (show plaV p k c l F T Z n = none from if_neg (fun q => by exact c1 q.1))
    go_enter Try.func29, Try.ntmps29
    go_wp2_with (first
      | (go_at_call 40; refine (implIsPeb p k l A cap AF AT AZ cF cT cZ lo hi F T Z _ HI5.out.bars.at HI5.out.src hn hF hT hZ).mono ?_; rintro e w6 ⟨rfl, hb6⟩; rw [HB.out]; have HI6 := Lib.hid (HI5.out.below hb6); have OB6 := Lib.hid (OB5.out.kept hb6); have HF6 := Lib.hid (HF5.out.below hb6); have hz6 := hb6.size; obtain ⟨_, u0, u1⟩ := HI6.out.gb; obtain ⟨u2, u3, u4, _, _, _⟩ := HI6.out.pb.cells; obtain ⟨q0, q1, q2, _, _, _⟩ := OB6.out.cells; obtain ⟨_, _, _, f0, f1, f2⟩ := HI6.out.rb.cells; have r3 := ret3 HI6.out.rb (.slice BF F.length dF) (.slice BT T.length dT) (.slice BZ Z.length dZ); obtain ⟨s0, s1, s2, _⟩ := r3.1.cells; have HW := Lib.hid r3.2; clear r3 hb6 v0 v1 v2 v3 v4 b0 b1 b2)
      | (go_at_call 76; refine (clonePeb_r AF AT AZ cF cT cZ lo hi F T Z _ HI0.out.src hF hT hZ).mono ?_; rintro e w4 ⟨BF, dF, BT, dT, BZ, dZ, rfl, ho, hb⟩; have hb5 := new_below w4 (.cells #[.slice BF F.length dF, .slice BT T.length dT, .slice BZ Z.length dZ] 30); have HI5 := Lib.hid ((HI0.out.below hb).below hb5); have OB5 := Lib.hid (cel3_new w4 (.slice BF F.length dF) (.slice BT T.length dT) (.slice BZ Z.length dZ) 30); obtain ⟨f, t, z, hof, y1, y2, y3⟩ := ho.ownF; have HF5 := Lib.hid (hof.below hb5); have HLO := Lib.hid (show w.heap.size + 3 ≤ w4.heap.size from by have := HS3.out; have := hb.size; omega); have HLY := Lib.hid (show (w.heap.size + 3 ≤ f.1 ∧ f.2 ≤ w4.heap.size) ∧ (w.heap.size + 3 ≤ t.1 ∧ t.2 ≤ w4.heap.size) ∧ (w.heap.size + 3 ≤ z.1 ∧ z.2 ≤ w4.heap.size) from by have := HS3.out; omega); obtain ⟨_, v0, v1⟩ := HI5.out.gb; obtain ⟨v2, v3, v4, _, _, _⟩ := HI5.out.pb.cells; obtain ⟨b0, b1, b2, _, _, _⟩ := OB5.out.cells; clear ho hb hb5 hof y1 y2 y3 x0 x1 x2))
    rw [HN.out]
    refine bodyPost_ret (v := .tuple #[pebV BF F.length dF BT T.length dT BZ Z.length dZ, .bool false]) ?_ rfl ?_
    · simp [results, Try.results29, go_sem, s0, s1, s2]
    · have hg := HI6.out.bel
      have hlo := HLO.out
      have hy := HLY.out
      have hsw := HW.out.size
      have hlt6 := OB6.out.lt
      have ho := HF6.out.own3 hy.1 hy.2.1 hy.2.2 (by omega)
      exact ⟨_, _, _, _, _, _, rfl, (ho.within HW.out (.inr (by omega))).widen (by omega) (by omega) (Nat.le_refl _), within_on hg HW.out hg.size (.inl (by omega))⟩
  have HB := Lib.hid c1
  have hp := isPebB_is c1
  obtain rfl : p = (F.length : Int) := hp.2.2.1.symm
  have HP := Lib.hid hp
  have hF8 := hp.1.1
  have hk3 := hp.2.1
  clear hp c1
  have HHI0 := Lib.hid h.f.1
  have HI0 := Lib.hid (GtI.start w (F.length : Int) A cap l AF AT AZ cF cT cZ lo hi F T Z hl h)
  have hs3 : (((w.alloc (.cells #[.int .i64 (F.length : Int), .slice A l.length cap] 35)).alloc (.cells #[.slice AF F.length cF, .slice AT T.length cT, .slice AZ Z.length cZ] 30)).alloc (.cells #[.slice none 0 0, .slice none 0 0, .slice none 0 0] 30)).heap.size = w.heap.size + 3 := by simp
  have HS3 := Lib.hid hs3
  obtain ⟨x0, x1, x2, _, _, _⟩ := HI0.out.pb.cells
  clear hl h hs3
  by_cases c2 : rangeB k c = true
  case neg =>
    have c2' : rangeB k c = false := by simpa using c2
    have HRG := Lib.hid c2'
    clear c2'
    have HN := Lib.hid (show plaV (F.length : Int) k c l F T Z n = none from if_neg (fun q => by exact c2 q.2.1))
    go_enter Try.func29, Try.ntmps29
    go_wp2_with (first
      | (go_at_call 82; refine (implRange k c _).mono ?_; rintro e w9 ⟨rfl, rfl⟩; rw [HRG.out])
      | (go_at_call 40; refine (implIsPeb (F.length : Int) k l A cap AF AT AZ cF cT cZ lo hi F T Z _ HI5.out.bars.at HI5.out.src hn hF hT hZ).mono ?_; rintro e w6 ⟨rfl, hb6⟩; rw [HB.out]; have HI6 := Lib.hid (HI5.out.below hb6); have OB6 := Lib.hid (OB5.out.kept hb6); have HF6 := Lib.hid (HF5.out.below hb6); have hz6 := hb6.size; obtain ⟨_, u0, u1⟩ := HI6.out.gb; obtain ⟨u2, u3, u4, _, _, _⟩ := HI6.out.pb.cells; obtain ⟨q0, q1, q2, _, _, _⟩ := OB6.out.cells; obtain ⟨_, _, _, f0, f1, f2⟩ := HI6.out.rb.cells; have r3 := ret3 HI6.out.rb (.slice BF F.length dF) (.slice BT T.length dT) (.slice BZ Z.length dZ); obtain ⟨s0, s1, s2, _⟩ := r3.1.cells; have HW := Lib.hid r3.2; clear r3 hb6 v0 v1 v2 v3 v4 b0 b1 b2)
      | (go_at_call 76; refine (clonePeb_r AF AT AZ cF cT cZ lo hi F T Z _ HI0.out.src hF hT hZ).mono ?_; rintro e w4 ⟨BF, dF, BT, dT, BZ, dZ, rfl, ho, hb⟩; have hb5 := new_below w4 (.cells #[.slice BF F.length dF, .slice BT T.length dT, .slice BZ Z.length dZ] 30); have HI5 := Lib.hid ((HI0.out.below hb).below hb5); have OB5 := Lib.hid (cel3_new w4 (.slice BF F.length dF) (.slice BT T.length dT) (.slice BZ Z.length dZ) 30); obtain ⟨f, t, z, hof, y1, y2, y3⟩ := ho.ownF; have HF5 := Lib.hid (hof.below hb5); have HLO := Lib.hid (show w.heap.size + 3 ≤ w4.heap.size from by have := HS3.out; have := hb.size; omega); have HLY := Lib.hid (show (w.heap.size + 3 ≤ f.1 ∧ f.2 ≤ w4.heap.size) ∧ (w.heap.size + 3 ≤ t.1 ∧ t.2 ≤ w4.heap.size) ∧ (w.heap.size + 3 ≤ z.1 ∧ z.2 ≤ w4.heap.size) from by have := HS3.out; omega); obtain ⟨_, v0, v1⟩ := HI5.out.gb; obtain ⟨v2, v3, v4, _, _, _⟩ := HI5.out.pb.cells; obtain ⟨b0, b1, b2, _, _, _⟩ := OB5.out.cells; clear ho hb hb5 hof y1 y2 y3 x0 x1 x2))
    rw [HN.out]
    refine bodyPost_ret (v := .tuple #[pebV BF F.length dF BT T.length dT BZ Z.length dZ, .bool false]) ?_ rfl ?_
    · simp [results, Try.results29, go_sem, s0, s1, s2]
    · have hg := HI6.out.bel
      have hlo := HLO.out
      have hy := HLY.out
      have hsw := HW.out.size
      have hlt6 := OB6.out.lt
      have ho := HF6.out.own3 hy.1 hy.2.1 hy.2.2 (by omega)
      exact ⟨_, _, _, _, _, _, rfl, (ho.within HW.out (.inr (by omega))).widen (by omega) (by omega) (Nat.le_refl _), within_on hg HW.out hg.size (.inl (by omega))⟩
  have HRG := Lib.hid c2
  by_cases c3 : 0 ≤ n
  case neg =>
    have c3' : n < 0 := by omega
    have HN := Lib.hid (show plaV (F.length : Int) k c l F T Z n = none from if_neg (fun q => by exact c3 q.2.2.1.1))
    go_enter Try.func29, Try.ntmps29
    go_wp2_with (first
      | (go_at_call 82; refine (implRange k c _).mono ?_; rintro e w9 ⟨rfl, rfl⟩; rw [HRG.out])
      | (go_at_call 40; refine (implIsPeb (F.length : Int) k l A cap AF AT AZ cF cT cZ lo hi F T Z _ HI5.out.bars.at HI5.out.src hn hF hT hZ).mono ?_; rintro e w6 ⟨rfl, hb6⟩; rw [HB.out]; have HI6 := Lib.hid (HI5.out.below hb6); have OB6 := Lib.hid (OB5.out.kept hb6); have HF6 := Lib.hid (HF5.out.below hb6); have hz6 := hb6.size; obtain ⟨_, u0, u1⟩ := HI6.out.gb; obtain ⟨u2, u3, u4, _, _, _⟩ := HI6.out.pb.cells; obtain ⟨q0, q1, q2, _, _, _⟩ := OB6.out.cells; obtain ⟨_, _, _, f0, f1, f2⟩ := HI6.out.rb.cells; have r3 := ret3 HI6.out.rb (.slice BF F.length dF) (.slice BT T.length dT) (.slice BZ Z.length dZ); obtain ⟨s0, s1, s2, _⟩ := r3.1.cells; have HW := Lib.hid r3.2; clear r3 hb6 v0 v1 v2 v3 v4 b0 b1 b2)
      | (go_at_call 76; refine (clonePeb_r AF AT AZ cF cT cZ lo hi F T Z _ HI0.out.src hF hT hZ).mono ?_; rintro e w4 ⟨BF, dF, BT, dT, BZ, dZ, rfl, ho, hb⟩; have hb5 := new_below w4 (.cells #[.slice BF F.length dF, .slice BT T.length dT, .slice BZ Z.length dZ] 30); have HI5 := Lib.hid ((HI0.out.below hb).below hb5); have OB5 := Lib.hid (cel3_new w4 (.slice BF F.length dF) (.slice BT T.length dT) (.slice BZ Z.length dZ) 30); obtain ⟨f, t, z, hof, y1, y2, y3⟩ := ho.ownF; have HF5 := Lib.hid (hof.below hb5); have HLO := Lib.hid (show w.heap.size + 3 ≤ w4.heap.size from by have := HS3.out; have := hb.size; omega); have HLY := Lib.hid (show (w.heap.size + 3 ≤ f.1 ∧ f.2 ≤ w4.heap.size) ∧ (w.heap.size + 3 ≤ t.1 ∧ t.2 ≤ w4.heap.size) ∧ (w.heap.size + 3 ≤ z.1 ∧ z.2 ≤ w4.heap.size) from by have := HS3.out; omega); obtain ⟨_, v0, v1⟩ := HI5.out.gb; obtain ⟨v2, v3, v4, _, _, _⟩ := HI5.out.pb.cells; obtain ⟨b0, b1, b2, _, _, _⟩ := OB5.out.cells; clear ho hb hb5 hof y1 y2 y3 x0 x1 x2))
    rw [HN.out]
    refine bodyPost_ret (v := .tuple #[pebV BF F.length dF BT T.length dT BZ Z.length dZ, .bool false]) ?_ rfl ?_
    · simp [results, Try.results29, go_sem, s0, s1, s2]
    · have hg := HI6.out.bel
      have hlo := HLO.out
      have hy := HLY.out
      have hsw := HW.out.size
      have hlt6 := OB6.out.lt
      have ho := HF6.out.own3 hy.1 hy.2.1 hy.2.2 (by omega)
      exact ⟨_, _, _, _, _, _, rfl, (ho.within HW.out (.inr (by omega))).widen (by omega) (by omega) (Nat.le_refl _), within_on hg HW.out hg.size (.inl (by omega))⟩
  have c3' : ¬ n < 0 := by omega
  by_cases c4 : n < (l.length : Int)
  case neg =>
    have c4' : (l.length : Int) ≤ n := by omega
    have HN := Lib.hid (show plaV (F.length : Int) k c l F T Z n = none from if_neg (fun q => by exact c4 q.2.2.1.2))
    go_enter Try.func29, Try.ntmps29
    go_wp2_with (first
      | (go_at_call 82; refine (implRange k c _).mono ?_; rintro e w9 ⟨rfl, rfl⟩; rw [HRG.out])
      | (go_at_call 40; refine (implIsPeb (F.length : Int) k l A cap AF AT AZ cF cT cZ lo hi F T Z _ HI5.out.bars.at HI5.out.src hn hF hT hZ).mono ?_; rintro e w6 ⟨rfl, hb6⟩; rw [HB.out]; have HI6 := Lib.hid (HI5.out.below hb6); have OB6 := Lib.hid (OB5.out.kept hb6); have HF6 := Lib.hid (HF5.out.below hb6); have hz6 := hb6.size; obtain ⟨_, u0, u1⟩ := HI6.out.gb; obtain ⟨u2, u3, u4, _, _, _⟩ := HI6.out.pb.cells; obtain ⟨q0, q1, q2, _, _, _⟩ := OB6.out.cells; obtain ⟨_, _, _, f0, f1, f2⟩ := HI6.out.rb.cells; have r3 := ret3 HI6.out.rb (.slice BF F.length dF) (.slice BT T.length dT) (.slice BZ Z.length dZ); obtain ⟨s0, s1, s2, _⟩ := r3.1.cells; have HW := Lib.hid r3.2; clear r3 hb6 v0 v1 v2 v3 v4 b0 b1 b2)
      | (go_at_call 76; refine (clonePeb_r AF AT AZ cF cT cZ lo hi F T Z _ HI0.out.src hF hT hZ).mono ?_; rintro e w4 ⟨BF, dF, BT, dT, BZ, dZ, rfl, ho, hb⟩; have hb5 := new_below w4 (.cells #[.slice BF F.length dF, .slice BT T.length dT, .slice BZ Z.length dZ] 30); have HI5 := Lib.hid ((HI0.out.below hb).below hb5); have OB5 := Lib.hid (cel3_new w4 (.slice BF F.length dF) (.slice BT T.length dT) (.slice BZ Z.length dZ) 30); obtain ⟨f, t, z, hof, y1, y2, y3⟩ := ho.ownF; have HF5 := Lib.hid (hof.below hb5); have HLO := Lib.hid (show w.heap.size + 3 ≤ w4.heap.size from by have := HS3.out; have := hb.size; omega); have HLY := Lib.hid (show (w.heap.size + 3 ≤ f.1 ∧ f.2 ≤ w4.heap.size) ∧ (w.heap.size + 3 ≤ t.1 ∧ t.2 ≤ w4.heap.size) ∧ (w.heap.size + 3 ≤ z.1 ∧ z.2 ≤ w4.heap.size) from by have := HS3.out; omega); obtain ⟨_, v0, v1⟩ := HI5.out.gb; obtain ⟨v2, v3, v4, _, _, _⟩ := HI5.out.pb.cells; obtain ⟨b0, b1, b2, _, _, _⟩ := OB5.out.cells; clear ho hb hb5 hof y1 y2 y3 x0 x1 x2))
    rw [HN.out]
    refine bodyPost_ret (v := .tuple #[pebV BF F.length dF BT T.length dT BZ Z.length dZ, .bool false]) ?_ rfl ?_
    · simp [results, Try.results29, go_sem, s0, s1, s2]
    · have hg := HI6.out.bel
      have hlo := HLO.out
      have hy := HLY.out
      have hsw := HW.out.size
      have hlt6 := OB6.out.lt
      have ho := HF6.out.own3 hy.1 hy.2.1 hy.2.2 (by omega)
      exact ⟨_, _, _, _, _, _, rfl, (ho.within HW.out (.inr (by omega))).widen (by omega) (by omega) (Nat.le_refl _), within_on hg HW.out hg.size (.inl (by omega))⟩
  have c4' : ¬ (l.length : Int) ≤ n := by omega
  obtain ⟨nn, rfl⟩ : ∃ nn : Nat, n = (nn : Int) := ⟨n.toNat, by omega⟩
  by_cases c5 : Z ≠ [] → Z.getD (Z.length - 1) 0 < (nn : Int)
  case neg =>
    have hne : Z ≠ [] := fun e => c5 (fun h => absurd e h)
    have hle : ¬ Z.getD (Z.length - 1) 0 < (nn : Int) := fun h => c5 (fun _ => h)
    have hzp0 : 0 < Z.length := List.length_pos_iff.2 hne
    have hzp : 0 < Z.length := by omega
    have hzd : (0 : Int) < (Z.length : Int) := by omega
    have hzd2 : decide ((0 : Int) < (Z.length : Int)) = true := decide_eq_true hzd
    obtain ⟨zb, zo, rfl, _, _, hzc⟩ := HI0.out.src.z.2 hzp
    have hzl0 : ∀ W : World, GtI w W (F.length : Int) A cap l AF AT (some ⟨zb, zo, none⟩) cF cT cZ lo hi F T Z → W.cell? ⟨zb, zo + (Z.length - 1), none⟩ = some (.int .i64 (Z.getD (Z.length - 1) 0)) := fun W hh => by
      obtain ⟨b', o', e', _, _, hc'⟩ := hh.src.z.2 hzp
      cases e'
      exact hc' (Z.length - 1) (by omega)
    have hzi : ((Z.length : Int) - 1) = ((Z.length - 1 : Nat) : Int) := by omega
    have hzi2 : ((Z.length - 1 : Nat) : Int) < (Z.length : Int) := by omega
    obtain ⟨zl, hzl1⟩ : ∃ zl, Z.getD (Z.length - 1) 0 = zl := ⟨_, rfl⟩
    rw [hzl1] at hzl0
    have HZL0 := Lib.hid hzl0
    clear hzc hzl0
    rw [hzl1] at hle
    have hle2 : (nn : Int) ≤ zl := by omega
    have HZL := Lib.hid hzl1
    clear hzl1 hne c5
    have HN := Lib.hid (show plaV (F.length : Int) k c l F T Z (nn : Int) = none from if_neg (fun q => by have h1 := q.2.2.2 (by intro e; rw [e] at hzp; simp at hzp); rw [HZL.out] at h1; omega))
    go_enter Try.func29, Try.ntmps29
    go_wp2_with (first
      | (go_at_call 82; refine (implRange k c _).mono ?_; rintro e w9 ⟨rfl, rfl⟩; rw [HRG.out])
      | (go_at_call 40; refine (implIsPeb (F.length : Int) k l A cap AF AT (some ⟨zb, zo, none⟩) cF cT cZ lo hi F T Z _ HI5.out.bars.at HI5.out.src hn hF hT hZ).mono ?_; rintro e w6 ⟨rfl, hb6⟩; rw [HB.out]; have HI6 := Lib.hid (HI5.out.below hb6); have OB6 := Lib.hid (OB5.out.kept hb6); have HF6 := Lib.hid (HF5.out.below hb6); have hz6 := hb6.size; obtain ⟨_, u0, u1⟩ := HI6.out.gb; obtain ⟨u2, u3, u4, _, _, _⟩ := HI6.out.pb.cells; obtain ⟨q0, q1, q2, _, _, _⟩ := OB6.out.cells; obtain ⟨_, _, _, f0, f1, f2⟩ := HI6.out.rb.cells; have r3 := ret3 HI6.out.rb (.slice BF F.length dF) (.slice BT T.length dT) (.slice BZ Z.length dZ); obtain ⟨s0, s1, s2, _⟩ := r3.1.cells; have HW := Lib.hid r3.2; have hzl := HZL0.out w6 HI6.out; clear r3 hb6 v0 v1 v2 v3 v4 b0 b1 b2)
      | (go_at_call 76; refine (clonePeb_r AF AT (some ⟨zb, zo, none⟩) cF cT cZ lo hi F T Z _ HI0.out.src hF hT hZ).mono ?_; rintro e w4 ⟨BF, dF, BT, dT, BZ, dZ, rfl, ho, hb⟩; have hb5 := new_below w4 (.cells #[.slice BF F.length dF, .slice BT T.length dT, .slice BZ Z.length dZ] 30); have HI5 := Lib.hid ((HI0.out.below hb).below hb5); have OB5 := Lib.hid (cel3_new w4 (.slice BF F.length dF) (.slice BT T.length dT) (.slice BZ Z.length dZ) 30); obtain ⟨f, t, z, hof, y1, y2, y3⟩ := ho.ownF; have HF5 := Lib.hid (hof.below hb5); have HLO := Lib.hid (show w.heap.size + 3 ≤ w4.heap.size from by have := HS3.out; have := hb.size; omega); have HLY := Lib.hid (show (w.heap.size + 3 ≤ f.1 ∧ f.2 ≤ w4.heap.size) ∧ (w.heap.size + 3 ≤ t.1 ∧ t.2 ≤ w4.heap.size) ∧ (w.heap.size + 3 ≤ z.1 ∧ z.2 ≤ w4.heap.size) from by have := HS3.out; omega); obtain ⟨_, v0, v1⟩ := HI5.out.gb; obtain ⟨v2, v3, v4, _, _, _⟩ := HI5.out.pb.cells; obtain ⟨b0, b1, b2, _, _, _⟩ := OB5.out.cells; clear ho hb hb5 hof y1 y2 y3 x0 x1 x2))
    rw [HN.out]
    refine bodyPost_ret (v := .tuple #[pebV BF F.length dF BT T.length dT BZ Z.length dZ, .bool false]) ?_ rfl ?_
    · simp [results, Try.results29, go_sem, s0, s1, s2]
    · have hg := HI6.out.bel
      have hlo := HLO.out
      have hy := HLY.out
      have hsw := HW.out.size
      have hlt6 := OB6.out.lt
      have ho := HF6.out.own3 hy.1 hy.2.1 hy.2.2 (by omega)
      exact ⟨_, _, _, _, _, _, rfl, (ho.within HW.out (.inr (by omega))).widen (by omega) (by omega) (Nat.le_refl _), within_on hg HW.out hg.size (.inl (by omega))⟩
  have HV := Lib.hid (show plaV (F.length : Int) k c l F T Z (nn : Int) = plaR l c F T Z (nn : Int) from if_pos ⟨HB.out, HRG.out, ⟨c3, c4⟩, c5⟩)
  have hrg := HRG.out
  unfold rangeB at hrg
  simp only [Bool.and_eq_true, decide_eq_true_eq] at hrg
  have HHI := Lib.hid (show hi ≤ w.heap.size from HHI0.out)
  by_cases c6 : 0 < Z.length
  · have hlt0 := c5 (by intro e; rw [e] at c6; simp at c6)
    have hzp : 0 < Z.length := by omega
    have hzd : (0 : Int) < (Z.length : Int) := by omega
    have hzd2 : decide ((0 : Int) < (Z.length : Int)) = true := decide_eq_true hzd
    obtain ⟨zb, zo, rfl, _, _, hzc⟩ := HI0.out.src.z.2 hzp
    have hzl0 : ∀ W : World, GtI w W (F.length : Int) A cap l AF AT (some ⟨zb, zo, none⟩) cF cT cZ lo hi F T Z → W.cell? ⟨zb, zo + (Z.length - 1), none⟩ = some (.int .i64 (Z.getD (Z.length - 1) 0)) := fun W hh => by
      obtain ⟨b', o', e', _, _, hc'⟩ := hh.src.z.2 hzp
      cases e'
      exact hc' (Z.length - 1) (by omega)
    have hzi : ((Z.length : Int) - 1) = ((Z.length - 1 : Nat) : Int) := by omega
    have hzi2 : ((Z.length - 1 : Nat) : Int) < (Z.length : Int) := by omega
    obtain ⟨zl, hzl1⟩ : ∃ zl, Z.getD (Z.length - 1) 0 = zl := ⟨_, rfl⟩
    rw [hzl1] at hzl0
    have HZL0 := Lib.hid hzl0
    clear hzc hzl0
    rw [hzl1] at hlt0
    have hle2 : ¬ (nn : Int) ≤ zl := by omega
    clear hzl1 c5
    go_enter Try.func29, Try.ntmps29
    go_wp2_with (first
      | (go_at_call 82; refine (implRange k c _).mono ?_; rintro e w9 ⟨rfl, rfl⟩; rw [HRG.out])
      | (go_at_call 40; refine (implIsPeb (F.length : Int) k l A cap AF AT (some ⟨zb, zo, none⟩) cF cT cZ lo hi F T Z _ HI5.out.bars.at HI5.out.src hn hF hT hZ).mono ?_; rintro e w6 ⟨rfl, hb6⟩; rw [HB.out]; have HI6 := Lib.hid (HI5.out.below hb6); have OB6 := Lib.hid (OB5.out.kept hb6); have HF6 := Lib.hid (HF5.out.below hb6); have hz6 := hb6.size; obtain ⟨_, u0, u1⟩ := HI6.out.gb; obtain ⟨u2, u3, u4, _, _, _⟩ := HI6.out.pb.cells; obtain ⟨q0, q1, q2, _, _, _⟩ := OB6.out.cells; obtain ⟨_, _, _, f0, f1, f2⟩ := HI6.out.rb.cells; have r3 := ret3 HI6.out.rb (.slice BF F.length dF) (.slice BT T.length dT) (.slice BZ Z.length dZ); obtain ⟨s0, s1, s2, _⟩ := r3.1.cells; have HW := Lib.hid r3.2; have hzl := HZL0.out w6 HI6.out; clear r3 hb6 v0 v1 v2 v3 v4 b0 b1 b2)
      | (go_at_call 76; refine (clonePeb_r AF AT (some ⟨zb, zo, none⟩) cF cT cZ lo hi F T Z _ HI0.out.src hF hT hZ).mono ?_; rintro e w4 ⟨BF, dF, BT, dT, BZ, dZ, rfl, ho, hb⟩; have hb5 := new_below w4 (.cells #[.slice BF F.length dF, .slice BT T.length dT, .slice BZ Z.length dZ] 30); have HI5 := Lib.hid ((HI0.out.below hb).below hb5); have OB5 := Lib.hid (cel3_new w4 (.slice BF F.length dF) (.slice BT T.length dT) (.slice BZ Z.length dZ) 30); obtain ⟨f, t, z, hof, y1, y2, y3⟩ := ho.ownF; have HF5 := Lib.hid (hof.below hb5); have HLO := Lib.hid (show w.heap.size + 3 ≤ w4.heap.size from by have := HS3.out; have := hb.size; omega); have HLY := Lib.hid (show (w.heap.size + 3 ≤ f.1 ∧ f.2 ≤ w4.heap.size) ∧ (w.heap.size + 3 ≤ t.1 ∧ t.2 ≤ w4.heap.size) ∧ (w.heap.size + 3 ≤ z.1 ∧ z.2 ≤ w4.heap.size) from by have := HS3.out; omega); obtain ⟨_, v0, v1⟩ := HI5.out.gb; obtain ⟨v2, v3, v4, _, _, _⟩ := HI5.out.pb.cells; obtain ⟨b0, b1, b2, _, _, _⟩ := OB5.out.cells; clear ho hb hb5 hof y1 y2 y3 x0 x1 x2))
    clear u0 u1 u2 u3 u4 q0 q1 q2 f0 f1 f2 s0 s1 s2
    clear HW
    obtain ⟨t', z', HN6, m1, m2, m3, m4, m5, m6⟩ := HF6.out.norm (B := w.heap.size + 3) (pb := w4.heap.size) (by have := HLO.out; have := OB6.out.lt; omega) OB6.out.lt HLY.out.2.1.1 HLY.out.2.2.1 (.inr HLY.out.2.1.2) (.inr HLY.out.2.2.2)
    refine (place_c F.length k l A cap w4.heap.size (w.heap.size + 3) f t' z' BF BT BZ dF dT dZ F T Z c nn _ HP.out (by omega) (by omega) (HI6.out.bars.widen (Nat.le_refl _) (by omega) (by have := HLO.out; have := OB6.out.lt; omega)) OB6.out HN6 ⟨by have := HLO.out; have := OB6.out.lt; omega, HLO.out, HLY.out.1.1, m1, m2⟩ (.inr HLY.out.1.2) m3 m4 m5 m6).mono ?_
    rintro e w7 ⟨hbl, ⟨rfl, hpv, hof, hcel⟩ | ⟨s, AT', cT', AZ', cZ', t2, z2, rfl, hpv, hof, hcel, ht2, hz2⟩⟩
    · skip
      have HI7 := Lib.hid (HI6.out.within (within_low hbl) (Nat.le_refl _) (by have := HHI.out; omega))
      have HBL := Lib.hid hbl
      have HM := Lib.hid (And.intro m1 m2)
      clear hbl m1 m2 m3 m4 m5 m6 HN6
      have HN := Lib.hid (HV.out.trans hpv)
      have HO7 := Lib.hid hof
      obtain ⟨q0, q1, q2, _, _, _⟩ := hcel.cells
      obtain ⟨_, _, _, f0, f1, f2⟩ := HI7.out.rb.cells
      have r3 := ret3 HI7.out.rb (.slice BF F.length dF) (.slice BT T.length dT) (.slice BZ Z.length dZ)
      obtain ⟨s0, s1, s2, _⟩ := r3.1.cells
      have HW := Lib.hid r3.2
      clear r3 hof hcel hpv
      go_wp2_with fail
      rw [HN.out]
      refine bodyPost_ret (v := .tuple #[pebV BF F.length dF BT T.length dT BZ Z.length dZ, .bool false]) ?_ rfl ?_
      · simp [results, Try.results29, go_sem, s0, s1, s2]
      · have hg := HI7.out.bel
        have hy := HLY.out
        have hm := HM.out
        have hsw := HW.out.size
        have ho := HO7.out.own3 (lo := w.heap.size + 3) (hi := w7.heap.size) ⟨hy.1.1, HO7.out.hi.1⟩ ⟨hm.1, HO7.out.hi.2.1⟩ ⟨hm.2, HO7.out.hi.2.2⟩ (Nat.le_refl _)
        exact ⟨_, _, _, _, _, _, rfl, (ho.within HW.out (.inr (Nat.le_refl _))).widen (by omega) (by omega) (Nat.le_refl _), within_on hg HW.out hg.size (.inl (by omega))⟩
    · skip
      have HI7 := Lib.hid (HI6.out.within (within_low hbl) (Nat.le_refl _) (by have := HHI.out; omega))
      have HBL := Lib.hid hbl
      have HM := Lib.hid (And.intro m1 m2)
      clear hbl m1 m2 m3 m4 m5 m6 HN6
      have HN := Lib.hid (HV.out.trans hpv)
      have HO7 := Lib.hid hof
      have HTZ := Lib.hid (And.intro ht2 hz2)
      obtain ⟨q0, q1, q2, _, _, _⟩ := hcel.cells
      obtain ⟨_, _, _, f0, f1, f2⟩ := HI7.out.rb.cells
      have r3 := ret3 HI7.out.rb (.slice BF s.1.length dF) (.slice AT' s.2.1.length cT') (.slice AZ' s.2.2.length cZ')
      obtain ⟨s0, s1, s2, _⟩ := r3.1.cells
      have HW := Lib.hid r3.2
      clear r3 hof hcel hpv ht2 hz2
      go_wp2_with fail
      rw [HN.out]
      refine bodyPost_ret (v := .tuple #[pebV BF s.1.length dF AT' s.2.1.length cT' AZ' s.2.2.length cZ', .bool true]) ?_ rfl ?_
      · simp [results, Try.results29, go_sem, s0, s1, s2]
      · have hg := HI7.out.bel
        have hy := HLY.out
        have hm := HM.out
        have hsw := HW.out.size
        have hlo := HLO.out
        have hlt := OB6.out.lt
        have htz := HTZ.out
        have ho := HO7.out.own3 (lo := w.heap.size + 3) (hi := w7.heap.size) ⟨hy.1.1, HO7.out.hi.1⟩ ⟨by rcases htz.1 with h | h; (rw [h]; exact hm.1); omega, HO7.out.hi.2.1⟩ ⟨by rcases htz.2 with h | h; (rw [h]; exact hm.2); omega, HO7.out.hi.2.2⟩ (Nat.le_refl _)
        exact ⟨_, _, _, _, _, _, rfl, (ho.within HW.out (.inr (Nat.le_refl _))).widen (by omega) (by omega) (Nat.le_refl _), within_on hg HW.out hg.size (.inl (by omega))⟩
  · have hz0 : Z.length = 0 := by omega
    have hzd : ¬ (0 : Int) < (Z.length : Int) := by omega
    clear hz0 c5
    go_enter Try.func29, Try.ntmps29
    go_wp2_with (first
      | (go_at_call 82; refine (implRange k c _).mono ?_; rintro e w9 ⟨rfl, rfl⟩; rw [HRG.out])
      | (go_at_call 40; refine (implIsPeb (F.length : Int) k l A cap AF AT AZ cF cT cZ lo hi F T Z _ HI5.out.bars.at HI5.out.src hn hF hT hZ).mono ?_; rintro e w6 ⟨rfl, hb6⟩; rw [HB.out]; have HI6 := Lib.hid (HI5.out.below hb6); have OB6 := Lib.hid (OB5.out.kept hb6); have HF6 := Lib.hid (HF5.out.below hb6); have hz6 := hb6.size; obtain ⟨_, u0, u1⟩ := HI6.out.gb; obtain ⟨u2, u3, u4, _, _, _⟩ := HI6.out.pb.cells; obtain ⟨q0, q1, q2, _, _, _⟩ := OB6.out.cells; obtain ⟨_, _, _, f0, f1, f2⟩ := HI6.out.rb.cells; have r3 := ret3 HI6.out.rb (.slice BF F.length dF) (.slice BT T.length dT) (.slice BZ Z.length dZ); obtain ⟨s0, s1, s2, _⟩ := r3.1.cells; have HW := Lib.hid r3.2; clear r3 hb6 v0 v1 v2 v3 v4 b0 b1 b2)
      | (go_at_call 76; refine (clonePeb_r AF AT AZ cF cT cZ lo hi F T Z _ HI0.out.src hF hT hZ).mono ?_; rintro e w4 ⟨BF, dF, BT, dT, BZ, dZ, rfl, ho, hb⟩; have hb5 := new_below w4 (.cells #[.slice BF F.length dF, .slice BT T.length dT, .slice BZ Z.length dZ] 30); have HI5 := Lib.hid ((HI0.out.below hb).below hb5); have OB5 := Lib.hid (cel3_new w4 (.slice BF F.length dF) (.slice BT T.length dT) (.slice BZ Z.length dZ) 30); obtain ⟨f, t, z, hof, y1, y2, y3⟩ := ho.ownF; have HF5 := Lib.hid (hof.below hb5); have HLO := Lib.hid (show w.heap.size + 3 ≤ w4.heap.size from by have := HS3.out; have := hb.size; omega); have HLY := Lib.hid (show (w.heap.size + 3 ≤ f.1 ∧ f.2 ≤ w4.heap.size) ∧ (w.heap.size + 3 ≤ t.1 ∧ t.2 ≤ w4.heap.size) ∧ (w.heap.size + 3 ≤ z.1 ∧ z.2 ≤ w4.heap.size) from by have := HS3.out; omega); obtain ⟨_, v0, v1⟩ := HI5.out.gb; obtain ⟨v2, v3, v4, _, _, _⟩ := HI5.out.pb.cells; obtain ⟨b0, b1, b2, _, _, _⟩ := OB5.out.cells; clear ho hb hb5 hof y1 y2 y3 x0 x1 x2))
    clear u0 u1 u2 u3 u4 q0 q1 q2 f0 f1 f2 s0 s1 s2
    clear HW
    obtain ⟨t', z', HN6, m1, m2, m3, m4, m5, m6⟩ := HF6.out.norm (B := w.heap.size + 3) (pb := w4.heap.size) (by have := HLO.out; have := OB6.out.lt; omega) OB6.out.lt HLY.out.2.1.1 HLY.out.2.2.1 (.inr HLY.out.2.1.2) (.inr HLY.out.2.2.2)
    refine (place_c F.length k l A cap w4.heap.size (w.heap.size + 3) f t' z' BF BT BZ dF dT dZ F T Z c nn _ HP.out (by omega) (by omega) (HI6.out.bars.widen (Nat.le_refl _) (by omega) (by have := HLO.out; have := OB6.out.lt; omega)) OB6.out HN6 ⟨by have := HLO.out; have := OB6.out.lt; omega, HLO.out, HLY.out.1.1, m1, m2⟩ (.inr HLY.out.1.2) m3 m4 m5 m6).mono ?_
    rintro e w7 ⟨hbl, ⟨rfl, hpv, hof, hcel⟩ | ⟨s, AT', cT', AZ', cZ', t2, z2, rfl, hpv, hof, hcel, ht2, hz2⟩⟩
    · skip
      have HI7 := Lib.hid (HI6.out.within (within_low hbl) (Nat.le_refl _) (by have := HHI.out; omega))
      have HBL := Lib.hid hbl
      have HM := Lib.hid (And.intro m1 m2)
      clear hbl m1 m2 m3 m4 m5 m6 HN6
      have HN := Lib.hid (HV.out.trans hpv)
      have HO7 := Lib.hid hof
      obtain ⟨q0, q1, q2, _, _, _⟩ := hcel.cells
      obtain ⟨_, _, _, f0, f1, f2⟩ := HI7.out.rb.cells
      have r3 := ret3 HI7.out.rb (.slice BF F.length dF) (.slice BT T.length dT) (.slice BZ Z.length dZ)
      obtain ⟨s0, s1, s2, _⟩ := r3.1.cells
      have HW := Lib.hid r3.2
      clear r3 hof hcel hpv
      go_wp2_with fail
      rw [HN.out]
      refine bodyPost_ret (v := .tuple #[pebV BF F.length dF BT T.length dT BZ Z.length dZ, .bool false]) ?_ rfl ?_
      · simp [results, Try.results29, go_sem, s0, s1, s2]
      · have hg := HI7.out.bel
        have hy := HLY.out
        have hm := HM.out
        have hsw := HW.out.size
        have ho := HO7.out.own3 (lo := w.heap.size + 3) (hi := w7.heap.size) ⟨hy.1.1, HO7.out.hi.1⟩ ⟨hm.1, HO7.out.hi.2.1⟩ ⟨hm.2, HO7.out.hi.2.2⟩ (Nat.le_refl _)
        exact ⟨_, _, _, _, _, _, rfl, (ho.within HW.out (.inr (Nat.le_refl _))).widen (by omega) (by omega) (Nat.le_refl _), within_on hg HW.out hg.size (.inl (by omega))⟩
    · skip
      have HI7 := Lib.hid (HI6.out.within (within_low hbl) (Nat.le_refl _) (by have := HHI.out; omega))
      have HBL := Lib.hid hbl
      have HM := Lib.hid (And.intro m1 m2)
      clear hbl m1 m2 m3 m4 m5 m6 HN6
      have HN := Lib.hid (HV.out.trans hpv)
      have HO7 := Lib.hid hof
      have HTZ := Lib.hid (And.intro ht2 hz2)
      obtain ⟨q0, q1, q2, _, _, _⟩ := hcel.cells
      obtain ⟨_, _, _, f0, f1, f2⟩ := HI7.out.rb.cells
      have r3 := ret3 HI7.out.rb (.slice BF s.1.length dF) (.slice AT' s.2.1.length cT') (.slice AZ' s.2.2.length cZ')
      obtain ⟨s0, s1, s2, _⟩ := r3.1.cells
      have HW := Lib.hid r3.2
      clear r3 hof hcel hpv ht2 hz2
      go_wp2_with fail
      rw [HN.out]
      refine bodyPost_ret (v := .tuple #[pebV BF s.1.length dF AT' s.2.1.length cT' AZ' s.2.2.length cZ', .bool true]) ?_ rfl ?_
      · simp [results, Try.results29, go_sem, s0, s1, s2]
      · have hg := HI7.out.bel
        have hy := HLY.out
        have hm := HM.out
        have hsw := HW.out.size
        have hlo := HLO.out
        have hlt := OB6.out.lt
        have htz := HTZ.out
        have ho := HO7.out.own3 (lo := w.heap.size + 3) (hi := w7.heap.size) ⟨hy.1.1, HO7.out.hi.1⟩ ⟨by rcases htz.1 with h | h; (rw [h]; exact hm.1); omega, HO7.out.hi.2.1⟩ ⟨by rcases htz.2 with h | h; (rw [h]; exact hm.2); omega, HO7.out.hi.2.2⟩ (Nat.le_refl _)
        exact ⟨_, _, _, _, _, _, rfl, (ho.within HW.out (.inr (Nat.le_refl _))).widen (by omega) (by omega) (Nat.le_refl _), within_on hg HW.out hg.size (.inl (by omega))⟩
end Go.Proofs.Ytgmcibcjplncaaa
/- How long the rows of a state are behind a bar's placing. No program. No condition. -/
namespace Go.Proofs.Ytgmcibcjplncaaa
open Go.RowKit

theorem rangeB_is {k c : Int} (h : rangeB k c = true) : (1 ≤ k ∧ k ≤ 3) ∧ 0 ≤ c ∧ c < 2 * k := by
  unfold rangeB at h
  simp only [Bool.and_eq_true, decide_eq_true_eq] at h
  omega
theorem IsPeb.lens {p k : Int} {l : List (Int × Int)} {F T Z : List Int} (h : IsPeb p k l F T Z) : F.length ≤ 8 ∧ T.length ≤ 24 ∧ Z.length ≤ 24 := by
  have h1 := h.1.1
  have h2 := h.1.2.1
  have h3 := h.2.2.1
  have h4 := h.2.2.2.1
  have h5 := h.many
  omega
/-- Placing a bar leaves the rows short. -/
theorem plaV_len (p k c : Int) (l : List (Int × Int)) (F T Z : List Int) (n : Int) (hF : F.length ≤ 1048576) (hT : T.length ≤ 1048576) (hZ : Z.length ≤ 1048576) :
    ((plaV p k c l F T Z n).getD (F, T, Z)).1.length ≤ 1048576 ∧ ((plaV p k c l F T Z n).getD (F, T, Z)).2.1.length ≤ 1048576 ∧ ((plaV p k c l F T Z n).getD (F, T, Z)).2.2.length ≤ 1048576 := by
  cases e : plaV p k c l F T Z n with
  | none => exact ⟨hF, hT, hZ⟩
  | some s =>
    unfold plaV at e
    by_cases q : isPebB p k l F T Z = true ∧ rangeB k c = true ∧ (0 ≤ n ∧ n < (l.length : Int)) ∧ (Z ≠ [] → Z.getD (Z.length - 1) 0 < n)
    · rw [if_pos q] at e
      have h := (plaR_ok (isPebB_is q.1) (rangeB_is q.2.1).2.1 q.2.2.1 q.2.2.2 e).1.lens
      rw [Option.getD_some]
      omega
    · rw [if_neg q] at e; cases e
end Go.Proofs.Ytgmcibcjplncaaa
/- What stands behind a region that draws its order and lays an answer in a box made somewhere in it. No program's walk. No condition. -/
namespace Go.Proofs.Ytgmcibcjplncaaa
open Go.RowKit

/-- A state lies in a box, its rows in a range; what was there before stands. -/
def BoxR (c : World) (nF nT nZ : Nat) (F T Z : List Int) (ok : Bool) (b1 b2 : Value) (wx : World) : Prop :=
  ∃ (gb : Nat) (AF : Option Addr) (cF : Nat) (AT : Option Addr) (cT : Nat) (AZ : Option Addr) (cZ lo hi : Nat), b1 = .pointer (some ⟨gb, 0, none⟩) ∧ b2 = .bool ok ∧ Below c.heap.size c wx ∧ gb < wx.heap.size ∧ hi ≤ wx.heap.size ∧ Cel3 wx gb 30 (.slice AF nF cF) (.slice AT nT cT) (.slice AZ nZ cZ) ∧ Own3 wx lo hi AF cF AT cT AZ cZ F T Z
theorem boxR_in {c d W : World} {nF nT nZ gb lo : Nat} {F T Z : List Int} {ok : Bool} {AF AT AZ : Option Addr} {cF cT cZ : Nat} {a0 a1 a2 : Value} (hd : Below c.heap.size c d) (hB : Below d.heap.size d W) (hX : Cel3 W gb 30 a0 a1 a2) (hge : d.heap.size ≤ gb) (ho : Own3 W lo W.heap.size AF cF AT cT AZ cZ F T Z) (hl : gb + 1 ≤ lo) (hlt : gb < W.heap.size) :
    BoxR c nF nT nZ F T Z ok (.pointer (some ⟨gb, 0, none⟩)) (.bool ok) (((W.setCell ⟨gb, 0, none⟩ (.slice AF nF cF)).setCell ⟨gb, 1, none⟩ (.slice AT nT cT)).setCell ⟨gb, 2, none⟩ (.slice AZ nZ cZ)) := by
  have r3 := ret3 hX (.slice AF nF cF) (.slice AT nT cT) (.slice AZ nZ cZ)
  have hs := r3.2.size
  have hdc := hd.size
  exact ⟨gb, AF, cF, AT, cT, AZ, cZ, lo, W.heap.size, rfl, rfl, within_on (below_on hd hB hd.size) r3.2 (Nat.le_trans hd.size hB.size) (.inl (by omega)), by omega, hs, r3.1, ho.within r3.2 (.inr hl)⟩
theorem boxR_new {c d W : World} {nF nT nZ lo : Nat} {F T Z : List Int} {ok : Bool} {AF AT AZ : Option Addr} {cF cT cZ : Nat} (hd : Below c.heap.size c d) (hB : Below d.heap.size d W) (ho : Own3 W lo W.heap.size AF cF AT cT AZ cZ F T Z) :
    BoxR c nF nT nZ F T Z ok (.pointer (some ⟨W.heap.size, 0, none⟩)) (.bool ok) (W.alloc (.cells #[.slice AF nF cF, .slice AT nT cT, .slice AZ nZ cZ] 30)) := by
  have hal := new_below W (.cells #[.slice AF nF cF, .slice AT nT cT, .slice AZ nZ cZ] 30)
  have hcd := below_on hd hB hd.size
  exact ⟨W.heap.size, AF, cF, AT, cT, AZ, cZ, lo, W.heap.size, rfl, rfl, below_on hcd hal hcd.size, by simp, hal.size, cel3_new W _ _ _ _, ho.within (within_of hal) (.inr (Nat.zero_le _))⟩
/-- Gathering leaves the rows as long as they were. -/
theorem gatV_len (p k : Int) (l : List (Int × Int)) (F T Z : List Int) (a b want : Int) : ((gatV p k l F T Z a b want).getD (F, T)).1.length = F.length ∧ ((gatV p k l F T Z a b want).getD (F, T)).2.length = T.length := by
  cases e : gatV p k l F T Z a b want with
  | none => exact ⟨rfl, rfl⟩
  | some s =>
    unfold gatV at e
    by_cases c : isPebB p k l F T Z = true ∧ (0 ≤ a ∧ a < p) ∧ (0 ≤ b ∧ b < p) ∧ a ≠ b ∧ 0 ≤ want ∧ want ≤ 2 * k
    · rw [if_pos c] at e
      have hp := isPebB_is c.1
      have hl := hp.2.2.1
      obtain ⟨h1, _⟩ := gathR_ok (P := F.length) (by omega) (by omega) c.2.2.2.1 hp.state e
      exact ⟨h1.flen, by rw [Option.getD_some, h1.ends.len, hp.state.ends.len]⟩
    · rw [if_neg c] at e; cases e
end Go.Proofs.Ytgmcibcjplncaaa
