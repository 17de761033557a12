/- What impl.IsPebbles answers. No condition. -/
import Derived.Test.YtgmcibcjplncaaaPebEq
import Derived.Test.YtgmcibcjplncaaaNewPS
import Derived.Test.YtgmcibcjplncaaaBarSet
import Derived.Deep.QuietTactic
import Derived.BigQuiet
import Derived.Deep.RegionHeld3
namespace Go.Proofs.Ytgmcibcjplncaaa
open Go.RowKit

/-- The free pebbles that are left when the first j tails are taken. -/
def decL (P : Nat) (k : Int) (T : List Int) (j : Nat) : List Int := (List.range P).map fun (v : Nat) => k - ((T.take j).count (v : Int) : Int)
theorem decL_len (P : Nat) (k : Int) (T : List Int) (j : Nat) : (decL P k T j).length = P := by simp [decL]
theorem decL_get (P : Nat) (k : Int) (T : List Int) (j v : Nat) (h : v < P) : (decL P k T j).getD v 0 = k - ((T.take j).count (v : Int) : Int) := by simp [decL, List.getD, h]
theorem decL_zero (P : Nat) (k : Int) (T : List Int) : decL P k T 0 = List.replicate P k := by
  apply List.ext_getElem
  · simp [decL]
  · intro i h1 h2
    simp [decL]
theorem decL_step (P : Nat) (k : Int) (T : List Int) (j t : Nat) (hj : j < T.length) (ht : T.getD j 0 = (t : Int)) (h : t < P) : (intCells (decL P k T j)).set t (.int .i64 ((decL P k T j).getD t 0 - 1)) = intCells (decL P k T (j + 1)) := by
  rw [decL_get P k T j t h]
  unfold intCells
  rw [← List.map_set]
  congr 1
  apply List.ext_getElem
  · simp [decL]
  · intro i h1 h2
    have hi : i < P := by simpa [decL] using h2
    rw [List.getElem_set]
    simp only [decL, List.getElem_map, List.getElem_range]
    rw [count_take T (i : Int) j hj, ht]
    by_cases e : t = i
    · subst e
      simp
      omega
    · have e' : ¬ (t : Int) = (i : Int) := by omega
      rw [if_neg e, if_neg e']
      omega
theorem isPeb_dec {P : Nat} {k : Int} {l : List (Int × Int)} {F T Z : List Int} (hG : IsG (P : Int) l) (hk : 1 ≤ k ∧ k ≤ 3) (htz : T.length = Z.length) (hok : ∀ j, j < Z.length → OkP l T Z j) : isPebB (P : Int) k l F T Z = (decide (F = decL P k T T.length) && decide (∀ j, j < F.length → 0 ≤ F.getD j 0)) := by
  by_cases h1 : F = decL P k T T.length
  · have hl : F.length = P := by rw [h1, decL_len]
    by_cases h2 : ∀ j, j < F.length → 0 ≤ F.getD j 0
    · rw [decide_eq_true h1, decide_eq_true h2]
      refine isPebB_yes ⟨hG, hk, by rw [hl], htz, hok, fun v hv => ⟨h2 v hv, ?_⟩⟩
      have hg : F.getD v 0 = k - (T.count (v : Int) : Int) := by
        conv => lhs; rw [h1]
        rw [decL_get P k T T.length v (by omega), List.take_length]
      omega
    · rw [decide_eq_true h1, decide_eq_false h2]
      exact isPebB_no fun hp => h2 fun j hj => (hp.2.2.2.2.2 j hj).1
  · rw [decide_eq_false h1]
    refine isPebB_no fun hp => h1 ?_
    have hl : F.length = P := by have := hp.2.2.1; omega
    refine eq_of_getD (by rw [decL_len, hl]) fun j hj => ?_
    rw [decL_get P k T T.length j (by omega), List.take_length]
    have := (hp.2.2.2.2.2 j hj).2
    omega
theorem new_false {p k : Int} {l : List (Int × Int)} {F T Z : List Int} (h : newB p k l = false) : isPebB p k l F T Z = false := isPebB_no fun hp => by
  have : newB p k l = true := by
    unfold newB
    rw [isGB_yes hp.1, decide_eq_true hp.2.1.1, decide_eq_true hp.2.1.2]
    rfl
  rw [h] at this
  cases this
theorem new_true {p k : Int} {l : List (Int × Int)} (h : newB p k l = true) : ∃ P : Nat, p = (P : Int) ∧ (1 ≤ P ∧ P ≤ 8) ∧ IsG p l ∧ (1 ≤ k ∧ k ≤ 3) ∧ newF p k l = List.replicate P k := by
  unfold newB at h
  simp only [Bool.and_eq_true, decide_eq_true_eq] at h
  have hG : IsG p l := Classical.byContradiction fun g => by rw [isGB_no g] at h; cases h.1
  obtain ⟨P, rfl⟩ : ∃ P : Nat, p = (P : Int) := ⟨p.toNat, by have := hG.1; omega⟩
  exact ⟨P, rfl, by have := hG.1; omega, hG, h.2, (new_yes h.1 h.2.1 h.2.2).2⟩

/-- Where the program's walk stands behind j bars. -/
structure DecI (w wr : World) (bn g cap : Nat) (t z : Value) (P : Nat) (k : Int) (T : List Int) (j : Nat) : Prop where
  row : wr.ownsRow (w.heap.size + 1 + 1) 3 1 (.slice (some ⟨g, 0, none⟩) P cap) P (intCells (decL P k T j))
  st : Cel3 wr bn 30 (.slice (some ⟨g, 0, none⟩) P cap) t z
  ne : g ≠ bn
theorem DecI.below {w wr w' : World} {bn g cap : Nat} {t z : Value} {P : Nat} {k : Int} {T : List Int} {j : Nat} (h : DecI w wr bn g cap t z P k T j) (hb : Below wr.heap.size wr w') : DecI w w' bn g cap t z P k T j :=
  ⟨own_below h.row hb, h.st.kept hb, h.ne⟩
theorem DecI.store {w wr : World} {bn g cap : Nat} {t z : Value} {P : Nat} {k : Int} {T : List Int} {j : Nat} (h : DecI w wr bn g cap t z P k T j) (n : Nat) (v : Value) (hs : (intCells (decL P k T j)).set n v = intCells (decL P k T (j + 1))) : DecI w (wr.setCell ⟨g, n, none⟩ v) bn g cap t z P k T (j + 1) := by
  have h1 := (h.row.stored n v).1
  rw [hs] at h1
  exact ⟨h1, h.st.within (within_set wr g n v) (by have := h.ne; omega), h.ne⟩
theorem GP.store {w wr : World} {bx bp : Nat} {p : Int} {A : Option Addr} {cap : Nat} {l : List (Int × Int)} {AF AT AZ : Option Addr} {cF cT cZ lo hi : Nat} {F T Z : List Int} (h : GP w wr bx bp p A cap l AF AT AZ cF cT cZ lo hi F T Z) (g o : Nat) (v : Value) (h1 : bx < g) (h2 : bp < g) (h3 : w.heap.size ≤ g) (h4 : hi ≤ g) : GP w (wr.setCell ⟨g, o, none⟩ v) bx bp p A cap l AF AT AZ cF cT cZ lo hi F T Z :=
  ⟨h.box.within (within_set wr g o v) (by omega), h.st.within (within_set wr g o v) (by omega), h.bars.within (within_set wr g o v) (by omega), h.rows.within (within_set wr g o v) (by omega), h.bel.setCell (p := ⟨g, o, none⟩) h3 v⟩

set_option maxHeartbeats 8000000 in
set_option maxRecDepth 100000 in
theorem implIsPeb (p k : Int) (l : List (Int × Int)) (A : Option Addr) (cap : Nat) (AF AT AZ : Option Addr) (cF cT cZ lo hi : Nat) (F T Z : List Int) (w : World) (hl : BarsAt w w.heap.size A l) (h : Peb3 w lo hi AF AT AZ F T Z) (hn : l.length ≤ 1048576) (hF : F.length ≤ 1048576) (hT : T.length ≤ 1048576) (hZ : Z.length ≤ 1048576) :
    Calls Try.prog 40 #[.agg #[.int .i64 p, .slice A l.length cap], .int .i64 k, pebV AF F.length cF AT T.length cT AZ Z.length cZ] w fun e w' => e = .returned (.bool (isPebB p k l F T Z)) ∧ Below w.heap.size w w' := by
  rcases hg : newB p k l with _ | _
  · skip
    have HR := Lib.hid (new_false (F := F) (T := T) (Z := Z) hg)
    have HNB := Lib.hid hg
    clear hg
    have hhi : hi ≤ w.heap.size := h.f.1
    have W0 := Lib.hid (Below.refl w.heap.size w)
    have HB_0 := Lib.hid (bars_in hl)
    have H_0 := Lib.hid (h)
    clear hl h
    have Z1 := Lib.hid (within_alloc w (.cells #[.int .i64 p, (.slice A l.length cap)] 35)).size
    have W1 := Lib.hid (within_on W0.out (within_alloc w (.cells #[.int .i64 p, (.slice A l.length cap)] 35)) W0.out.size (.inr (Nat.le_refl _)))
    have HB_1 := Lib.hid (HB_0.out.within (within_alloc w (.cells #[.int .i64 p, (.slice A l.length cap)] 35)) (by omega))
    have H_1 := Lib.hid (H_0.out.within (within_alloc w (.cells #[.int .i64 p, (.slice A l.length cap)] 35)) (by omega))
    have Y1 := Lib.hid (show (w.alloc (.cells #[.int .i64 p, (.slice A l.length cap)] 35)).heap.size = w.heap.size + 1 by simp)
    have hnew := box_new w p (.slice A l.length cap) 35
    have BX_1 := Lib.hid hnew
    clear hnew
    have Z2 := Lib.hid (within_alloc (w.alloc (.cells #[.int .i64 p, (.slice A l.length cap)] 35)) (.cells #[(.slice AF F.length cF), (.slice AT T.length cT), (.slice AZ Z.length cZ)] 30)).size
    have W2 := Lib.hid (within_on W1.out (within_alloc (w.alloc (.cells #[.int .i64 p, (.slice A l.length cap)] 35)) (.cells #[(.slice AF F.length cF), (.slice AT T.length cT), (.slice AZ Z.length cZ)] 30)) W1.out.size (.inr (Nat.le_refl _)))
    have HB_2 := Lib.hid (HB_1.out.within (within_alloc (w.alloc (.cells #[.int .i64 p, (.slice A l.length cap)] 35)) (.cells #[(.slice AF F.length cF), (.slice AT T.length cT), (.slice AZ Z.length cZ)] 30)) (by omega))
    have H_2 := Lib.hid (H_1.out.within (within_alloc (w.alloc (.cells #[.int .i64 p, (.slice A l.length cap)] 35)) (.cells #[(.slice AF F.length cF), (.slice AT T.length cT), (.slice AZ Z.length cZ)] 30)) (by omega))
    have BX_2 := Lib.hid (BX_1.out.within (within_alloc (w.alloc (.cells #[.int .i64 p, (.slice A l.length cap)] 35)) (.cells #[(.slice AF F.length cF), (.slice AT T.length cT), (.slice AZ Z.length cZ)] 30)) (by omega))
    have Y2 := Lib.hid (show ((w.alloc (.cells #[.int .i64 p, (.slice A l.length cap)] 35)).alloc (.cells #[(.slice AF F.length cF), (.slice AT T.length cT), (.slice AZ Z.length cZ)] 30)).heap.size = (w.alloc (.cells #[.int .i64 p, (.slice A l.length cap)] 35)).heap.size + 1 by simp)
    have hnew := cel3_new (w.alloc (.cells #[.int .i64 p, (.slice A l.length cap)] 35)) (.slice AF F.length cF) (.slice AT T.length cT) (.slice AZ Z.length cZ) 30
    rw [show (w.alloc (.cells #[.int .i64 p, (.slice A l.length cap)] 35)).heap.size = w.heap.size + 1 by simp] at hnew
    have GA_2 := Lib.hid hnew
    clear hnew
    go_enter Try.func40, Try.ntmps40
    obtain ⟨g0_0, g0_1, g0_2⟩ := BX_2.out
    obtain ⟨g1_0, g1_1, g1_2, g1_3, g1_4, g1_5⟩ := GA_2.out.cells
    go_wp2_with fail
    clear g0_0 g0_1 g0_2 g1_0 g1_1 g1_2 g1_3 g1_4 g1_5
    generalize ((w.alloc (.cells #[.int .i64 p, (.slice A l.length cap)] 35)).alloc (.cells #[(.slice AF F.length cF), (.slice AT T.length cT), (.slice AZ Z.length cZ)] 30)) = w2 at *
    generalize (w.alloc (.cells #[.int .i64 p, (.slice A l.length cap)] 35)) = w1 at *
    refine (implNewP p k l A cap _ HB_2.out.at hn).mono ?_
    rintro e w3 ⟨AF', cF', AT', cT', AZ', cZ', rfl, ho, hb⟩
    have Z3 := Lib.hid (within_of hb).size
    have W3 := Lib.hid (within_on W2.out (within_of hb) W2.out.size (.inr (Nat.le_refl _)))
    have HB_3 := Lib.hid (HB_2.out.within (within_of hb) (by omega))
    have H_3 := Lib.hid (H_2.out.within (within_of hb) (by omega))
    have BX_3 := Lib.hid (BX_2.out.within (within_of hb) (by omega))
    have GA_3 := Lib.hid (GA_2.out.within (within_of hb) (by omega))
    have SO_3 := Lib.hid (ho)
    clear ho hb
    rw [HNB.out]
    have Z4 := Lib.hid (within_alloc w3 (.cells #[(.slice AF' (newF p k l).length cF'), (.slice AT' 0 cT'), (.slice AZ' 0 cZ')] 30)).size
    have W4 := Lib.hid (within_on W3.out (within_alloc w3 (.cells #[(.slice AF' (newF p k l).length cF'), (.slice AT' 0 cT'), (.slice AZ' 0 cZ')] 30)) W3.out.size (.inr (Nat.le_refl _)))
    have HB_4 := Lib.hid (HB_3.out.within (within_alloc w3 (.cells #[(.slice AF' (newF p k l).length cF'), (.slice AT' 0 cT'), (.slice AZ' 0 cZ')] 30)) (by omega))
    have H_4 := Lib.hid (H_3.out.within (within_alloc w3 (.cells #[(.slice AF' (newF p k l).length cF'), (.slice AT' 0 cT'), (.slice AZ' 0 cZ')] 30)) (by omega))
    have BX_4 := Lib.hid (BX_3.out.within (within_alloc w3 (.cells #[(.slice AF' (newF p k l).length cF'), (.slice AT' 0 cT'), (.slice AZ' 0 cZ')] 30)) (by omega))
    have GA_4 := Lib.hid (GA_3.out.within (within_alloc w3 (.cells #[(.slice AF' (newF p k l).length cF'), (.slice AT' 0 cT'), (.slice AZ' 0 cZ')] 30)) (by omega))
    have SO_4 := Lib.hid (SO_3.out.within (within_alloc w3 (.cells #[(.slice AF' (newF p k l).length cF'), (.slice AT' 0 cT'), (.slice AZ' 0 cZ')] 30)) (by omega))
    have Y4 := Lib.hid (show (w3.alloc (.cells #[(.slice AF' (newF p k l).length cF'), (.slice AT' 0 cT'), (.slice AZ' 0 cZ')] 30)).heap.size = w3.heap.size + 1 by simp)
    have hnew := cel3_new w3 (.slice AF' (newF p k l).length cF') (.slice AT' 0 cT') (.slice AZ' 0 cZ') 30
    have BN_4 := Lib.hid hnew
    clear hnew
    go_wp2_with fail
    generalize (w3.alloc (.cells #[(.slice AF' (newF p k l).length cF'), (.slice AT' 0 cT'), (.slice AZ' 0 cZ')] 30)) = w4 at *
    go_ret
    exact ⟨by rw [HR.out]; rfl, W4.out⟩
  · obtain ⟨P, rfl, hP, hG, hk, hnf⟩ := new_true hg
    have h24 := hG.2.1
    have HNB := Lib.hid hg
    have HNF := Lib.hid hnf
    clear hg hnf
    by_cases htz : T.length = Z.length
    case neg =>
      have HR := Lib.hid (show isPebB (P : Int) k l F T Z = false from isPebB_no fun hp => htz hp.2.2.2.1)
      have hne : ((T.length : Int) != (Z.length : Int)) = true := by rw [bne_iff_ne]; omega
      clear hG
      have hhi : hi ≤ w.heap.size := h.f.1
      have W0 := Lib.hid (Below.refl w.heap.size w)
      have HB_0 := Lib.hid (bars_in hl)
      have H_0 := Lib.hid (h)
      clear hl h
      have Z1 := Lib.hid (within_alloc w (.cells #[.int .i64 (P : Int), (.slice A l.length cap)] 35)).size
      have W1 := Lib.hid (within_on W0.out (within_alloc w (.cells #[.int .i64 (P : Int), (.slice A l.length cap)] 35)) W0.out.size (.inr (Nat.le_refl _)))
      have HB_1 := Lib.hid (HB_0.out.within (within_alloc w (.cells #[.int .i64 (P : Int), (.slice A l.length cap)] 35)) (by omega))
      have H_1 := Lib.hid (H_0.out.within (within_alloc w (.cells #[.int .i64 (P : Int), (.slice A l.length cap)] 35)) (by omega))
      have Y1 := Lib.hid (show (w.alloc (.cells #[.int .i64 (P : Int), (.slice A l.length cap)] 35)).heap.size = w.heap.size + 1 by simp)
      have hnew := box_new w (P : Int) (.slice A l.length cap) 35
      have BX_1 := Lib.hid hnew
      clear hnew
      have Z2 := Lib.hid (within_alloc (w.alloc (.cells #[.int .i64 (P : Int), (.slice A l.length cap)] 35)) (.cells #[(.slice AF F.length cF), (.slice AT T.length cT), (.slice AZ Z.length cZ)] 30)).size
      have W2 := Lib.hid (within_on W1.out (within_alloc (w.alloc (.cells #[.int .i64 (P : Int), (.slice A l.length cap)] 35)) (.cells #[(.slice AF F.length cF), (.slice AT T.length cT), (.slice AZ Z.length cZ)] 30)) W1.out.size (.inr (Nat.le_refl _)))
      have HB_2 := Lib.hid (HB_1.out.within (within_alloc (w.alloc (.cells #[.int .i64 (P : Int), (.slice A l.length cap)] 35)) (.cells #[(.slice AF F.length cF), (.slice AT T.length cT), (.slice AZ Z.length cZ)] 30)) (by omega))
      have H_2 := Lib.hid (H_1.out.within (within_alloc (w.alloc (.cells #[.int .i64 (P : Int), (.slice A l.length cap)] 35)) (.cells #[(.slice AF F.length cF), (.slice AT T.length cT), (.slice AZ Z.length cZ)] 30)) (by omega))
      have BX_2 := Lib.hid (BX_1.out.within (within_alloc (w.alloc (.cells #[.int .i64 (P : Int), (.slice A l.length cap)] 35)) (.cells #[(.slice AF F.length cF), (.slice AT T.length cT), (.slice AZ Z.length cZ)] 30)) (by omega))
      have Y2 := Lib.hid (show ((w.alloc (.cells #[.int .i64 (P : Int), (.slice A l.length cap)] 35)).alloc (.cells #[(.slice AF F.length cF), (.slice AT T.length cT), (.slice AZ Z.length cZ)] 30)).heap.size = (w.alloc (.cells #[.int .i64 (P : Int), (.slice A l.length cap)] 35)).heap.size + 1 by simp)
      have hnew := cel3_new (w.alloc (.cells #[.int .i64 (P : Int), (.slice A l.length cap)] 35)) (.slice AF F.length cF) (.slice AT T.length cT) (.slice AZ Z.length cZ) 30
      rw [show (w.alloc (.cells #[.int .i64 (P : Int), (.slice A l.length cap)] 35)).heap.size = w.heap.size + 1 by simp] at hnew
      have GA_2 := Lib.hid hnew
      clear hnew
      go_enter Try.func40, Try.ntmps40
      obtain ⟨g0_0, g0_1, g0_2⟩ := BX_2.out
      obtain ⟨g1_0, g1_1, g1_2, g1_3, g1_4, g1_5⟩ := GA_2.out.cells
      go_wp2_with fail
      clear g0_0 g0_1 g0_2 g1_0 g1_1 g1_2 g1_3 g1_4 g1_5
      generalize ((w.alloc (.cells #[.int .i64 (P : Int), (.slice A l.length cap)] 35)).alloc (.cells #[(.slice AF F.length cF), (.slice AT T.length cT), (.slice AZ Z.length cZ)] 30)) = w2 at *
      generalize (w.alloc (.cells #[.int .i64 (P : Int), (.slice A l.length cap)] 35)) = w1 at *
      refine (implNewP (P : Int) k l A cap _ HB_2.out.at hn).mono ?_
      rintro e w3 ⟨AF', cF', AT', cT', AZ', cZ', rfl, ho, hb⟩
      have Z3 := Lib.hid (within_of hb).size
      have W3 := Lib.hid (within_on W2.out (within_of hb) W2.out.size (.inr (Nat.le_refl _)))
      have HB_3 := Lib.hid (HB_2.out.within (within_of hb) (by omega))
      have H_3 := Lib.hid (H_2.out.within (within_of hb) (by omega))
      have BX_3 := Lib.hid (BX_2.out.within (within_of hb) (by omega))
      have GA_3 := Lib.hid (GA_2.out.within (within_of hb) (by omega))
      have SO_3 := Lib.hid (ho)
      clear ho hb
      rw [HNB.out]
      have Z4 := Lib.hid (within_alloc w3 (.cells #[(.slice AF' (newF (P : Int) k l).length cF'), (.slice AT' 0 cT'), (.slice AZ' 0 cZ')] 30)).size
      have W4 := Lib.hid (within_on W3.out (within_alloc w3 (.cells #[(.slice AF' (newF (P : Int) k l).length cF'), (.slice AT' 0 cT'), (.slice AZ' 0 cZ')] 30)) W3.out.size (.inr (Nat.le_refl _)))
      have HB_4 := Lib.hid (HB_3.out.within (within_alloc w3 (.cells #[(.slice AF' (newF (P : Int) k l).length cF'), (.slice AT' 0 cT'), (.slice AZ' 0 cZ')] 30)) (by omega))
      have H_4 := Lib.hid (H_3.out.within (within_alloc w3 (.cells #[(.slice AF' (newF (P : Int) k l).length cF'), (.slice AT' 0 cT'), (.slice AZ' 0 cZ')] 30)) (by omega))
      have BX_4 := Lib.hid (BX_3.out.within (within_alloc w3 (.cells #[(.slice AF' (newF (P : Int) k l).length cF'), (.slice AT' 0 cT'), (.slice AZ' 0 cZ')] 30)) (by omega))
      have GA_4 := Lib.hid (GA_3.out.within (within_alloc w3 (.cells #[(.slice AF' (newF (P : Int) k l).length cF'), (.slice AT' 0 cT'), (.slice AZ' 0 cZ')] 30)) (by omega))
      have SO_4 := Lib.hid (SO_3.out.within (within_alloc w3 (.cells #[(.slice AF' (newF (P : Int) k l).length cF'), (.slice AT' 0 cT'), (.slice AZ' 0 cZ')] 30)) (by omega))
      have Y4 := Lib.hid (show (w3.alloc (.cells #[(.slice AF' (newF (P : Int) k l).length cF'), (.slice AT' 0 cT'), (.slice AZ' 0 cZ')] 30)).heap.size = w3.heap.size + 1 by simp)
      have hnew := cel3_new w3 (.slice AF' (newF (P : Int) k l).length cF') (.slice AT' 0 cT') (.slice AZ' 0 cZ') 30
      have BN_4 := Lib.hid hnew
      clear hnew
      obtain ⟨g2_0, g2_1, g2_2, g2_3, g2_4, g2_5⟩ := GA_4.out.cells
      go_wp2_with fail
      clear g2_0 g2_1 g2_2 g2_3 g2_4 g2_5
      generalize (w3.alloc (.cells #[(.slice AF' (newF (P : Int) k l).length cF'), (.slice AT' 0 cT'), (.slice AZ' 0 cZ')] 30)) = w4 at *
      go_ret
      exact ⟨by rw [HR.out]; rfl, W4.out⟩
    rcases hsb : setB (P : Int) l Z with _ | _
    · skip
      have hne : ((T.length : Int) != (Z.length : Int)) = false := by rw [bne_eq_false_iff_eq]; omega
      have HTZ := Lib.hid htz
      have HDEC := Lib.hid (fun hok : ∀ j, j < Z.length → OkP l T Z j => isPeb_dec (F := F) hG hk htz hok)
      have HG := Lib.hid hG
      have HR := Lib.hid (show isPebB (P : Int) k l F T Z = false from by
        obtain ⟨j, hj, hno⟩ := setB_not hG hsb
        exact isPeb_bad hj fun h => hno (okP_s.1 h).1)
      have HSB := Lib.hid hsb
      clear hG htz hsb
      have hhi : hi ≤ w.heap.size := h.f.1
      have W0 := Lib.hid (Below.refl w.heap.size w)
      have HB_0 := Lib.hid (bars_in hl)
      have H_0 := Lib.hid (h)
      clear hl h
      have Z1 := Lib.hid (within_alloc w (.cells #[.int .i64 (P : Int), (.slice A l.length cap)] 35)).size
      have W1 := Lib.hid (within_on W0.out (within_alloc w (.cells #[.int .i64 (P : Int), (.slice A l.length cap)] 35)) W0.out.size (.inr (Nat.le_refl _)))
      have HB_1 := Lib.hid (HB_0.out.within (within_alloc w (.cells #[.int .i64 (P : Int), (.slice A l.length cap)] 35)) (by omega))
      have H_1 := Lib.hid (H_0.out.within (within_alloc w (.cells #[.int .i64 (P : Int), (.slice A l.length cap)] 35)) (by omega))
      have Y1 := Lib.hid (show (w.alloc (.cells #[.int .i64 (P : Int), (.slice A l.length cap)] 35)).heap.size = w.heap.size + 1 by simp)
      have hnew := box_new w (P : Int) (.slice A l.length cap) 35
      have BX_1 := Lib.hid hnew
      clear hnew
      have Z2 := Lib.hid (within_alloc (w.alloc (.cells #[.int .i64 (P : Int), (.slice A l.length cap)] 35)) (.cells #[(.slice AF F.length cF), (.slice AT T.length cT), (.slice AZ Z.length cZ)] 30)).size
      have W2 := Lib.hid (within_on W1.out (within_alloc (w.alloc (.cells #[.int .i64 (P : Int), (.slice A l.length cap)] 35)) (.cells #[(.slice AF F.length cF), (.slice AT T.length cT), (.slice AZ Z.length cZ)] 30)) W1.out.size (.inr (Nat.le_refl _)))
      have HB_2 := Lib.hid (HB_1.out.within (within_alloc (w.alloc (.cells #[.int .i64 (P : Int), (.slice A l.length cap)] 35)) (.cells #[(.slice AF F.length cF), (.slice AT T.length cT), (.slice AZ Z.length cZ)] 30)) (by omega))
      have H_2 := Lib.hid (H_1.out.within (within_alloc (w.alloc (.cells #[.int .i64 (P : Int), (.slice A l.length cap)] 35)) (.cells #[(.slice AF F.length cF), (.slice AT T.length cT), (.slice AZ Z.length cZ)] 30)) (by omega))
      have BX_2 := Lib.hid (BX_1.out.within (within_alloc (w.alloc (.cells #[.int .i64 (P : Int), (.slice A l.length cap)] 35)) (.cells #[(.slice AF F.length cF), (.slice AT T.length cT), (.slice AZ Z.length cZ)] 30)) (by omega))
      have Y2 := Lib.hid (show ((w.alloc (.cells #[.int .i64 (P : Int), (.slice A l.length cap)] 35)).alloc (.cells #[(.slice AF F.length cF), (.slice AT T.length cT), (.slice AZ Z.length cZ)] 30)).heap.size = (w.alloc (.cells #[.int .i64 (P : Int), (.slice A l.length cap)] 35)).heap.size + 1 by simp)
      have hnew := cel3_new (w.alloc (.cells #[.int .i64 (P : Int), (.slice A l.length cap)] 35)) (.slice AF F.length cF) (.slice AT T.length cT) (.slice AZ Z.length cZ) 30
      rw [show (w.alloc (.cells #[.int .i64 (P : Int), (.slice A l.length cap)] 35)).heap.size = w.heap.size + 1 by simp] at hnew
      have GA_2 := Lib.hid hnew
      clear hnew
      go_enter Try.func40, Try.ntmps40
      obtain ⟨g0_0, g0_1, g0_2⟩ := BX_2.out
      obtain ⟨g1_0, g1_1, g1_2, g1_3, g1_4, g1_5⟩ := GA_2.out.cells
      go_wp2_with fail
      clear g0_0 g0_1 g0_2 g1_0 g1_1 g1_2 g1_3 g1_4 g1_5
      generalize ((w.alloc (.cells #[.int .i64 (P : Int), (.slice A l.length cap)] 35)).alloc (.cells #[(.slice AF F.length cF), (.slice AT T.length cT), (.slice AZ Z.length cZ)] 30)) = w2 at *
      generalize (w.alloc (.cells #[.int .i64 (P : Int), (.slice A l.length cap)] 35)) = w1 at *
      refine (implNewP (P : Int) k l A cap _ HB_2.out.at hn).mono ?_
      rintro e w3 ⟨AF', cF', AT', cT', AZ', cZ', rfl, ho, hb⟩
      have Z3 := Lib.hid (within_of hb).size
      have W3 := Lib.hid (within_on W2.out (within_of hb) W2.out.size (.inr (Nat.le_refl _)))
      have HB_3 := Lib.hid (HB_2.out.within (within_of hb) (by omega))
      have H_3 := Lib.hid (H_2.out.within (within_of hb) (by omega))
      have BX_3 := Lib.hid (BX_2.out.within (within_of hb) (by omega))
      have GA_3 := Lib.hid (GA_2.out.within (within_of hb) (by omega))
      have SO_3 := Lib.hid (ho)
      clear ho hb
      rw [HNB.out, HNF.out, List.length_replicate]
      obtain ⟨_, _, _, o1, _, _, _, _, _, b1, _, _, hsz⟩ := SO_3.out
      rw [HNF.out] at o1
      obtain ⟨g, rfl, hg1, hg2, hgo⟩ : ∃ g, AF' = some ⟨g, 0, none⟩ ∧ w2.heap.size ≤ g ∧ g < w3.heap.size ∧ w3.ownsRow (w.heap.size + 1 + 1) 3 1 (.slice (some ⟨g, 0, none⟩) P cF') P (intCells (decL P k T 0)) := by
        rcases o1.2 with h | ⟨g, e, h1, h2, ho⟩
        · exact absurd (congrArg List.length h) (by simp; omega)
        · refine ⟨g, e, by omega, by omega, ?_⟩
          rw [decL_zero]
          rw [List.length_replicate] at ho
          exact own_base ho (by have := Y1.out; have := Y2.out; omega)
      clear o1 b1 hsz
      have HGO := Lib.hid hgo
      clear hgo
      have Z4 := Lib.hid (within_alloc w3 (.cells #[(.slice (some ⟨g, 0, none⟩) P cF'), (.slice AT' 0 cT'), (.slice AZ' 0 cZ')] 30)).size
      have W4 := Lib.hid (within_on W3.out (within_alloc w3 (.cells #[(.slice (some ⟨g, 0, none⟩) P cF'), (.slice AT' 0 cT'), (.slice AZ' 0 cZ')] 30)) W3.out.size (.inr (Nat.le_refl _)))
      have HB_4 := Lib.hid (HB_3.out.within (within_alloc w3 (.cells #[(.slice (some ⟨g, 0, none⟩) P cF'), (.slice AT' 0 cT'), (.slice AZ' 0 cZ')] 30)) (by omega))
      have H_4 := Lib.hid (H_3.out.within (within_alloc w3 (.cells #[(.slice (some ⟨g, 0, none⟩) P cF'), (.slice AT' 0 cT'), (.slice AZ' 0 cZ')] 30)) (by omega))
      have BX_4 := Lib.hid (BX_3.out.within (within_alloc w3 (.cells #[(.slice (some ⟨g, 0, none⟩) P cF'), (.slice AT' 0 cT'), (.slice AZ' 0 cZ')] 30)) (by omega))
      have GA_4 := Lib.hid (GA_3.out.within (within_alloc w3 (.cells #[(.slice (some ⟨g, 0, none⟩) P cF'), (.slice AT' 0 cT'), (.slice AZ' 0 cZ')] 30)) (by omega))
      have SO_4 := Lib.hid (SO_3.out.within (within_alloc w3 (.cells #[(.slice (some ⟨g, 0, none⟩) P cF'), (.slice AT' 0 cT'), (.slice AZ' 0 cZ')] 30)) (by omega))
      have Y4 := Lib.hid (show (w3.alloc (.cells #[(.slice (some ⟨g, 0, none⟩) P cF'), (.slice AT' 0 cT'), (.slice AZ' 0 cZ')] 30)).heap.size = w3.heap.size + 1 by simp)
      have hnew := cel3_new w3 (.slice (some ⟨g, 0, none⟩) P cF') (.slice AT' 0 cT') (.slice AZ' 0 cZ') 30
      have BN_4 := Lib.hid hnew
      clear hnew
      have HGA := Lib.hid (show World.ownsRow (w3.alloc (.cells #[(.slice (some ⟨g, 0, none⟩) P cF'), (.slice AT' 0 cT'), (.slice AZ' 0 cZ')] 30)) _ _ _ _ _ _ from HGO.out.alloc _)
      obtain ⟨g2_0, g2_1, g2_2⟩ := BX_4.out
      obtain ⟨g3_0, g3_1, g3_2, g3_3, g3_4, g3_5⟩ := GA_4.out.cells
      obtain ⟨g4_0, g4_1, g4_2, g4_3, g4_4, g4_5⟩ := BN_4.out.cells
      go_wp2_with fail
      clear g2_0 g2_1 g2_2 g3_0 g3_1 g3_2 g3_3 g3_4 g3_5 g4_0 g4_1 g4_2 g4_3 g4_4 g4_5
      generalize (w3.alloc (.cells #[(.slice (some ⟨g, 0, none⟩) P cF'), (.slice AT' 0 cT'), (.slice AZ' 0 cZ')] 30)) = w4 at *
      refine (isBarSet_c (P : Int) l A AZ cap cZ lo hi Z _ HB_4.out.at H_4.out.z hn hZ).mono ?_
      rintro e w5 ⟨rfl, hb⟩
      have Z5 := Lib.hid (within_of hb).size
      have W5 := Lib.hid (within_on W4.out (within_of hb) W4.out.size (.inr (Nat.le_refl _)))
      have HB_5 := Lib.hid (HB_4.out.within (within_of hb) (by omega))
      have H_5 := Lib.hid (H_4.out.within (within_of hb) (by omega))
      have BX_5 := Lib.hid (BX_4.out.within (within_of hb) (by omega))
      have GA_5 := Lib.hid (GA_4.out.within (within_of hb) (by omega))
      have SO_5 := Lib.hid (SO_4.out.within (within_of hb) (by omega))
      have BN_5 := Lib.hid (BN_4.out.within (within_of hb) (by omega))
      clear hb
      rw [HSB.out]
      go_wp2_with fail
      go_ret
      exact ⟨by rw [HR.out]; rfl, W5.out⟩
    · skip
      have hne : ((T.length : Int) != (Z.length : Int)) = false := by rw [bne_eq_false_iff_eq]; omega
      have HTZ := Lib.hid htz
      have HDEC := Lib.hid (fun hok : ∀ j, j < Z.length → OkP l T Z j => isPeb_dec (F := F) hG hk htz hok)
      have HG := Lib.hid hG
      have HSET := Lib.hid (setB_is hsb).1
      have HSB := Lib.hid hsb
      clear hG htz hsb
      have hhi : hi ≤ w.heap.size := h.f.1
      have W0 := Lib.hid (Below.refl w.heap.size w)
      have HB_0 := Lib.hid (bars_in hl)
      have H_0 := Lib.hid (h)
      clear hl h
      have Z1 := Lib.hid (within_alloc w (.cells #[.int .i64 (P : Int), (.slice A l.length cap)] 35)).size
      have W1 := Lib.hid (within_on W0.out (within_alloc w (.cells #[.int .i64 (P : Int), (.slice A l.length cap)] 35)) W0.out.size (.inr (Nat.le_refl _)))
      have HB_1 := Lib.hid (HB_0.out.within (within_alloc w (.cells #[.int .i64 (P : Int), (.slice A l.length cap)] 35)) (by omega))
      have H_1 := Lib.hid (H_0.out.within (within_alloc w (.cells #[.int .i64 (P : Int), (.slice A l.length cap)] 35)) (by omega))
      have Y1 := Lib.hid (show (w.alloc (.cells #[.int .i64 (P : Int), (.slice A l.length cap)] 35)).heap.size = w.heap.size + 1 by simp)
      have hnew := box_new w (P : Int) (.slice A l.length cap) 35
      have BX_1 := Lib.hid hnew
      clear hnew
      have Z2 := Lib.hid (within_alloc (w.alloc (.cells #[.int .i64 (P : Int), (.slice A l.length cap)] 35)) (.cells #[(.slice AF F.length cF), (.slice AT T.length cT), (.slice AZ Z.length cZ)] 30)).size
      have W2 := Lib.hid (within_on W1.out (within_alloc (w.alloc (.cells #[.int .i64 (P : Int), (.slice A l.length cap)] 35)) (.cells #[(.slice AF F.length cF), (.slice AT T.length cT), (.slice AZ Z.length cZ)] 30)) W1.out.size (.inr (Nat.le_refl _)))
      have HB_2 := Lib.hid (HB_1.out.within (within_alloc (w.alloc (.cells #[.int .i64 (P : Int), (.slice A l.length cap)] 35)) (.cells #[(.slice AF F.length cF), (.slice AT T.length cT), (.slice AZ Z.length cZ)] 30)) (by omega))
      have H_2 := Lib.hid (H_1.out.within (within_alloc (w.alloc (.cells #[.int .i64 (P : Int), (.slice A l.length cap)] 35)) (.cells #[(.slice AF F.length cF), (.slice AT T.length cT), (.slice AZ Z.length cZ)] 30)) (by omega))
      have BX_2 := Lib.hid (BX_1.out.within (within_alloc (w.alloc (.cells #[.int .i64 (P : Int), (.slice A l.length cap)] 35)) (.cells #[(.slice AF F.length cF), (.slice AT T.length cT), (.slice AZ Z.length cZ)] 30)) (by omega))
      have Y2 := Lib.hid (show ((w.alloc (.cells #[.int .i64 (P : Int), (.slice A l.length cap)] 35)).alloc (.cells #[(.slice AF F.length cF), (.slice AT T.length cT), (.slice AZ Z.length cZ)] 30)).heap.size = (w.alloc (.cells #[.int .i64 (P : Int), (.slice A l.length cap)] 35)).heap.size + 1 by simp)
      have hnew := cel3_new (w.alloc (.cells #[.int .i64 (P : Int), (.slice A l.length cap)] 35)) (.slice AF F.length cF) (.slice AT T.length cT) (.slice AZ Z.length cZ) 30
      rw [show (w.alloc (.cells #[.int .i64 (P : Int), (.slice A l.length cap)] 35)).heap.size = w.heap.size + 1 by simp] at hnew
      have GA_2 := Lib.hid hnew
      clear hnew
      go_enter Try.func40, Try.ntmps40
      obtain ⟨g0_0, g0_1, g0_2⟩ := BX_2.out
      obtain ⟨g1_0, g1_1, g1_2, g1_3, g1_4, g1_5⟩ := GA_2.out.cells
      go_wp2_with fail
      clear g0_0 g0_1 g0_2 g1_0 g1_1 g1_2 g1_3 g1_4 g1_5
      generalize ((w.alloc (.cells #[.int .i64 (P : Int), (.slice A l.length cap)] 35)).alloc (.cells #[(.slice AF F.length cF), (.slice AT T.length cT), (.slice AZ Z.length cZ)] 30)) = w2 at *
      generalize (w.alloc (.cells #[.int .i64 (P : Int), (.slice A l.length cap)] 35)) = w1 at *
      refine (implNewP (P : Int) k l A cap _ HB_2.out.at hn).mono ?_
      rintro e w3 ⟨AF', cF', AT', cT', AZ', cZ', rfl, ho, hb⟩
      have Z3 := Lib.hid (within_of hb).size
      have W3 := Lib.hid (within_on W2.out (within_of hb) W2.out.size (.inr (Nat.le_refl _)))
      have HB_3 := Lib.hid (HB_2.out.within (within_of hb) (by omega))
      have H_3 := Lib.hid (H_2.out.within (within_of hb) (by omega))
      have BX_3 := Lib.hid (BX_2.out.within (within_of hb) (by omega))
      have GA_3 := Lib.hid (GA_2.out.within (within_of hb) (by omega))
      have SO_3 := Lib.hid (ho)
      clear ho hb
      rw [HNB.out, HNF.out, List.length_replicate]
      obtain ⟨_, _, _, o1, _, _, _, _, _, b1, _, _, hsz⟩ := SO_3.out
      rw [HNF.out] at o1
      obtain ⟨g, rfl, hg1, hg2, hgo⟩ : ∃ g, AF' = some ⟨g, 0, none⟩ ∧ w2.heap.size ≤ g ∧ g < w3.heap.size ∧ w3.ownsRow (w.heap.size + 1 + 1) 3 1 (.slice (some ⟨g, 0, none⟩) P cF') P (intCells (decL P k T 0)) := by
        rcases o1.2 with h | ⟨g, e, h1, h2, ho⟩
        · exact absurd (congrArg List.length h) (by simp; omega)
        · refine ⟨g, e, by omega, by omega, ?_⟩
          rw [decL_zero]
          rw [List.length_replicate] at ho
          exact own_base ho (by have := Y1.out; have := Y2.out; omega)
      clear o1 b1 hsz
      have HGO := Lib.hid hgo
      clear hgo
      have Z4 := Lib.hid (within_alloc w3 (.cells #[(.slice (some ⟨g, 0, none⟩) P cF'), (.slice AT' 0 cT'), (.slice AZ' 0 cZ')] 30)).size
      have W4 := Lib.hid (within_on W3.out (within_alloc w3 (.cells #[(.slice (some ⟨g, 0, none⟩) P cF'), (.slice AT' 0 cT'), (.slice AZ' 0 cZ')] 30)) W3.out.size (.inr (Nat.le_refl _)))
      have HB_4 := Lib.hid (HB_3.out.within (within_alloc w3 (.cells #[(.slice (some ⟨g, 0, none⟩) P cF'), (.slice AT' 0 cT'), (.slice AZ' 0 cZ')] 30)) (by omega))
      have H_4 := Lib.hid (H_3.out.within (within_alloc w3 (.cells #[(.slice (some ⟨g, 0, none⟩) P cF'), (.slice AT' 0 cT'), (.slice AZ' 0 cZ')] 30)) (by omega))
      have BX_4 := Lib.hid (BX_3.out.within (within_alloc w3 (.cells #[(.slice (some ⟨g, 0, none⟩) P cF'), (.slice AT' 0 cT'), (.slice AZ' 0 cZ')] 30)) (by omega))
      have GA_4 := Lib.hid (GA_3.out.within (within_alloc w3 (.cells #[(.slice (some ⟨g, 0, none⟩) P cF'), (.slice AT' 0 cT'), (.slice AZ' 0 cZ')] 30)) (by omega))
      have SO_4 := Lib.hid (SO_3.out.within (within_alloc w3 (.cells #[(.slice (some ⟨g, 0, none⟩) P cF'), (.slice AT' 0 cT'), (.slice AZ' 0 cZ')] 30)) (by omega))
      have Y4 := Lib.hid (show (w3.alloc (.cells #[(.slice (some ⟨g, 0, none⟩) P cF'), (.slice AT' 0 cT'), (.slice AZ' 0 cZ')] 30)).heap.size = w3.heap.size + 1 by simp)
      have hnew := cel3_new w3 (.slice (some ⟨g, 0, none⟩) P cF') (.slice AT' 0 cT') (.slice AZ' 0 cZ') 30
      have BN_4 := Lib.hid hnew
      clear hnew
      have HGA := Lib.hid (show World.ownsRow (w3.alloc (.cells #[(.slice (some ⟨g, 0, none⟩) P cF'), (.slice AT' 0 cT'), (.slice AZ' 0 cZ')] 30)) _ _ _ _ _ _ from HGO.out.alloc _)
      obtain ⟨g2_0, g2_1, g2_2⟩ := BX_4.out
      obtain ⟨g3_0, g3_1, g3_2, g3_3, g3_4, g3_5⟩ := GA_4.out.cells
      obtain ⟨g4_0, g4_1, g4_2, g4_3, g4_4, g4_5⟩ := BN_4.out.cells
      go_wp2_with fail
      clear g2_0 g2_1 g2_2 g3_0 g3_1 g3_2 g3_3 g3_4 g3_5 g4_0 g4_1 g4_2 g4_3 g4_4 g4_5
      generalize (w3.alloc (.cells #[(.slice (some ⟨g, 0, none⟩) P cF'), (.slice AT' 0 cT'), (.slice AZ' 0 cZ')] 30)) = w4 at *
      refine (isBarSet_c (P : Int) l A AZ cap cZ lo hi Z _ HB_4.out.at H_4.out.z hn hZ).mono ?_
      rintro e w5 ⟨rfl, hb⟩
      have Z5 := Lib.hid (within_of hb).size
      have W5 := Lib.hid (within_on W4.out (within_of hb) W4.out.size (.inr (Nat.le_refl _)))
      have HB_5 := Lib.hid (HB_4.out.within (within_of hb) (by omega))
      have H_5 := Lib.hid (H_4.out.within (within_of hb) (by omega))
      have BX_5 := Lib.hid (BX_4.out.within (within_of hb) (by omega))
      have GA_5 := Lib.hid (GA_4.out.within (within_of hb) (by omega))
      have SO_5 := Lib.hid (SO_4.out.within (within_of hb) (by omega))
      have BN_5 := Lib.hid (BN_4.out.within (within_of hb) (by omega))
      have HO_5 := Lib.hid (own_below HGA.out hb)
      clear hb
      rw [HSB.out]
      have HGP := Lib.hid (⟨BX_5.out, GA_5.out, HB_5.out, H_5.out, W5.out⟩ : GP w w5 w.heap.size (w.heap.size + 1) (P : Int) A cap l AF AT AZ cF cT cZ lo hi F T Z)
      have HD := Lib.hid (show DecI w w5 w3.heap.size g cF' (.slice AT' 0 cT') (.slice AZ' 0 cZ') P k T 0 from ⟨HO_5.out, BN_5.out, by omega⟩)
      obtain ⟨g5_0, g5_1, g5_2, g5_3, g5_4, g5_5⟩ := GA_5.out.cells
      obtain ⟨g6_0, g6_1, g6_2, g6_3, g6_4, g6_5⟩ := BN_5.out.cells
      go_wp2_with fail
      clear g5_0 g5_1 g5_2 g5_3 g5_4 g5_5 g6_0 g6_1 g6_2 g6_3 g6_4 g6_5
      clear hne
      have hbn : w.heap.size + 1 < w3.heap.size := by have := Y1.out; have := Y2.out; have := Z3.out; omega
      go_loopw [38] (fun i wr => ∃ j : Nat, j ≤ Z.length ∧ i = .int .i64 j ∧ (∀ u, u < j → OkP l T Z u) ∧ GP w wr w.heap.size (w.heap.size + 1) (P : Int) A cap l AF AT AZ cF cT cZ lo hi F T Z ∧ DecI w wr w3.heap.size g cF' (.slice AT' 0 cT') (.slice AZ' 0 cZ') P k T j) (fun i _ => Z.length - (intOf i).toNat)
      case atStart => exact ⟨0, Nat.zero_le _, rfl, fun u hu => absurd hu (Nat.not_lt_zero _), HGP.out, HD.out⟩
      case round =>
        clear HGP HD
        obtain ⟨j, hj, rfl, hok, hst, hdi⟩ := hrel
        have HOK := Lib.hid hok
        have HS := Lib.hid hst
        have HDI := Lib.hid hdi
        obtain ⟨_, gx0, gx1⟩ := hst.box
        obtain ⟨gc0, gc1, gc2, _, _, _⟩ := hst.st.cells
        obtain ⟨gn0, _, _, _, _, _⟩ := hdi.st.cells
        clear hok hst hdi
        by_cases hlt : j < Z.length
        · skip
          have hji : (j : Int) < (Z.length : Int) := by omega
          have hjt : (j : Int) < (T.length : Int) := by have := HTZ.out; omega
          obtain ⟨zb, zo, rfl, hzc⟩ := row_at HS.out.rows.z (by omega)
          obtain ⟨tb, to, rfl, htc⟩ := row_at HS.out.rows.t (by have := HTZ.out; omega)
          have hz := hzc j hlt
          have ht := htc j (by omega)
          have HBAD := Lib.hid (fun h : ¬ OkP l T Z j => isPeb_bad (p := (P : Int)) (k := k) (F := F) hlt h)
          have HNEXT := Lib.hid (fun h : OkP l T Z j => okP_snoc HOK.out h)
          have hsj := HSET.out j hlt
          have hsb := hsj.1
          have HSJ := Lib.hid hsj
          clear hsj
          have HDEF := Lib.hid (show OkP l T Z j ↔ OkS l.length Z j ∧ isEnd (l.getD (Z.getD j 0).toNat (0, 0)) (T.getD j 0) from okP_s)
          have HTD := Lib.hid (show ∀ t : Nat, T.getD j 0 = (t : Int) → t < P → (intCells (decL P k T j)).set t (.int .i64 ((decL P k T j).getD t 0 - 1)) = intCells (decL P k T (j + 1)) from fun t ht hp => decL_step P k T j t (by omega) ht hp)
          obtain ⟨y, hyd⟩ : ∃ y, Z.getD j 0 = y := ⟨_, rfl⟩
          obtain ⟨t, htd⟩ : ∃ t, T.getD j 0 = t := ⟨_, rfl⟩
          rw [hyd] at hz HDEF hsb
          rw [htd] at ht HDEF HTD
          clear hyd htd hzc htc
          obtain ⟨n, rfl⟩ : ∃ n : Nat, y = (n : Int) := ⟨y.toNat, by omega⟩
          have hni : (n : Int) < (l.length : Int) := hsb.2
          obtain ⟨b, off, rfl, hbB, hbc⟩ := HS.out.bars.at (by omega)
          have hx1 := (hbc n (by omega)).1
          have hx2 := (hbc n (by omega)).2
          have hbar := isG_bar HG.out n (by omega)
          obtain ⟨x, hxd⟩ : ∃ x, l.getD n (0, 0) = x := ⟨_, rfl⟩
          rw [hxd] at hx1 hx2 hbar
          rw [Int.toNat_natCast, hxd] at HDEF
          clear hxd hbc
          obtain ⟨x1, x2⟩ := x
          simp only at hx1 hx2 hbar
          have HSD := Lib.hid (HS.out.below (Below.refl _ _).drew)
          have kk : (fun W' => W'.cell? ⟨w.heap.size, 1, none⟩ = some (.slice (some ⟨b, off, none⟩) l.length cap) ∧ W'.cell? ⟨w.heap.size + 1, 1, none⟩ = some (.slice (some ⟨tb, to, none⟩) T.length cT) ∧ W'.cell? ⟨tb, to + j, none⟩ = some (.int .i64 t) ∧ W'.cell? ⟨b, off + n * 2, none⟩ = some (.int .i64 x1) ∧ W'.cell? ⟨b, off + n * 2 + 1, none⟩ = some (.int .i64 x2)) wr := ⟨gx1, gc1, ht, hx1, hx2⟩
          have HKK := Lib.hid kk
          clear kk
          have he := endB_is (x1, x2) t
          by_cases c3 : isEnd (x1, x2) t
          · skip
            have HE := Lib.hid (he.2 c3)
            have HN := Lib.hid (HNEXT.out (HDEF.out.2 ⟨HSJ.out, c3⟩))
            obtain ⟨tn, rfl⟩ : ∃ tn : Nat, t = (tn : Int) := ⟨t.toNat, by unfold isEnd at c3; simp only at c3; omega⟩
            have htP : tn < P := by unfold isEnd at c3; simp only at c3; omega
            have HTN := Lib.hid (HTD.out tn rfl htP)
            clear c3 he HTD
            have hlow := (HDI.out.row.lt g rfl).1
            go_wp2_with fail
            go_region_held3 (fun W' => W'.cell? ⟨w.heap.size, 1, none⟩ = some (.slice (some ⟨b, off, none⟩) l.length cap) ∧ W'.cell? ⟨w.heap.size + 1, 1, none⟩ = some (.slice (some ⟨tb, to, none⟩) T.length cT) ∧ W'.cell? ⟨tb, to + j, none⟩ = some (.int .i64 (tn : Int)) ∧ W'.cell? ⟨b, off + n * 2, none⟩ = some (.int .i64 x1) ∧ W'.cell? ⟨b, off + n * 2 + 1, none⟩ = some (.int .i64 x2))
              (first | exact HKK.out | exact HK5.out | fail)
              (first | (go_at_call 89; refine (hasEnd_c (tn : Int) (x1, x2) _).mono ?_; rintro e w5 ⟨rfl, hb⟩; rw [HE.out]; have HS5 := Lib.hid (HSD.out.below hb); have HB5 := Lib.hid hb; have HK5 := Lib.hid (show (fun W' => W'.cell? ⟨w.heap.size, 1, none⟩ = some (.slice (some ⟨b, off, none⟩) l.length cap) ∧ W'.cell? ⟨w.heap.size + 1, 1, none⟩ = some (.slice (some ⟨tb, to, none⟩) T.length cT) ∧ W'.cell? ⟨tb, to + j, none⟩ = some (.int .i64 (tn : Int)) ∧ W'.cell? ⟨b, off + n * 2, none⟩ = some (.int .i64 x1) ∧ W'.cell? ⟨b, off + n * 2 + 1, none⟩ = some (.int .i64 x2)) w5 from ⟨HS5.out.box.2.2, HS5.out.st.cells.2.1, (hb.cell (p := ⟨tb, to + j, none⟩) (World.block_lt_of_cell? _ _ HKK.out.2.2.1)).trans HKK.out.2.2.1, (hb.cell (p := ⟨b, off + n * 2, none⟩) (World.block_lt_of_cell? _ _ HKK.out.2.2.2.1)).trans HKK.out.2.2.2.1, (hb.cell (p := ⟨b, off + n * 2 + 1, none⟩) (World.block_lt_of_cell? _ _ HKK.out.2.2.2.2)).trans HKK.out.2.2.2.2⟩); clear hb))
            have HD5 := Lib.hid (HDI.out.below ((Below.refl _ _).drew.trans (HB5.out.mono (Nat.le_refl _))))
            obtain ⟨gm0, _, _, _, _, _⟩ := HD5.out.st.cells
            have hc5 := (HD5.out.row.cellAt tn (by omega)).trans (intCells_get _ tn (by rw [decL_len]; exact htP))
            have hf5 := HD5.out.row.frozenAt tn
            obtain ⟨_, gy0, gy1⟩ := HS5.out.box
            obtain ⟨ge0, ge1, ge2, _, _, _⟩ := HS5.out.st.cells
            have ht5 := HK5.out.2.2.1
            have htPi : (tn : Int) < (P : Int) := by omega
            have hdin := decL_get P k T j tn htP
            have hcj : (T.take j).count (tn : Int) ≤ 1048576 := Nat.le_trans (List.count_le_length ..) (by simp; omega)
            obtain ⟨d, hd⟩ : ∃ d, (decL P k T j).getD tn 0 = d := ⟨_, rfl⟩
            rw [hd] at hc5 hdin HTN
            clear hd
            have HTN2 := Lib.hid (show (intCells (decL P k T j)).set tn (.int .i64 (k - ((T.take j).count (tn : Int) : Int) - 1)) = intCells (decL P k T (j + 1)) by rw [← hdin]; exact HTN.out)
            go_wp2_with fail
            go_region
            go_wp2_with fail
            go_roundw
            case rel => exact ⟨j + 1, by omega, by go_num, HN.out, (HS5.out.store g tn _ (by omega) (by omega) (by omega) (by omega)).below (Below.refl _ _).drew, (HD5.out.store tn _ HTN2.out).below (Below.refl _ _).drew⟩
            case measure => simp [intOf]; omega
          have HE := Lib.hid (show endB t (x1, x2) = false by cases e : endB t (x1, x2) with | false => rfl | true => exact absurd (he.1 e) c3)
          have Q := Lib.hid (HBAD.out fun h => c3 (HDEF.out.1 h).2)
          clear c3 he
          go_wp2_with fail
          go_region_held3 (fun W' => W'.cell? ⟨w.heap.size, 1, none⟩ = some (.slice (some ⟨b, off, none⟩) l.length cap) ∧ W'.cell? ⟨w.heap.size + 1, 1, none⟩ = some (.slice (some ⟨tb, to, none⟩) T.length cT) ∧ W'.cell? ⟨tb, to + j, none⟩ = some (.int .i64 t) ∧ W'.cell? ⟨b, off + n * 2, none⟩ = some (.int .i64 x1) ∧ W'.cell? ⟨b, off + n * 2 + 1, none⟩ = some (.int .i64 x2))
            (first | exact HKK.out | exact HK5.out | fail)
            (first | (go_at_call 89; refine (hasEnd_c t (x1, x2) _).mono ?_; rintro e w5 ⟨rfl, hb⟩; rw [HE.out]; have HS5 := Lib.hid (HSD.out.below hb); have HB5 := Lib.hid hb; have HK5 := Lib.hid (show (fun W' => W'.cell? ⟨w.heap.size, 1, none⟩ = some (.slice (some ⟨b, off, none⟩) l.length cap) ∧ W'.cell? ⟨w.heap.size + 1, 1, none⟩ = some (.slice (some ⟨tb, to, none⟩) T.length cT) ∧ W'.cell? ⟨tb, to + j, none⟩ = some (.int .i64 t) ∧ W'.cell? ⟨b, off + n * 2, none⟩ = some (.int .i64 x1) ∧ W'.cell? ⟨b, off + n * 2 + 1, none⟩ = some (.int .i64 x2)) w5 from ⟨HS5.out.box.2.2, HS5.out.st.cells.2.1, (hb.cell (p := ⟨tb, to + j, none⟩) (World.block_lt_of_cell? _ _ HKK.out.2.2.1)).trans HKK.out.2.2.1, (hb.cell (p := ⟨b, off + n * 2, none⟩) (World.block_lt_of_cell? _ _ HKK.out.2.2.2.1)).trans HKK.out.2.2.2.1, (hb.cell (p := ⟨b, off + n * 2 + 1, none⟩) (World.block_lt_of_cell? _ _ HKK.out.2.2.2.2)).trans HKK.out.2.2.2.2⟩); clear hb))
          go_wp2_with fail
          go_ret
          exact ⟨by rw [Q.out]; rfl, HS5.out.bel⟩
        · obtain rfl : j = Z.length := by omega
          have HDC := Lib.hid (HDEC.out HOK.out)
          have hfin := HDI.out.row
          rw [show intCells (decL P k T Z.length) = intCells (decL P k T T.length) by rw [HTZ.out]] at hfin
          have HOI := Lib.hid (show IntsIn wr (w.heap.size + 1 + 1) wr.heap.size (some ⟨g, 0, none⟩) (decL P k T T.length) from (own_ints' (zs := decL P k T T.length) (by rw [decL_len]; exact hfin)).reads)
          clear hfin
          go_wp2_with fail
          have heq := slEqual F (decL P k T T.length) AF (some ⟨g, 0, none⟩) cF cF' lo hi _ _ _ HS.out.rows.f HOI.out hF
          rw [decL_len] at heq
          refine heq.mono ?_
          rintro e w5 ⟨rfl, hb⟩
          clear heq
          have HS5 := Lib.hid (HS.out.below hb)
          obtain ⟨gd0, gd1, gd2, _, _, _⟩ := HS5.out.st.cells
          clear hb
          by_cases c1 : F = decL P k T T.length
          · skip
            have d1 : decide (F = decL P k T T.length) = true := decide_eq_true c1
            have HF1 := Lib.hid (show F.length = P by rw [c1, decL_len])
            rw [d1] at HDC ⊢
            clear c1 d1
            go_wp2_with fail
            refine (slMin F AF cF lo hi _ HS5.out.rows.f hF (by have := HF1.out; omega)).mono ?_
            rintro e w6 ⟨y, rfl, hy, rfl⟩
            by_cases c2 : 0 ≤ y
            all_goals
              first
                | (have HY := Lib.hid (show decide (∀ j, j < F.length → 0 ≤ F.getD j 0) = true from decide_eq_true (hy.1 c2)))
                | (have HY := Lib.hid (show decide (∀ j, j < F.length → 0 ≤ F.getD j 0) = false from decide_eq_false fun h => c2 (hy.2 h)))
              clear hy
              go_wp2_with fail
              go_ret
              exact ⟨by rw [HDC.out, HY.out]; try simp; try omega, HS5.out.bel⟩
          have d1 : decide (F = decL P k T T.length) = false := decide_eq_false c1
          rw [d1] at HDC ⊢
          clear c1 d1
          go_wp2_with fail
          go_ret
          exact ⟨by rw [HDC.out]; rfl, HS5.out.bel⟩
end Go.Proofs.Ytgmcibcjplncaaa
