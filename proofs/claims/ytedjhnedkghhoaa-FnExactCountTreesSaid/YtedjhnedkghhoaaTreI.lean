/- What impl.CountTrees answers. No condition. -/
import Derived.Test.YtedjhnedkghhoaaLapM
import Derived.Test.YtedjhnedkghhoaaIsGraphI
import Derived.Test.YtedjhnedkghhoaaRowAt
import Derived.Test.YtedjhnedkghhoaaPebA
import Derived.Deep.QuietTactic
import Derived.StillTailTactics
import Derived.IntWalk
namespace Go.Proofs.Ytedjhnedkghhoaa
open Go.RowKit

/-- A square of six, as cells. -/
def matA (f : Nat → Nat → Int) : Array Value := (Array.range 36).map fun k => .int .i64 (f (k / 6) (k % 6))
theorem matA_zero : #[Value.int .i64 0, Value.int .i64 0, Value.int .i64 0, Value.int .i64 0, Value.int .i64 0, Value.int .i64 0, Value.int .i64 0, Value.int .i64 0, Value.int .i64 0, Value.int .i64 0, Value.int .i64 0, Value.int .i64 0, Value.int .i64 0, Value.int .i64 0, Value.int .i64 0, Value.int .i64 0, Value.int .i64 0, Value.int .i64 0, Value.int .i64 0, Value.int .i64 0, Value.int .i64 0, Value.int .i64 0, Value.int .i64 0, Value.int .i64 0, Value.int .i64 0, Value.int .i64 0, Value.int .i64 0, Value.int .i64 0, Value.int .i64 0, Value.int .i64 0, Value.int .i64 0, Value.int .i64 0, Value.int .i64 0, Value.int .i64 0, Value.int .i64 0, Value.int .i64 0] = matA (fun _ _ => 0) := by kernel_rfl
def updM (f : Nat → Nat → Int) (i j : Nat) (z : Int) : Nat → Nat → Int := fun r c => if r = i ∧ c = j then z else f r c
/-- The square stands in block b. -/
def MatW (W : World) (b : Nat) (f : Nat → Nat → Int) : Prop := W.heap[b]? = some (.cells (matA f) 101 (0, 0))
theorem MatW.lt {W : World} {b : Nat} {f : Nat → Nat → Int} (h : MatW W b f) : b < W.heap.size := (Array.getElem?_eq_some_iff.1 h).1
theorem matA_get (f : Nat → Nat → Int) (i j : Nat) (hi : i < 6) (hj : j < 6) : (matA f)[i * 6 + j]? = some (.int .i64 (f i j)) := by
  have h1 : (i * 6 + j) / 6 = i := by omega
  have h2 : (i * 6 + j) % 6 = j := by omega
  unfold matA
  rw [Array.getElem?_map, Array.getElem?_range]
  rw [if_pos (by omega), Option.map_some, h1, h2]
theorem matA_set (f : Nat → Nat → Int) (i j : Nat) (hi : i < 6) (hj : j < 6) (z : Int) : (matA f).setIfInBounds (i * 6 + j) (.int .i64 z) = matA (updM f i j z) := by
  apply Array.ext_getElem?
  intro k
  rw [Array.getElem?_setIfInBounds]
  have hs : (matA f).size = 36 := by simp [matA]
  by_cases e : i * 6 + j = k
  · subst e
    rw [if_pos rfl, if_pos (by omega), matA_get _ i j hi hj]
    unfold updM
    rw [if_pos ⟨rfl, rfl⟩]
  · rw [if_neg e]
    by_cases hk : k < 36
    · have hk' : k = k / 6 * 6 + k % 6 := by omega
      rw [hk', matA_get _ _ _ (by omega) (by omega), matA_get _ _ _ (by omega) (by omega)]
      unfold updM
      rw [if_neg (by omega)]
    · have hs2 : (matA (updM f i j z)).size = 36 := by simp [matA]
      rw [Array.getElem?_eq_none (by omega), Array.getElem?_eq_none (by omega)]
theorem MatW.cell {W : World} {b : Nat} {f : Nat → Nat → Int} (h : MatW W b f) (i j : Nat) (hi : i < 6) (hj : j < 6) : W.cell? ⟨b, i * 6 + j, none⟩ = some (.int .i64 (f i j)) := by
  rw [cell_of_row W b (i * 6 + j) _ 101 (0, 0) h]
  exact matA_get f i j hi hj
theorem MatW.frozen {W : World} {b : Nat} {f : Nat → Nat → Int} (h : MatW W b f) (k : Nat) : W.frozen? ⟨b, k, none⟩ = false := frozen_of_row W b k _ 101 h
theorem MatW.set {W : World} {b : Nat} {f : Nat → Nat → Int} (h : MatW W b f) (i j : Nat) (hi : i < 6) (hj : j < 6) (z : Int) : MatW (W.setCell ⟨b, i * 6 + j, none⟩ (.int .i64 z)) b (updM f i j z) := by
  have := heap_setCell_same W b (i * 6 + j) _ 101 (.int .i64 z) h
  rw [matA_set f i j hi hj z] at this
  exact this
theorem MatW.kept {W W' : World} {b : Nat} {f : Nat → Nat → Int} (h : MatW W b f) (hb : Below W.heap.size W W') : MatW W' b f := (hb.block b h.lt).trans h
theorem mat_bar (l : List (Int × Int)) (a b : Nat) (hab : a < b) : updM (updM (updM (updM (lapA l) a a (lapA l a a + 1)) b b (lapA l b b + 1)) a b (lapA l a b - 1)) b a (lapA l b a - 1) = lapA (l ++ [((a : Int), (b : Int))]) := by
  funext r c
  rw [lapA_snoc]
  unfold updM oneA endB hitB
  simp only [decide_eq_true_eq]
  by_cases h1 : r = a
  · subst h1
    by_cases h2 : c = r
    · subst h2
      simp [show ¬ c = b by omega]
    · by_cases h3 : c = b
      · subst h3
        simp [show ¬ r = c by omega, show ¬ c = r by omega]
        omega
      · simp [h2, h3, show ¬ r = b by omega, show ¬ r = c by omega]
        omega
  · by_cases h2 : r = b
    · subst h2
      by_cases h3 : c = r
      · subst h3
        simp [h1]
      · by_cases h4 : c = a
        · subst h4
          simp [h1]
          omega
        · simp [h1, h3, h4, show ¬ r = c by omega]
          omega
    · simp [h1, h2]
      by_cases h3 : r = c
      · rw [if_pos h3]; split <;> omega
      · rw [if_neg h3]; split <;> omega
/-- While the rows below v are dealt with: row i up to column j is done. -/
def ElimSt (a : Nat → Nat → Int) (n v i j : Nat) (f : Nat → Nat → Int) : Prop := ∀ r c, v ≤ r → r < n → v ≤ c → c < n → f r c = if v < r ∧ v < c ∧ (r < i ∨ (r = i ∧ c < j)) then bordD (v + 1) a r c else bordD v a r c
theorem ElimSt.begin {a : Nat → Nat → Int} {n v : Nat} {f : Nat → Nat → Int} (h : ∀ r c, v ≤ r → r < n → v ≤ c → c < n → f r c = bordD v a r c) : ElimSt a n v (v + 1) (v + 1) f := fun r c h1 h2 h3 h4 => by
  rw [if_neg (by omega)]
  exact h r c h1 h2 h3 h4
theorem ElimSt.row {a : Nat → Nat → Int} {n v i : Nat} {f : Nat → Nat → Int} (h : ElimSt a n v i n f) : ElimSt a n v (i + 1) (v + 1) f := fun r c h1 h2 h3 h4 => by
  rw [h r c h1 h2 h3 h4]
  by_cases c1 : v < r ∧ v < c ∧ (r < i ∨ (r = i ∧ c < n))
  · rw [if_pos c1, if_pos (by omega)]
  · rw [if_neg c1, if_neg (by omega)]
theorem ElimSt.step {a : Nat → Nat → Int} {n v i j : Nat} {f : Nat → Nat → Int} (h : ElimSt a n v i j f) (hi : v < i) (hj : v < j) : ElimSt a n v i (j + 1) (updM f i j (bordD (v + 1) a i j)) := fun r c h1 h2 h3 h4 => by
  unfold updM
  by_cases e : r = i ∧ c = j
  · obtain ⟨rfl, rfl⟩ := e
    rw [if_pos ⟨rfl, rfl⟩, if_pos (by omega)]
  · rw [if_neg e, h r c h1 h2 h3 h4]
    by_cases c1 : v < r ∧ v < c ∧ (r < i ∨ (r = i ∧ c < j))
    · rw [if_pos c1, if_pos (by omega)]
    · rw [if_neg c1, if_neg (by omega)]
theorem ElimSt.done {a : Nat → Nat → Int} {n v j : Nat} {f : Nat → Nat → Int} (h : ElimSt a n v n j f) : ∀ r c, v + 1 ≤ r → r < n → v + 1 ≤ c → c < n → f r c = bordD (v + 1) a r c := fun r c h1 h2 h3 h4 => by
  rw [h r c (by omega) h2 (by omega) h4, if_pos (by omega)]
theorem ElimSt.vals {a : Nat → Nat → Int} {n v i j : Nat} {f : Nat → Nat → Int} (h : ElimSt a n v i j f) (hi : v < i) (hin : i < n) (hj : v < j) (hjn : j < n) : f i j = bordD v a i j ∧ f i v = bordD v a i v ∧ f v j = bordD v a v j := by
  refine ⟨?_, ?_, ?_⟩
  · rw [h i j (by omega) hin (by omega) hjn, if_neg (by omega)]
  · rw [h i v (by omega) hin (Nat.le_refl _) (by omega), if_neg (by omega)]
  · rw [h v j (Nat.le_refl _) (by omega) (by omega) hjn, if_neg (by omega)]
theorem bordD_small {a : Nat → Nat → Int} (h : ∀ r c, -24 ≤ a r c ∧ a r c ≤ 24) {v : Nat} (hv : v ≤ 4) (i j : Nat) : -955514880 ≤ bordD v a i j ∧ bordD v a i j ≤ 955514880 := by
  have h1 := bordD_bd h v i j
  have h2 : bndD (v + 1) ≤ 955514880 := by
    match v, hv with
    | 0, _ => decide
    | 1, _ => decide
    | 2, _ => decide
    | 3, _ => decide
    | 4, _ => decide
  omega
theorem bordD_mid {a : Nat → Nat → Int} (h : ∀ r c, -24 ≤ a r c ∧ a r c ≤ 24) {v : Nat} (hv : v ≤ 3) (i j : Nat) : -7962624 ≤ bordD v a i j ∧ bordD v a i j ≤ 7962624 := by
  have h1 := bordD_bd h v i j
  have h2 : bndD (v + 1) ≤ 7962624 := by
    match v, hv with
    | 0, _ => decide
    | 1, _ => decide
    | 2, _ => decide
    | 3, _ => decide
  omega
theorem prevD_det (a : Nat → Nat → Int) : ∀ n, prevD a n = detF n a
  | 0 => rfl
  | n + 1 => bordD_det a n
theorem mat_within {W : World} {b k : Nat} (v : Value) : Within b (b + 1) W (W.setCell ⟨b, k, none⟩ v) := within_set W b k v
set_option maxHeartbeats 8000000 in
set_option maxRecDepth 100000 in
theorem implTre (p : Int) (l : List (Int × Int)) (A : Option Addr) (cap : Nat) (w : World) (hl : BarsAt w w.heap.size A l) (hn : l.length ≤ 1048576) :
    Calls Try.prog 31 #[.agg #[.int .i64 p, .slice A l.length cap]] w fun e w' => e = .returned (.int .i64 (treV p l)) ∧ Below w.heap.size w w' := by
  have HISG : ∀ W : World, BarsAt W W.heap.size A l → Calls Try.prog 102 #[.agg #[.int .i64 p, .slice A l.length cap]] W fun e w' => e = .returned (.bool (isGB p l)) ∧ Below W.heap.size W w' := fun W h => implIsGraph p l A cap W h hn
  cases hg : isGB p l with
  | false =>
    have HRV := Lib.hid (treV_no (p := p) (l := l) (.inl hg))
    rw [hg] at HISG
    clear hg
    have W0 := Lib.hid (Below.refl w.heap.size w)
    have HB_0 := Lib.hid (bars_in hl)
    clear hl
    have Z1 := Lib.hid (within_alloc w (.cells #[.int .i64 p, (.slice A l.length cap)] 30)).size
    have W1 := Lib.hid (within_on W0.out (within_alloc w (.cells #[.int .i64 p, (.slice A l.length cap)] 30)) W0.out.size (.inr (Nat.le_refl _)))
    have HB_1 := Lib.hid (HB_0.out.within (within_alloc w (.cells #[.int .i64 p, (.slice A l.length cap)] 30)) (by omega))
    have Y1 := Lib.hid (show (w.alloc (.cells #[.int .i64 p, (.slice A l.length cap)] 30)).heap.size = w.heap.size + 1 by simp)
    have hnew := box_new w p (.slice A l.length cap) 30
    have BX_1 := Lib.hid hnew
    clear hnew
    go_enter Try.func31, Try.ntmps31
    obtain ⟨g0_0, g0_1, g0_2⟩ := BX_1.out
    go_wp2_with fail
    clear g0_0 g0_1 g0_2
    generalize (w.alloc (.cells #[.int .i64 p, (.slice A l.length cap)] 30)) = w1 at *
    have HW0 := Lib.hid (HISG _ HB_1.out.at)
    clear HISG
    refine HW0.out.mono ?_
    rintro e w2 ⟨rfl, hb⟩
    have Z2 := Lib.hid (within_of hb).size
    have W2 := Lib.hid (within_on W1.out (within_of hb) W1.out.size (.inr (Nat.le_refl _)))
    have HB_2 := Lib.hid (HB_1.out.within (within_of hb) (by omega))
    have BX_2 := Lib.hid (BX_1.out.within (within_of hb) (by omega))
    clear hb
    go_wp2_with fail
    go_ret
    exact ⟨by rw [HRV.out]; rfl, W2.out⟩
  | true =>
    have hG : IsG p l := Classical.byContradiction fun g => by rw [isGB_no g] at hg; cases hg
    by_cases hp6 : 6 < p
    · have HRV := Lib.hid (treV_no (p := p) (l := l) (.inr hp6))
      have hp6' : decide (6 < p) = true := decide_eq_true hp6
      rw [hg] at HISG
      clear hg hG
      have W0 := Lib.hid (Below.refl w.heap.size w)
      have HB_0 := Lib.hid (bars_in hl)
      clear hl
      have Z1 := Lib.hid (within_alloc w (.cells #[.int .i64 p, (.slice A l.length cap)] 30)).size
      have W1 := Lib.hid (within_on W0.out (within_alloc w (.cells #[.int .i64 p, (.slice A l.length cap)] 30)) W0.out.size (.inr (Nat.le_refl _)))
      have HB_1 := Lib.hid (HB_0.out.within (within_alloc w (.cells #[.int .i64 p, (.slice A l.length cap)] 30)) (by omega))
      have Y1 := Lib.hid (show (w.alloc (.cells #[.int .i64 p, (.slice A l.length cap)] 30)).heap.size = w.heap.size + 1 by simp)
      have hnew := box_new w p (.slice A l.length cap) 30
      have BX_1 := Lib.hid hnew
      clear hnew
      go_enter Try.func31, Try.ntmps31
      obtain ⟨g0_0, g0_1, g0_2⟩ := BX_1.out
      go_wp2_with fail
      clear g0_0 g0_1 g0_2
      generalize (w.alloc (.cells #[.int .i64 p, (.slice A l.length cap)] 30)) = w1 at *
      have HW0 := Lib.hid (HISG _ HB_1.out.at)
      clear HISG
      refine HW0.out.mono ?_
      rintro e w2 ⟨rfl, hb⟩
      have Z2 := Lib.hid (within_of hb).size
      have W2 := Lib.hid (within_on W1.out (within_of hb) W1.out.size (.inr (Nat.le_refl _)))
      have HB_2 := Lib.hid (HB_1.out.within (within_of hb) (by omega))
      have BX_2 := Lib.hid (BX_1.out.within (within_of hb) (by omega))
      clear hb
      obtain ⟨g1_0, g1_1, g1_2⟩ := BX_2.out
      go_wp2_with fail
      clear g1_0 g1_1 g1_2
      go_ret
      exact ⟨by rw [HRV.out]; rfl, W2.out⟩
    · have hp6' : decide (6 < p) = false := decide_eq_false hp6
      obtain ⟨P, rfl⟩ : ∃ P : Nat, p = (P : Int) := ⟨p.toNat, by have := hG.1; omega⟩
      have hP : 1 ≤ P ∧ P ≤ 6 := by have := hG.1; omega
      obtain ⟨n, hPn⟩ : ∃ n, P = n + 1 := ⟨P - 1, by omega⟩
      have hn5 : n ≤ 5 := by omega
      have HRV := Lib.hid (show treV (P : Int) l = detF n (lapA l) by rw [hPn]; exact treV_yes (by rw [← hPn]; exact hg) hn5)
      have HPN := Lib.hid hPn
      clear hPn
      have h24 := hG.2.1
      have HGR := Lib.hid hG
      have HLB := Lib.hid (lapA_bd (l := l) h24)
      rw [hg] at HISG
      clear hg hG hp6
      have W0 := Lib.hid (Below.refl w.heap.size w)
      have HB_0 := Lib.hid (bars_in hl)
      clear hl
      have Z1 := Lib.hid (within_alloc w (.cells #[.int .i64 (P : Int), (.slice A l.length cap)] 30)).size
      have W1 := Lib.hid (within_on W0.out (within_alloc w (.cells #[.int .i64 (P : Int), (.slice A l.length cap)] 30)) W0.out.size (.inr (Nat.le_refl _)))
      have HB_1 := Lib.hid (HB_0.out.within (within_alloc w (.cells #[.int .i64 (P : Int), (.slice A l.length cap)] 30)) (by omega))
      have Y1 := Lib.hid (show (w.alloc (.cells #[.int .i64 (P : Int), (.slice A l.length cap)] 30)).heap.size = w.heap.size + 1 by simp)
      have hnew := box_new w (P : Int) (.slice A l.length cap) 30
      have BX_1 := Lib.hid hnew
      clear hnew
      go_enter Try.func31, Try.ntmps31
      obtain ⟨g0_0, g0_1, g0_2⟩ := BX_1.out
      go_wp2_with fail
      clear g0_0 g0_1 g0_2
      generalize (w.alloc (.cells #[.int .i64 (P : Int), (.slice A l.length cap)] 30)) = w1 at *
      have HW0 := Lib.hid (HISG _ HB_1.out.at)
      clear HISG
      refine HW0.out.mono ?_
      rintro e w2 ⟨rfl, hb⟩
      have Z2 := Lib.hid (within_of hb).size
      have W2 := Lib.hid (within_on W1.out (within_of hb) W1.out.size (.inr (Nat.le_refl _)))
      have HB_2 := Lib.hid (HB_1.out.within (within_of hb) (by omega))
      have BX_2 := Lib.hid (BX_1.out.within (within_of hb) (by omega))
      clear hb
      obtain ⟨g1_0, g1_1, g1_2⟩ := BX_2.out
      have HAL := Lib.hid (new_below w2 (.cells #[Value.int .i64 0, Value.int .i64 0, Value.int .i64 0, Value.int .i64 0, Value.int .i64 0, Value.int .i64 0, Value.int .i64 0, Value.int .i64 0, Value.int .i64 0, Value.int .i64 0, Value.int .i64 0, Value.int .i64 0, Value.int .i64 0, Value.int .i64 0, Value.int .i64 0, Value.int .i64 0, Value.int .i64 0, Value.int .i64 0, Value.int .i64 0, Value.int .i64 0, Value.int .i64 0, Value.int .i64 0, Value.int .i64 0, Value.int .i64 0, Value.int .i64 0, Value.int .i64 0, Value.int .i64 0, Value.int .i64 0, Value.int .i64 0, Value.int .i64 0, Value.int .i64 0, Value.int .i64 0, Value.int .i64 0, Value.int .i64 0, Value.int .i64 0, Value.int .i64 0] 101))
      have HMT := Lib.hid (show MatW (w2.alloc (.cells #[Value.int .i64 0, Value.int .i64 0, Value.int .i64 0, Value.int .i64 0, Value.int .i64 0, Value.int .i64 0, Value.int .i64 0, Value.int .i64 0, Value.int .i64 0, Value.int .i64 0, Value.int .i64 0, Value.int .i64 0, Value.int .i64 0, Value.int .i64 0, Value.int .i64 0, Value.int .i64 0, Value.int .i64 0, Value.int .i64 0, Value.int .i64 0, Value.int .i64 0, Value.int .i64 0, Value.int .i64 0, Value.int .i64 0, Value.int .i64 0, Value.int .i64 0, Value.int .i64 0, Value.int .i64 0, Value.int .i64 0, Value.int .i64 0, Value.int .i64 0, Value.int .i64 0, Value.int .i64 0, Value.int .i64 0, Value.int .i64 0, Value.int .i64 0, Value.int .i64 0] 101)) w2.heap.size (lapA (l.take 0)) from by
        have e : (lapA (l.take 0)) = fun _ _ => 0 := by
          funext r c
          unfold lapA
          simp
        rw [e]
        show (w2.alloc (.cells #[Value.int .i64 0, Value.int .i64 0, Value.int .i64 0, Value.int .i64 0, Value.int .i64 0, Value.int .i64 0, Value.int .i64 0, Value.int .i64 0, Value.int .i64 0, Value.int .i64 0, Value.int .i64 0, Value.int .i64 0, Value.int .i64 0, Value.int .i64 0, Value.int .i64 0, Value.int .i64 0, Value.int .i64 0, Value.int .i64 0, Value.int .i64 0, Value.int .i64 0, Value.int .i64 0, Value.int .i64 0, Value.int .i64 0, Value.int .i64 0, Value.int .i64 0, Value.int .i64 0, Value.int .i64 0, Value.int .i64 0, Value.int .i64 0, Value.int .i64 0, Value.int .i64 0, Value.int .i64 0, Value.int .i64 0, Value.int .i64 0, Value.int .i64 0, Value.int .i64 0] 101)).heap[w2.heap.size]? = some (.cells (matA (fun _ _ => 0)) 101 (0, 0))
        rw [← matA_zero]
        exact heap_alloc_new w2 _)
      go_wp2_with fail
      clear g1_0 g1_1 g1_2
      generalize w2.alloc (.cells #[Value.int .i64 0, Value.int .i64 0, Value.int .i64 0, Value.int .i64 0, Value.int .i64 0, Value.int .i64 0, Value.int .i64 0, Value.int .i64 0, Value.int .i64 0, Value.int .i64 0, Value.int .i64 0, Value.int .i64 0, Value.int .i64 0, Value.int .i64 0, Value.int .i64 0, Value.int .i64 0, Value.int .i64 0, Value.int .i64 0, Value.int .i64 0, Value.int .i64 0, Value.int .i64 0, Value.int .i64 0, Value.int .i64 0, Value.int .i64 0, Value.int .i64 0, Value.int .i64 0, Value.int .i64 0, Value.int .i64 0, Value.int .i64 0, Value.int .i64 0, Value.int .i64 0, Value.int .i64 0, Value.int .i64 0, Value.int .i64 0, Value.int .i64 0, Value.int .i64 0] 101) = wM at *
      go_loopw [23] (fun i wr => ∃ j : Nat, j ≤ l.length ∧ i = .int .i64 j ∧ MatW wr w2.heap.size (lapA (l.take j)) ∧ Within w2.heap.size (w2.heap.size + 1) wM wr) (fun i _ => l.length - (intOf i).toNat)
      case atStart => exact ⟨0, Nat.zero_le _, rfl, HMT.out, Within.refl _ _ _⟩
      case round =>
        obtain ⟨j, hj, rfl, hm, hw⟩ := hrel
        have HM := Lib.hid hm
        have HW := Lib.hid hw
        have HBW := Lib.hid ((HB_2.out.within (within_of HAL.out) (.inr (Nat.zero_le _))).within hw (.inl (by have := BX_2.out.1; omega)))
        have BXW := Lib.hid ((BX_2.out.kept HAL.out).within hw (.inl BX_2.out.1))
        clear hm hw
        by_cases hlt : j < l.length
        · have hji : (j : Int) < (l.length : Int) := by omega
          obtain ⟨b0, off, rfl, _, _, hcell⟩ := HBW.out.2 (by omega)
          have hc1 := (hcell j hlt).1
          have hc2 := (hcell j hlt).2
          have hbar := isG_bar HGR.out j hlt
          have HSTEP := Lib.hid (take_getD l (0, 0) j hlt)
          obtain ⟨x, hx⟩ : ∃ x, l.getD j (0, 0) = x := ⟨_, rfl⟩
          rw [hx] at hc1 hc2 hbar HSTEP
          clear hx hcell
          obtain ⟨x1, x2⟩ := x
          simp only at hc1 hc2 hbar
          obtain ⟨a, rfl⟩ : ∃ a : Nat, x1 = (a : Int) := ⟨x1.toNat, by omega⟩
          obtain ⟨b, rfl⟩ : ∃ b : Nat, x2 = (b : Int) := ⟨x2.toNat, by omega⟩
          have hab : a < b := by omega
          have ha6 : a < 6 := by omega
          have hb6 : b < 6 := by omega
          have ha6i : (a : Int) < 6 := by omega
          have hb6i : (b : Int) < 6 := by omega
          have HMB := Lib.hid (mat_bar (l.take j) a b hab)
          have hlb := fun r c => lapA_bd (l := l.take j) (by rw [List.length_take]; omega) r c
          have HLK := Lib.hid hlb
          generalize lapA (l.take j) = f at *
          have hal := new_below wr (.cells #[.int .i64 (a : Int), .int .i64 (b : Int)] 103)
          have HM1 := Lib.hid (HM.out.kept hal)
          have HWB := Lib.hid hal
          have hbx := And.intro (show (wr.alloc (.cells #[.int .i64 (a : Int), .int .i64 (b : Int)] 103)).cell? ⟨wr.heap.size, 0, none⟩ = some (.int .i64 (a : Int)) from World.cell?_alloc_at _ _ _ _ rfl) (show (wr.alloc (.cells #[.int .i64 (a : Int), .int .i64 (b : Int)] 103)).cell? ⟨wr.heap.size, 1, none⟩ = some (.int .i64 (b : Int)) from World.cell?_alloc_at _ _ _ _ rfl)
          have HXB := Lib.hid (show w2.heap.size < wr.heap.size from HM.out.lt)
          have hq0 := hbx.1
          have hq1 := hbx.2
          have hbl : wr.heap.size < (wr.alloc (.cells #[.int .i64 (a : Int), .int .i64 (b : Int)] 103)).heap.size := by simp
          have hwt : Within w2.heap.size (w2.heap.size + 1) wM (wr.alloc (.cells #[.int .i64 (a : Int), .int .i64 (b : Int)] 103)) := ⟨hal.os.trans HW.out.os, hal.tape.trans HW.out.tape, hal.output.trans HW.out.output, Nat.le_trans HW.out.size hal.size, fun k hk hd => (hal.block k (Nat.lt_of_lt_of_le hk HW.out.size)).trans (HW.out.block k hk hd)⟩
          clear hal hbar hbx
          have hfz : f a a = f a a := rfl
          have hmc := (HM1.out.cell a a (by omega) (by omega))
          rw [hfz] at hmc
          have hmf := HM1.out.frozen (a * 6 + a)
          have hzb := HLK.out a a
          have HN1 := Lib.hid (fun z : Int => ((HM1.out.set a a (by omega) (by omega) z).kept ((Below.refl _ _).drew)))
          have hxk := fun z : Int => (within_set (wr.alloc (.cells #[.int .i64 (a : Int), .int .i64 (b : Int)] 103)) w2.heap.size (a * 6 + a) (.int .i64 z))
          have HX1 := Lib.hid (fun z : Int => (⟨(hxk z).os, (hxk z).tape, (hxk z).output, (hxk z).size, (hxk z).block⟩ : Within w2.heap.size (w2.heap.size + 1) (wr.alloc (.cells #[.int .i64 (a : Int), .int .i64 (b : Int)] 103)) ((wr.alloc (.cells #[.int .i64 (a : Int), .int .i64 (b : Int)] 103)).setCell ⟨w2.heap.size, a * 6 + a, none⟩ (.int .i64 z)).drew))
          obtain ⟨z, hz⟩ : ∃ z, f a a = z := ⟨_, rfl⟩
          rw [hz] at hmc hzb
          have HZ1 := Lib.hid hz
          have hzw : IntKind.i64.wrap (z + 1) = z + 1 := IntWalk.i64_in _ (by omega)
          clear hfz hxk hz
          go_wp2_with fail
          generalize wr.alloc (.cells #[.int .i64 (a : Int), .int .i64 (b : Int)] 103) = v0 at *
          go_still_tail 10, (by kernel_rfl)
          change wpList _ _ _ _ _ v0.drew
          have q0 : v0.drew.cell? ⟨wr.heap.size, 0, none⟩ = some (.int .i64 (a : Int)) := hq0
          have q1 : v0.drew.cell? ⟨wr.heap.size, 1, none⟩ = some (.int .i64 (b : Int)) := hq1
          have hmc' : v0.drew.cell? ⟨w2.heap.size, a * 6 + a, none⟩ = some (.int .i64 z) := hmc
          have hmf' : v0.drew.frozen? ⟨w2.heap.size, a * 6 + a, none⟩ = false := hmf
          clear hmc hmf
          go_wp2_with fail
          clear q0 q1 hmc' hmf' hzb hzw
          have HM2 := Lib.hid (show MatW (v0.setCell ⟨w2.heap.size, a * 6 + a, none⟩ (.int .i64 (z + 1))).drew w2.heap.size (updM f a a (f a a + 1)) from by rw [HZ1.out]; exact HN1.out _)
          have HXX := Lib.hid (HX1.out (z + 1))
          have hq0' := (World.cell?_of_block (a := ⟨wr.heap.size, 0, none⟩) (HXX.out.block wr.heap.size hbl (.inr (by have := HXB.out; omega)))).trans hq0
          have hq1' := (World.cell?_of_block (a := ⟨wr.heap.size, 1, none⟩) (HXX.out.block wr.heap.size hbl (.inr (by have := HXB.out; omega)))).trans hq1
          have hbl' := Nat.lt_of_lt_of_le hbl HXX.out.size
          have hwt' := hwt.trans HXX.out
          clear hq0 hq1 hbl hwt
          generalize (v0.setCell ⟨w2.heap.size, a * 6 + a, none⟩ (.int .i64 (z + 1))).drew = v1 at *
          clear HXX HN1 HX1
          have hq0 := hq0'
          have hq1 := hq1'
          have hbl := hbl'
          have hwt := hwt'
          clear hq0' hq1' hbl' hwt'
          have hfz : (updM f a a (f a a + 1)) b b = f b b := by unfold updM; rw [if_neg (by omega)]
          have hmc := (HM2.out.cell b b (by omega) (by omega))
          rw [hfz] at hmc
          have hmf := HM2.out.frozen (b * 6 + b)
          have hzb := HLK.out b b
          have HN2 := Lib.hid (fun z : Int => ((HM2.out.set b b (by omega) (by omega) z).kept ((Below.refl _ _).drew)))
          have hxk := fun z : Int => (within_set v1 w2.heap.size (b * 6 + b) (.int .i64 z))
          have HX2 := Lib.hid (fun z : Int => (⟨(hxk z).os, (hxk z).tape, (hxk z).output, (hxk z).size, (hxk z).block⟩ : Within w2.heap.size (w2.heap.size + 1) v1 (v1.setCell ⟨w2.heap.size, b * 6 + b, none⟩ (.int .i64 z)).drew))
          obtain ⟨z, hz⟩ : ∃ z, f b b = z := ⟨_, rfl⟩
          rw [hz] at hmc hzb
          have HZ2 := Lib.hid hz
          have hzw : IntKind.i64.wrap (z + 1) = z + 1 := IntWalk.i64_in _ (by omega)
          clear hfz hxk hz
          skip
          go_still_tail 10, (by kernel_rfl)
          change wpList _ _ _ _ _ v1.drew
          have q0 : v1.drew.cell? ⟨wr.heap.size, 0, none⟩ = some (.int .i64 (a : Int)) := hq0
          have q1 : v1.drew.cell? ⟨wr.heap.size, 1, none⟩ = some (.int .i64 (b : Int)) := hq1
          have hmc' : v1.drew.cell? ⟨w2.heap.size, b * 6 + b, none⟩ = some (.int .i64 z) := hmc
          have hmf' : v1.drew.frozen? ⟨w2.heap.size, b * 6 + b, none⟩ = false := hmf
          clear hmc hmf
          go_wp2_with fail
          clear q0 q1 hmc' hmf' hzb hzw
          have HM3 := Lib.hid (show MatW (v1.setCell ⟨w2.heap.size, b * 6 + b, none⟩ (.int .i64 (z + 1))).drew w2.heap.size (updM (updM f a a (f a a + 1)) b b (f b b + 1)) from by rw [HZ2.out]; exact HN2.out _)
          have HXX := Lib.hid (HX2.out (z + 1))
          have hq0' := (World.cell?_of_block (a := ⟨wr.heap.size, 0, none⟩) (HXX.out.block wr.heap.size hbl (.inr (by have := HXB.out; omega)))).trans hq0
          have hq1' := (World.cell?_of_block (a := ⟨wr.heap.size, 1, none⟩) (HXX.out.block wr.heap.size hbl (.inr (by have := HXB.out; omega)))).trans hq1
          have hbl' := Nat.lt_of_lt_of_le hbl HXX.out.size
          have hwt' := hwt.trans HXX.out
          clear hq0 hq1 hbl hwt
          generalize (v1.setCell ⟨w2.heap.size, b * 6 + b, none⟩ (.int .i64 (z + 1))).drew = v2 at *
          clear HXX HN2 HX2
          have hq0 := hq0'
          have hq1 := hq1'
          have hbl := hbl'
          have hwt := hwt'
          clear hq0' hq1' hbl' hwt'
          have hfz : (updM (updM f a a (f a a + 1)) b b (f b b + 1)) a b = f a b := by unfold updM; rw [if_neg (by omega), if_neg (by omega)]
          have hmc := (HM3.out.cell a b (by omega) (by omega))
          rw [hfz] at hmc
          have hmf := HM3.out.frozen (a * 6 + b)
          have hzb := HLK.out a b
          have HN3 := Lib.hid (fun z : Int => ((HM3.out.set a b (by omega) (by omega) z).kept ((Below.refl _ _).drew)))
          have hxk := fun z : Int => (within_set v2 w2.heap.size (a * 6 + b) (.int .i64 z))
          have HX3 := Lib.hid (fun z : Int => (⟨(hxk z).os, (hxk z).tape, (hxk z).output, (hxk z).size, (hxk z).block⟩ : Within w2.heap.size (w2.heap.size + 1) v2 (v2.setCell ⟨w2.heap.size, a * 6 + b, none⟩ (.int .i64 z)).drew))
          obtain ⟨z, hz⟩ : ∃ z, f a b = z := ⟨_, rfl⟩
          rw [hz] at hmc hzb
          have HZ3 := Lib.hid hz
          have hzw : IntKind.i64.wrap (z - 1) = z - 1 := IntWalk.i64_in _ (by omega)
          clear hfz hxk hz
          skip
          go_still_tail 10, (by kernel_rfl)
          change wpList _ _ _ _ _ v2.drew
          have q0 : v2.drew.cell? ⟨wr.heap.size, 0, none⟩ = some (.int .i64 (a : Int)) := hq0
          have q1 : v2.drew.cell? ⟨wr.heap.size, 1, none⟩ = some (.int .i64 (b : Int)) := hq1
          have hmc' : v2.drew.cell? ⟨w2.heap.size, a * 6 + b, none⟩ = some (.int .i64 z) := hmc
          have hmf' : v2.drew.frozen? ⟨w2.heap.size, a * 6 + b, none⟩ = false := hmf
          clear hmc hmf
          go_wp2_with fail
          clear q0 q1 hmc' hmf' hzb hzw
          have HM4 := Lib.hid (show MatW (v2.setCell ⟨w2.heap.size, a * 6 + b, none⟩ (.int .i64 (z - 1))).drew w2.heap.size (updM (updM (updM f a a (f a a + 1)) b b (f b b + 1)) a b (f a b - 1)) from by rw [HZ3.out]; exact HN3.out _)
          have HXX := Lib.hid (HX3.out (z - 1))
          have hq0' := (World.cell?_of_block (a := ⟨wr.heap.size, 0, none⟩) (HXX.out.block wr.heap.size hbl (.inr (by have := HXB.out; omega)))).trans hq0
          have hq1' := (World.cell?_of_block (a := ⟨wr.heap.size, 1, none⟩) (HXX.out.block wr.heap.size hbl (.inr (by have := HXB.out; omega)))).trans hq1
          have hbl' := Nat.lt_of_lt_of_le hbl HXX.out.size
          have hwt' := hwt.trans HXX.out
          clear hq0 hq1 hbl hwt
          generalize (v2.setCell ⟨w2.heap.size, a * 6 + b, none⟩ (.int .i64 (z - 1))).drew = v3 at *
          clear HXX HN3 HX3
          have hq0 := hq0'
          have hq1 := hq1'
          have hbl := hbl'
          have hwt := hwt'
          clear hq0' hq1' hbl' hwt'
          have hfz : (updM (updM (updM f a a (f a a + 1)) b b (f b b + 1)) a b (f a b - 1)) b a = f b a := by unfold updM; rw [if_neg (by omega), if_neg (by omega), if_neg (by omega)]
          have hmc := (HM4.out.cell b a (by omega) (by omega))
          rw [hfz] at hmc
          have hmf := HM4.out.frozen (b * 6 + a)
          have hzb := HLK.out b a
          have HN4 := Lib.hid (fun z : Int => ((HM4.out.set b a (by omega) (by omega) z).kept ((Below.refl _ _).drew)))
          have hxk := fun z : Int => (within_set v3 w2.heap.size (b * 6 + a) (.int .i64 z))
          have HX4 := Lib.hid (fun z : Int => (⟨(hxk z).os, (hxk z).tape, (hxk z).output, (hxk z).size, (hxk z).block⟩ : Within w2.heap.size (w2.heap.size + 1) v3 (v3.setCell ⟨w2.heap.size, b * 6 + a, none⟩ (.int .i64 z)).drew))
          obtain ⟨z, hz⟩ : ∃ z, f b a = z := ⟨_, rfl⟩
          rw [hz] at hmc hzb
          have HZ4 := Lib.hid hz
          have hzw : IntKind.i64.wrap (z - 1) = z - 1 := IntWalk.i64_in _ (by omega)
          clear hfz hxk hz
          skip
          go_still_tail 10, (by kernel_rfl)
          change wpList _ _ _ _ _ v3.drew
          have q0 : v3.drew.cell? ⟨wr.heap.size, 0, none⟩ = some (.int .i64 (a : Int)) := hq0
          have q1 : v3.drew.cell? ⟨wr.heap.size, 1, none⟩ = some (.int .i64 (b : Int)) := hq1
          have hmc' : v3.drew.cell? ⟨w2.heap.size, b * 6 + a, none⟩ = some (.int .i64 z) := hmc
          have hmf' : v3.drew.frozen? ⟨w2.heap.size, b * 6 + a, none⟩ = false := hmf
          clear hmc hmf
          go_wp2_with fail
          clear q0 q1 hmc' hmf' hzb hzw
          have HM5 := Lib.hid (show MatW (v3.setCell ⟨w2.heap.size, b * 6 + a, none⟩ (.int .i64 (z - 1))).drew w2.heap.size (updM (updM (updM (updM f a a (f a a + 1)) b b (f b b + 1)) a b (f a b - 1)) b a (f b a - 1)) from by rw [HZ4.out]; exact HN4.out _)
          have HXX := Lib.hid (HX4.out (z - 1))
          have hq0' := (World.cell?_of_block (a := ⟨wr.heap.size, 0, none⟩) (HXX.out.block wr.heap.size hbl (.inr (by have := HXB.out; omega)))).trans hq0
          have hq1' := (World.cell?_of_block (a := ⟨wr.heap.size, 1, none⟩) (HXX.out.block wr.heap.size hbl (.inr (by have := HXB.out; omega)))).trans hq1
          have hbl' := Nat.lt_of_lt_of_le hbl HXX.out.size
          have hwt' := hwt.trans HXX.out
          clear hq0 hq1 hbl hwt
          generalize (v3.setCell ⟨w2.heap.size, b * 6 + a, none⟩ (.int .i64 (z - 1))).drew = v4 at *
          clear HXX HN4 HX4
          have hq0 := hq0'
          have hq1 := hq1'
          have hbl := hbl'
          have hwt := hwt'
          clear hq0' hq1' hbl' hwt'
          go_roundw
          case rel => exact ⟨j + 1, by omega, by go_num, by have := HM5.out; rw [HMB.out, ← HSTEP.out] at this; exact this, hwt⟩
          case measure => simp [intOf]; omega
        · obtain rfl : j = l.length := by omega
          rw [List.take_length] at HM
          obtain ⟨g0, g1, g2⟩ := BXW.out
          have HLP := Lib.hid (lapA_lapl n l fun x hx => by
            obtain ⟨i, hi, rfl⟩ := List.getElem_of_mem hx
            have := isG_bar HGR.out i hi
            rw [show l.getD i (0, 0) = l[i] by simp [List.getD, List.getElem?_eq_getElem hi]] at this
            exact ⟨this.1, this.2.1⟩)
          have hPe := HPN.out
          have hcs : (P : Int) - 1 = (n : Int) := by omega
          have hcw : IntKind.i64.wrap ((P : Int) - 1) = (n : Int) := by rw [hcs]; exact IntWalk.i64_in _ (by omega)
          clear hPe
          have HM0 := Lib.hid HM.out
          have HW0' := Lib.hid HW.out
          go_wp2_with fail
          clear g0 g1 g2
          obtain ⟨wa, rfl⟩ : ∃ x, x = wr := ⟨wr, rfl⟩
          go_loopw [7, 72] (fun mi i wr => ∃ (v : Nat) (f : Nat → Nat → Int), v ≤ n ∧ i = .int .i64 v ∧ mi = .int .i64 (prevD (lapA l) v) ∧ MatW wr w2.heap.size f ∧ (∀ r c, v ≤ r → r < n → v ≤ c → c < n → f r c = bordD v (lapA l) r c) ∧ (∀ u, u < v → bordD u (lapA l) u u ≠ 0) ∧ Within w2.heap.size (w2.heap.size + 1) wM wr) (fun _ i _ => n - (intOf i).toNat)
          case atStart => exact ⟨0, lapA l, Nat.zero_le _, rfl, rfl, HM0.out, fun r c _ _ _ _ => by rw [bord_0]; simp, fun u hu => absurd hu (Nat.not_lt_zero _), HW0'.out⟩
          case round =>
            obtain ⟨v, f, hv, rfl, rfl, hm, hf, hnz, hw⟩ := hrel
            have HMV := Lib.hid hm
            have HFV := Lib.hid hf
            have HNZ := Lib.hid hnz
            have HWV := Lib.hid hw
            clear hm hf hnz hw
            by_cases hvn : v < n
            · have hvi : (v : Int) < (n : Int) := by omega
              have hv6i : (v : Int) < 6 := by omega
              have hmc := HMV.out.cell v v (by omega) (by omega)
              rw [HFV.out v v (Nat.le_refl _) hvn (Nat.le_refl _) hvn] at hmc
              have HPB := Lib.hid (bordD_small HLB.out (v := v) (by omega) v v)
              have HPR := Lib.hid (show prevD (lapA l) (v + 1) = bordD v (lapA l) v v from rfl)
              have HPZ := Lib.hid (fun h : bordD v (lapA l) v v = 0 => lapl_zero HLP.out hn5 hvn HNZ.out h)
              obtain ⟨q, hq⟩ : ∃ q, bordD v (lapA l) v v = q := ⟨_, rfl⟩
              have HQ := Lib.hid hq
              rw [hq] at hmc HPB HPR HPZ
              clear hq
              obtain ⟨qb, hqb⟩ : ∃ qb, prevD (lapA l) v = qb := ⟨_, rfl⟩
              have HQB := Lib.hid hqb
              rw [hqb]
              clear hqb
              by_cases hq0 : q = 0
              · have hq0' : (q == 0) = true := by simpa using hq0
                have HD := Lib.hid (HPZ.out hq0)
                clear hq0
                go_wp2_with fail
                go_ret
                exact ⟨by rw [HRV.out, HD.out]; rfl, within_on (below_on W2.out HAL.out W2.out.size) HWV.out (below_on W2.out HAL.out W2.out.size).size (.inl W2.out.size)⟩
              · have hq0' : (q == 0) = false := by simpa using hq0
                have HQN := Lib.hid hq0
                clear hq0
                go_wp2_with fail
                obtain ⟨wv, rfl⟩ : ∃ x, x = wr := ⟨wr, rfl⟩
                have HS0 := Lib.hid (ElimSt.begin HFV.out)
                go_loopw [10] (fun k wr => ∃ (i : Nat) (g : Nat → Nat → Int), v + 1 ≤ i ∧ i ≤ n ∧ k = .int .i64 i ∧ MatW wr w2.heap.size g ∧ ElimSt (lapA l) n v i (v + 1) g ∧ Within w2.heap.size (w2.heap.size + 1) wM wr) (fun k _ => n - (intOf k).toNat)
                case atStart => exact ⟨v + 1, f, Nat.le_refl _, by omega, by go_num, HMV.out, HS0.out, HWV.out⟩
                case round =>
                  obtain ⟨i, g, hvi', hin, rfl, hm, hs, hw⟩ := hrel
                  have HMI := Lib.hid hm
                  have HSI := Lib.hid hs
                  have HWI := Lib.hid hw
                  clear hm hs hw
                  by_cases hin' : i < n
                  · have hii : (i : Int) < (n : Int) := by omega
                    go_wp2_with fail
                    obtain ⟨wi, rfl⟩ : ∃ x, x = wr := ⟨wr, rfl⟩
                    go_loopw [11] (fun k wr => ∃ (c : Nat) (g : Nat → Nat → Int), v + 1 ≤ c ∧ c ≤ n ∧ k = .int .i64 c ∧ MatW wr w2.heap.size g ∧ ElimSt (lapA l) n v i c g ∧ Within w2.heap.size (w2.heap.size + 1) wM wr) (fun k _ => n - (intOf k).toNat)
                    case atStart => exact ⟨v + 1, g, Nat.le_refl _, by omega, by go_num, HMI.out, HSI.out, HWI.out⟩
                    case round =>
                      obtain ⟨c, h, hvc, hcn, rfl, hm, hs, hw⟩ := hrel
                      have HMC := Lib.hid hm
                      have HSC := Lib.hid hs
                      have HWC := Lib.hid hw
                      clear hm hs hw
                      by_cases hcn' : c < n
                      · have hci : (c : Int) < (n : Int) := by omega
                        have hi6i : (i : Int) < 6 := by omega
                        have hc6i : (c : Int) < 6 := by omega
                        have hvals := HSC.out.vals (by omega) hin' (by omega) hcn'
                        have m1 := HMC.out.cell i c (by omega) (by omega)
                        have m2 := HMC.out.cell i v (by omega) (by omega)
                        have m3 := HMC.out.cell v c (by omega) (by omega)
                        have mf := HMC.out.frozen (i * 6 + c)
                        rw [hvals.1] at m1
                        rw [hvals.2.1] at m2
                        rw [hvals.2.2] at m3
                        have b1 := bordD_mid HLB.out (v := v) (by omega) i c
                        have b2 := bordD_mid HLB.out (v := v) (by omega) i v
                        have b3 := bordD_mid HLB.out (v := v) (by omega) v c
                        have b4 := bordD_mid HLB.out (v := v) (by omega) v v
                        have b5 := bordD_small HLB.out (v := v + 1) (by omega) i c
                        have hdv := lapl_div HLP.out hn5 (v := v) (by omega) HNZ.out i c
                        rw [HQ.out, HQB.out] at hdv
                        rw [HQ.out] at b4
                        have HNX := Lib.hid (HSC.out.step (by omega) (by omega))
                        have HPP := Lib.hid (lapl_run HLP.out hn5 v hvn HNZ.out).2
                        have hqbp : 0 < qb := by rw [← HQB.out]; exact HPP.out
                        obtain ⟨x, hx⟩ : ∃ x, bordD v (lapA l) i c = x := ⟨_, rfl⟩
                        obtain ⟨y, hy⟩ : ∃ y, bordD v (lapA l) i v = y := ⟨_, rfl⟩
                        obtain ⟨z, hz⟩ : ∃ z, bordD v (lapA l) v c = z := ⟨_, rfl⟩
                        obtain ⟨d, hd⟩ : ∃ d, bordD (v + 1) (lapA l) i c = d := ⟨_, rfl⟩
                        rw [hx] at m1 b1 hdv
                        rw [hy] at m2 b2 hdv
                        rw [hz] at m3 b3 hdv
                        rw [hd] at b5 hdv HNX
                        have p1 := mul_bd (x := x) (y := q) (B := 7962624) (C := 7962624) b1 b4
                        have p2 := mul_bd (x := y) (y := z) (B := 7962624) (C := 7962624) b2 b3
                        clear hx hy hz hd hvals b1 b2 b3 b4
                        obtain ⟨r1, hr1⟩ : ∃ r1, x * q = r1 := ⟨_, rfl⟩
                        obtain ⟨r2, hr2⟩ : ∃ r2, y * z = r2 := ⟨_, rfl⟩
                        rw [hr1] at p1 hdv
                        rw [hr2] at p2 hdv
                        have hw1 : IntKind.i64.wrap (x * q) = r1 := by rw [hr1]; exact IntWalk.i64_in _ (by omega)
                        have hw2 : IntKind.i64.wrap (y * z) = r2 := by rw [hr2]; exact IntWalk.i64_in _ (by omega)
                        have hw3 : IntKind.i64.wrap (r1 - r2) = r1 - r2 := IntWalk.i64_in _ (by omega)
                        have hw4 : IntKind.i64.wrap d = d := IntWalk.i64_in _ (by omega)
                        have hqb0 : (qb == 0) = false := by rw [beq_eq_false_iff_ne]; omega
                        have hqb1 : ¬ qb = 0 := by omega
                        have HST := Lib.hid (HMC.out.set i c (by omega) (by omega) d)
                        have hxk := within_set wr w2.heap.size (i * 6 + c) (.int .i64 d)
                        have HWK := Lib.hid (HWC.out.trans hxk)
                        clear hr1 hr2 p1 p2 b5 hxk
                        go_wp2_with fail
                        go_still_tail 25, (by kernel_rfl)
                        change wpList _ _ _ _ _ wr.drew
                        have mf' : wr.drew.frozen? ⟨w2.heap.size, i * 6 + c, none⟩ = false := mf
                        have m1' : wr.drew.cell? ⟨w2.heap.size, i * 6 + c, none⟩ = some (.int .i64 x) := m1
                        go_wp2_with fail
                        have HWD := Lib.hid (show Within w2.heap.size (w2.heap.size + 1) wM (wr.setCell ⟨w2.heap.size, i * 6 + c, none⟩ (.int .i64 d)).drew from ⟨HWK.out.os, HWK.out.tape, HWK.out.output, HWK.out.size, HWK.out.block⟩)
                        go_roundw
                        case rel => exact ⟨c + 1, updM h i c d, by omega, by omega, by go_num, HST.out.kept ((Below.refl _ _).drew), HNX.out, HWD.out⟩
                        case measure => simp [intOf]; omega
                      · obtain rfl : c = n := by omega
                        have HR1 := Lib.hid HSC.out.row
                        go_wp2_with fail
                        go_roundw
                        case rel => exact ⟨i + 1, h, by omega, by omega, by go_num, HMC.out, HR1.out, HWC.out⟩
                        case measure => simp [intOf]; omega
                  · obtain rfl : i = n := by omega
                    have HDN := Lib.hid HSI.out.done
                    go_wp2_with fail
                    go_roundw
                    case rel => exact ⟨v + 1, g, by omega, by go_num, by rw [HPR.out], HMI.out, HDN.out, fun u hu => by
                      by_cases e : u = v
                      · rw [e, HQ.out]; exact HQN.out
                      · exact HNZ.out u (by omega), HWI.out⟩
                    case measure => simp [intOf]; omega
            · obtain rfl : v = n := by omega
              have HE := Lib.hid (prevD_det (lapA l) v)
              go_wp2_with fail
              go_ret
              exact ⟨by rw [HRV.out, ← HE.out]; rfl, within_on (below_on W2.out HAL.out W2.out.size) HWV.out (below_on W2.out HAL.out W2.out.size).size (.inl W2.out.size)⟩
end Go.Proofs.Ytedjhnedkghhoaa
