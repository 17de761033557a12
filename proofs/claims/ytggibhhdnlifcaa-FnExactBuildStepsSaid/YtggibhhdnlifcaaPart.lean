/- The first bar between two points is taken away: what impl.Graph.parted answers. No condition. -/
import Derived.Test.YtggibhhdnlifcaaJoin
import Derived.Test.YtggibhhdnlifcaaCount
import Derived.Test.YtggibhhdnlifcaaRemove
namespace Go.Proofs.Ytggibhhdnlifcaa
open Go.RowKit

set_option maxHeartbeats 1000000 in
set_option maxRecDepth 100000 in
theorem part_c (a b : Int) (x : Int × Int) (ba bb : Nat) (w : World) (ha : w.cell? ⟨ba, 0, none⟩ = some (.int .i64 a)) (hb : w.cell? ⟨bb, 0, none⟩ = some (.int .i64 b)) (hla : ba < w.heap.size) (hlb : bb < w.heap.size) :
    Calls Try.prog 167 #[.agg #[.int .i64 x.1, .int .i64 x.2], .pointer (some ⟨ba, 0, none⟩), .pointer (some ⟨bb, 0, none⟩)] w fun e w' => e = .returned (.bool (hitB a b x)) ∧ Below w.heap.size w w' := by
  obtain ⟨x1, x2⟩ := x
  dsimp only
  have hA := new_below w (.cells #[.int .i64 x1, .int .i64 x2] 103)
  have HA := Lib.hid hA
  have h1 := (hA.cell (p := ⟨ba, 0, none⟩) hla).trans ha
  have h2 := (hA.cell (p := ⟨bb, 0, none⟩) hlb).trans hb
  have HBX := Lib.hid (box_new w x1 (.int .i64 x2) 103)
  clear ha hb hA
  go_enter Try.func167, Try.ntmps167
  obtain ⟨g0, g1, g2⟩ := HBX.out
  go_wp2_with fail
  clear g0 g1 g2 h1 h2
  generalize (w.alloc (.cells #[.int .i64 x1, .int .i64 x2] 103)) = w1 at *
  refine (joins_c a b (x1, x2) w1).mono ?_
  rintro e w2 ⟨rfl, hb2⟩
  have HB2 := Lib.hid (below_on HA.out hb2 HA.out.size)
  clear hb2
  go_wp2_with fail
  go_ret
  exact ⟨rfl, HB2.out⟩

set_option maxHeartbeats 2000000 in
set_option maxRecDepth 100000 in
theorem idxB_c (a b : Int) (l : List (Int × Int)) (A : Option Addr) (cap : Nat) (ba bb : Nat) (w : World) (hl : BarsAt w w.heap.size A l) (hn : l.length ≤ 1048576) (ha : w.cell? ⟨ba, 0, none⟩ = some (.int .i64 a)) (hb : w.cell? ⟨bb, 0, none⟩ = some (.int .i64 b)) (hla : ba < w.heap.size) (hlb : bb < w.heap.size) :
    Calls Try.prog 166 #[.slice A l.length cap, .func (.func 167) #[] #[.pointer (some ⟨ba, 0, none⟩), .pointer (some ⟨bb, 0, none⟩)]] w fun e w' => Below w.heap.size w w' ∧ ((e = .returned (.int .i64 (-1)) ∧ ∀ j : Nat, j < l.length → hitB a b (l.getD j (0, 0)) = false) ∨ ∃ i : Nat, i < l.length ∧ e = .returned (.int .i64 (i : Int)) ∧ hitB a b (l.getD i (0, 0)) = true ∧ ∀ j : Nat, j < i → hitB a b (l.getD j (0, 0)) = false) := by
  have HL := Lib.hid hl
  have HAB := Lib.hid (show ∀ W : World, Below w.heap.size w W → (W.cell? ⟨ba, 0, none⟩ = some (.int .i64 a) ∧ W.cell? ⟨bb, 0, none⟩ = some (.int .i64 b)) ∧ ba < W.heap.size ∧ bb < W.heap.size from fun W h => ⟨⟨(h.cell (p := ⟨ba, 0, none⟩) hla).trans ha, (h.cell (p := ⟨bb, 0, none⟩) hlb).trans hb⟩, Nat.lt_of_lt_of_le hla h.size, Nat.lt_of_lt_of_le hlb h.size⟩)
  clear hl ha hb hla hlb
  go_enter Try.func166, Try.ntmps166
  go_wp2_with fail
  go_loopw [8] (fun i wr => ∃ k : Nat, k ≤ l.length ∧ i = .int .i64 k ∧ (∀ j : Nat, j < k → hitB a b (l.getD j (0, 0)) = false) ∧ Below w.heap.size w wr) (fun i _ => l.length - (intOf i).toNat)
  case atStart => exact ⟨0, by omega, rfl, fun j hj => absurd hj (Nat.not_lt_zero _), Below.refl _ _⟩
  case round =>
    obtain ⟨k, hk, rfl, hall, hb⟩ := hrel
    have HALL := Lib.hid hall
    have HB := Lib.hid hb
    clear hall hb
    by_cases hlt : k < l.length
    · have hi0 : (k : Int) < (l.length : Int) := by omega
      obtain ⟨bz, off, rfl, hbB, hcell⟩ := HL.out (by omega)
      have hc1 := (HB.out.cell (p := ⟨bz, off + k * 2, none⟩) hbB).trans (hcell k hlt).1
      have hc2 := (HB.out.cell (p := ⟨bz, off + k * 2 + 1, none⟩) hbB).trans (hcell k hlt).2
      have HNX := Lib.hid (fun (h : hitB a b (l.getD k (0, 0)) = false) (j : Nat) (hj : j < k + 1) => (if e : j = k then by rw [e]; exact h else HALL.out j (by omega) : hitB a b (l.getD j (0, 0)) = false))
      have HHIT := Lib.hid (fun (h : hitB a b (l.getD k (0, 0)) = true) => h)
      obtain ⟨x, hx⟩ : ∃ x, l.getD k (0, 0) = x := ⟨_, rfl⟩
      rw [hx] at hc1 hc2
      have HX := Lib.hid hx
      obtain ⟨x1, x2⟩ := x
      clear hcell hx HHIT
      cases hh : hitB a b (x1, x2) with
      | true =>
        have HH := Lib.hid hh
        clear hh
        go_wp2_with (go_at_call 167; refine (part_c a b (x1, x2) ba bb _ (HAB.out _ HB.out).1.1 (HAB.out _ HB.out).1.2 (HAB.out _ HB.out).2.1 (HAB.out _ HB.out).2.2).mono ?_; rintro e w5 ⟨rfl, hb5⟩; rw [HH.out]; have HB5 := Lib.hid (below_on HB.out hb5 HB.out.size); clear hb5)
        go_ret
        exact ⟨HB5.out, .inr ⟨k, hlt, rfl, by rw [HX.out]; exact HH.out, HALL.out⟩⟩
      | false =>
        have HH := Lib.hid hh
        have HN := Lib.hid (HNX.out (by rw [HX.out]; exact hh))
        clear hh
        go_wp2_with (go_at_call 167; refine (part_c a b (x1, x2) ba bb _ (HAB.out _ HB.out).1.1 (HAB.out _ HB.out).1.2 (HAB.out _ HB.out).2.1 (HAB.out _ HB.out).2.2).mono ?_; rintro e w5 ⟨rfl, hb5⟩; rw [HH.out]; have HB5 := Lib.hid (below_on HB.out hb5 HB.out.size); clear hb5)
        go_roundw
        case rel => exact ⟨k + 1, by omega, by go_num, HN.out, HB5.out⟩
        case measure => simp [intOf]; omega
    · obtain rfl : k = l.length := by omega
      go_wp2_with fail
      go_ret
      exact ⟨HB.out, .inl ⟨rfl, HALL.out⟩⟩

theorem findIdx_at {f : Int × Int → Bool} {l : List (Int × Int)} {i : Nat} (hi : i < l.length) (h : f (l.getD i (0, 0)) = true) (hn : ∀ j, j < i → f (l.getD j (0, 0)) = false) : l.findIdx f = i := by
  refine (List.findIdx_eq hi).2 ⟨by simpa [List.getD, List.getElem?_eq_getElem hi] using h, fun j hj => ?_⟩
  have := hn j hj
  simpa [List.getD, List.getElem?_eq_getElem (show j < l.length by omega)] using this
theorem count_none {f : Int × Int → Bool} {l : List (Int × Int)} (h : ∀ j, j < l.length → f (l.getD j (0, 0)) = false) : l.countP f = 0 := by
  refine List.countP_eq_zero.2 fun x hx => ?_
  obtain ⟨i, hi, rfl⟩ := List.getElem_of_mem hx
  have := h i hi
  simpa [List.getD, List.getElem?_eq_getElem hi] using this

set_option maxHeartbeats 4000000 in
set_option maxRecDepth 100000 in
theorem parted_c (p a b : Int) (l : List (Int × Int)) (A : Option Addr) (cap : Nat) (w : World) (hl : BarsAt w w.heap.size A l) (hG : IsG p l) (hc : 0 < l.countP (hitB a b)) :
    Calls Try.prog 104 #[.agg #[.int .i64 p, .slice A l.length cap], .int .i64 a, .int .i64 b] w (GraphO w p (cutL l (l.findIdx (hitB a b)))) := by
  have h24 := hG.2.1
  have HREM := Lib.hid (fun (k : Nat) (h : k < l.length) => rem_yes (isGB_yes hG) h)
  have HC := Lib.hid hc
  have hA1 := new_below w (.cells #[.int .i64 p, .slice A l.length cap] 30)
  have hA2 := new_below (w.alloc (.cells #[.int .i64 p, .slice A l.length cap] 30)) (.cells #[.int .i64 a] 3)
  have hA3 := new_below ((w.alloc (.cells #[.int .i64 p, .slice A l.length cap] 30)).alloc (.cells #[.int .i64 a] 3)) (.cells #[.int .i64 b] 3)
  have hA4 := new_below (((w.alloc (.cells #[.int .i64 p, .slice A l.length cap] 30)).alloc (.cells #[.int .i64 a] 3)).alloc (.cells #[.int .i64 b] 3)) (.cells #[.int .i64 0, .slice none 0 0] 30)
  have hA := below_on (below_on (below_on hA1 hA2 hA1.size) hA3 (below_on hA1 hA2 hA1.size).size) hA4 (below_on (below_on hA1 hA2 hA1.size) hA3 (below_on hA1 hA2 hA1.size).size).size
  have HA := Lib.hid hA
  have HL4 := Lib.hid (hl.on hA)
  have BX4 := Lib.hid ((((box_new w p (.slice A l.length cap) 30).kept hA2).kept hA3).kept hA4)
  have s1 : (w.alloc (.cells #[.int .i64 p, .slice A l.length cap] 30)).heap.size = w.heap.size + 1 := by simp
  have s2 : ((w.alloc (.cells #[.int .i64 p, .slice A l.length cap] 30)).alloc (.cells #[.int .i64 a] 3)).heap.size = w.heap.size + 2 := by simp
  have s3 : (((w.alloc (.cells #[.int .i64 p, .slice A l.length cap] 30)).alloc (.cells #[.int .i64 a] 3)).alloc (.cells #[.int .i64 b] 3)).heap.size = w.heap.size + 3 := by simp
  have HS4 := Lib.hid (show ((((w.alloc (.cells #[.int .i64 p, .slice A l.length cap] 30)).alloc (.cells #[.int .i64 a] 3)).alloc (.cells #[.int .i64 b] 3)).alloc (.cells #[.int .i64 0, .slice none 0 0] 30)).heap.size = w.heap.size + 4 by simp)
  have ca : ((w.alloc (.cells #[.int .i64 p, .slice A l.length cap] 30)).alloc (.cells #[.int .i64 a] 3)).cell? ⟨w.heap.size + 1, 0, none⟩ = some (.int .i64 a) := by rw [← s1, World.cell?_alloc_at _ _ _ _ rfl]; rfl
  have cb : (((w.alloc (.cells #[.int .i64 p, .slice A l.length cap] 30)).alloc (.cells #[.int .i64 a] 3)).alloc (.cells #[.int .i64 b] 3)).cell? ⟨w.heap.size + 2, 0, none⟩ = some (.int .i64 b) := by rw [← s2, World.cell?_alloc_at _ _ _ _ rfl]; rfl
  have ca4 := (hA4.cell (p := ⟨w.heap.size + 1, 0, none⟩) (by rw [s3]; show w.heap.size + 1 < w.heap.size + 3; omega)).trans ((hA3.cell (p := ⟨w.heap.size + 1, 0, none⟩) (by rw [s2]; show w.heap.size + 1 < w.heap.size + 2; omega)).trans ca)
  have cb4 := (hA4.cell (p := ⟨w.heap.size + 2, 0, none⟩) (by rw [s3]; show w.heap.size + 2 < w.heap.size + 3; omega)).trans cb
  have hr := cel2_new (((w.alloc (.cells #[.int .i64 p, .slice A l.length cap] 30)).alloc (.cells #[.int .i64 a] 3)).alloc (.cells #[.int .i64 b] 3)) (.int .i64 0) (.slice none 0 0) 30
  rw [s3] at hr
  have BR4 := Lib.hid hr
  have CA4 := Lib.hid ca4
  have CB4 := Lib.hid cb4
  clear hl hG hc hA1 hA2 hA3 hA4 hA s1 s2 s3 ca cb ca4 cb4 hr
  go_enter Try.func104, Try.ntmps104
  obtain ⟨g0, g1, g2⟩ := BX4.out
  go_wp2_with fail
  clear g0 g1 g2
  generalize ((((w.alloc (.cells #[.int .i64 p, .slice A l.length cap] 30)).alloc (.cells #[.int .i64 a] 3)).alloc (.cells #[.int .i64 b] 3)).alloc (.cells #[.int .i64 0, .slice none 0 0] 30)) = w4 at *
  refine (idxB_c a b l A cap (w.heap.size + 1) (w.heap.size + 2) w4 HL4.out (by omega) CA4.out CB4.out (by have := HS4.out; omega) (by have := HS4.out; omega)).mono ?_
  rintro e w5 ⟨hb5, hres⟩
  rcases hres with ⟨rfl, hnone⟩ | ⟨i, hi, rfl, hh, hnn⟩
  · have h0 := count_none (f := hitB a b) hnone
    have := HC.out
    omega
  · have HF := Lib.hid (findIdx_at hi hh hnn)
    have HREM1 := Lib.hid (HREM.out i hi)
    have HB5 := Lib.hid (below_on HA.out hb5 HA.out.size)
    have HL5 := Lib.hid (HL4.out.on hb5)
    have BR5 := Lib.hid (BR4.out.kept hb5)
    have HS5 := Lib.hid hb5.size
    obtain ⟨g0, g1, g2⟩ := BX4.out.kept hb5
    clear hb5 hh hnn
    go_wp2_with fail
    clear g0 g1 g2
    refine (implRemove p (i : Int) l A cap w5 HL5.out (by omega)).mono ?_
    rintro e w6 ⟨A6, c6, rfl, ho6, hb6⟩
    rw [HREM1.out.2] at ho6 ⊢
    obtain ⟨L, hL⟩ : ∃ L, l.take i ++ l.drop (i + 1) = L := ⟨_, rfl⟩
    rw [hL] at ho6 ⊢
    have HE := Lib.hid (show cutL l (l.findIdx (hitB a b)) = L by rw [HF.out, ← hL]; rfl)
    have hA7 := new_below w6 (.cells #[.int .i64 p, .slice A6 L.length c6] 30)
    have HB7 := Lib.hid (below_on (below_on HB5.out hb6 HB5.out.size) hA7 (below_on HB5.out hb6 HB5.out.size).size)
    have ho7 := ho6.within (within_of hA7) (.inr (Nat.zero_le _))
    have HO7 := Lib.hid (show OwnIn (w6.alloc (.cells #[.int .i64 p, .slice A6 L.length c6] 30)) w5.heap.size (w6.alloc (.cells #[.int .i64 p, .slice A6 L.length c6] 30)).heap.size A6 c6 L from ⟨Nat.le_refl _, by
      rcases ho7.2 with h | ⟨g, e, k1, k2, hown⟩
      · exact .inl h
      · exact .inr ⟨g, e, k1, Nat.lt_of_lt_of_le k2 hA7.size, hown⟩⟩)
    have BR7 := Lib.hid ((BR5.out.kept hb6).kept hA7)
    have BX7 := Lib.hid (box_new w6 p (.slice A6 L.length c6) 30)
    clear hL ho6 hb6 hA7 ho7
    obtain ⟨g0, g1, g2⟩ := BX7.out
    obtain ⟨r0, r1, q0, q1⟩ := BR7.out.cells
    obtain ⟨s0, s1⟩ := ret_cells (p := p) (v := .slice A6 L.length c6) r0 r1
    obtain ⟨t0, t1⟩ := ownIn_ret HO7.out HB7.out (r := w.heap.size + 3) (by omega) (by have := HS4.out; have := HS5.out; omega) (.int .i64 p) (.slice A6 L.length c6)
    have HT0 := Lib.hid t0
    have HT1 := Lib.hid t1
    clear t0 t1
    go_wp2_with fail
    rw [HE.out]
    refine bodyPost_ret (v := .agg #[.int .i64 p, .slice A6 L.length c6]) ?_ rfl ⟨A6, c6, rfl, ?_, ?_⟩
    · simp [results, Try.results104, go_sem, s0, s1]
    · exact HT0.out
    · exact HT1.out
end Go.Proofs.Ytggibhhdnlifcaa
