/- The law FnExactCountTrees returns true at every input. No condition. -/
import Derived.Test.YtedjhnedkghhoaaTreS
import Derived.Test.YtedjhnedkghhoaaTreI
import Derived.Test.YtedjhnedkghhoaaState
import Derived.Test.YtedjhnedkghhoaaGraphArg
import Derived.Deep.RegionHeld3
namespace Go.Proofs.Ytedjhnedkghhoaa
open Go.RowKit

set_option maxHeartbeats 2000000 in
set_option maxRecDepth 100000 in
theorem lawCountTrees (q : Int) (A : Option Addr) (cap : Nat) (l : List (Int × Int)) (w : World) (hl : l.length ≤ maxLen) (hb : BarsAt w w.heap.size A l) :
    Calls Try.prog 7 #[.agg #[.int .i64 q, .slice A l.length cap]] w fun e w' => e = .returned (.bool true) ∧ Below w.heap.size w w' := by
  have HB_0 := Lib.hid (bars_in hb)
  clear hb
  by_cases hn : l.length ≤ 1048576
  · have W0 := Lib.hid (Below.refl w.heap.size w)
    have hal := new_below w (.cells #[.int .i64 q, .slice A l.length cap] 24)
    have Z1 := Lib.hid (within_of hal).size
    have W1 := Lib.hid (within_on W0.out (within_of hal) W0.out.size (.inr (Nat.le_refl _)))
    have HB_1 := Lib.hid (HB_0.out.within (within_of hal) (by omega))
    clear hal
    have hsz : (w.alloc (.cells #[.int .i64 q, .slice A l.length cap] 24)).heap.size = w.heap.size + 1 := by simp
    have Y1 := Lib.hid hsz
    clear hsz
    have BX_1 := Lib.hid (box_new w q (.slice A l.length cap) 24)
    go_enter Try.func7, Try.ntmps7
    go_wp2_with fail
    generalize (w.alloc (.cells #[.int .i64 q, .slice A l.length cap] 24)) = w1 at *
    refine (szGraph_c q A l.length cap 1048576 _ (by omega) (by omega)).mono ?_
    rintro e w2 ⟨rfl, hb⟩
    have Z2 := Lib.hid (within_of hb).size
    have W2 := Lib.hid (within_on W1.out (within_of hb) W1.out.size (.inr (Nat.le_refl _)))
    have HB_2 := Lib.hid (HB_1.out.within (within_of hb) (by omega))
    have BX_2 := Lib.hid (BX_1.out.within (within_of hb) (by omega))
    clear hb
    have hnn : ¬ (1048576 : Int) - (l.length : Int) < 0 := by omega
    obtain ⟨g01, g02, g03⟩ := BX_2.out
    go_wp2_with fail
    clear g01 g02 g03
    refine (toGraph_c q l A cap _ HB_2.out.at hn).mono ?_
    rintro e w3 ⟨g0, rfl, ho, hb⟩
    have Z3 := Lib.hid (within_of hb).size
    have W3 := Lib.hid (within_on W2.out (within_of hb) W2.out.size (.inr (Nat.le_refl _)))
    have HB_3 := Lib.hid (HB_2.out.within (within_of hb) (by omega))
    have BX_3 := Lib.hid (BX_2.out.within (within_of hb) (by omega))
    have SG_3 := Lib.hid ((own_in ho).bars)
    clear ho hb
    go_wp2_with fail
    refine (specTre q l (some ⟨g0, 0, none⟩) l.length _ SG_3.out.at hn).mono ?_
    rintro e w4 ⟨rfl, hb⟩
    have Z4 := Lib.hid (within_of hb).size
    have W4 := Lib.hid (within_on W3.out (within_of hb) W3.out.size (.inr (Nat.le_refl _)))
    have HB_4 := Lib.hid (HB_3.out.within (within_of hb) (by omega))
    have BX_4 := Lib.hid (BX_3.out.within (within_of hb) (by omega))
    have SG_4 := Lib.hid (SG_3.out.within (within_of hb) (by omega))
    clear hb
    obtain ⟨g01, g02, g03⟩ := BX_4.out
    go_wp2_with fail
    clear g01 g02 g03
    refine (toGraph_c q l A cap _ HB_4.out.at hn).mono ?_
    rintro e w5 ⟨x0, rfl, ho, hb⟩
    have Z5 := Lib.hid (within_of hb).size
    have W5 := Lib.hid (within_on W4.out (within_of hb) W4.out.size (.inr (Nat.le_refl _)))
    have HB_5 := Lib.hid (HB_4.out.within (within_of hb) (by omega))
    have BX_5 := Lib.hid (BX_4.out.within (within_of hb) (by omega))
    have SG_5 := Lib.hid (SG_4.out.within (within_of hb) (by omega))
    have SX_5 := Lib.hid (own_in ho)
    clear ho hb
    go_wp2_with fail
    have hal := new_below w5 (.cells #[.int .i64 q, .slice (some ⟨x0, 0, none⟩) l.length l.length] 30)
    have Z6 := Lib.hid (within_of hal).size
    have W6 := Lib.hid (within_on W5.out (within_of hal) W5.out.size (.inr (Nat.le_refl _)))
    have HB_6 := Lib.hid (HB_5.out.within (within_of hal) (by omega))
    have BX_6 := Lib.hid (BX_5.out.within (within_of hal) (by omega))
    have SG_6 := Lib.hid (SG_5.out.within (within_of hal) (by omega))
    have SX_6 := Lib.hid (SX_5.out.within (within_of hal) (by omega))
    clear hal
    have hsz : (w5.alloc (.cells #[.int .i64 q, .slice (some ⟨x0, 0, none⟩) l.length l.length] 30)).heap.size = w5.heap.size + 1 := by simp
    have Y6 := Lib.hid hsz
    clear hsz
    have XX_6 := Lib.hid (box_new w5 q (.slice (some ⟨x0, 0, none⟩) l.length l.length) 30)
    generalize (w5.alloc (.cells #[.int .i64 q, .slice (some ⟨x0, 0, none⟩) l.length l.length] 30)) = w6 at *
    refine (implTre q l (some ⟨x0, 0, none⟩) l.length _ SX_6.out.bars.at hn).mono ?_
    rintro e w7 ⟨rfl, hb⟩
    have Z7 := Lib.hid (within_of hb).size
    have W7 := Lib.hid (within_on W6.out (within_of hb) W6.out.size (.inr (Nat.le_refl _)))
    have HB_7 := Lib.hid (HB_6.out.within (within_of hb) (by omega))
    have BX_7 := Lib.hid (BX_6.out.within (within_of hb) (by omega))
    have SG_7 := Lib.hid (SG_6.out.within (within_of hb) (by omega))
    have SX_7 := Lib.hid (SX_6.out.within (within_of hb) (by omega))
    have XX_7 := Lib.hid (XX_6.out.within (within_of hb) (by omega))
    clear hb
    have kk0 := box2 BX_7.out XX_7.out
    have kk := box2 BX_7.out XX_7.out
    have hdr : Below w7.heap.size w7 w7.drew := (Below.refl _ _).drew
    have Z8 := Lib.hid (within_of hdr).size
    have W8 := Lib.hid (within_on W7.out (within_of hdr) W7.out.size (.inr (Nat.le_refl _)))
    have HB_8 := Lib.hid (HB_7.out.within (within_of hdr) (by omega))
    have BX_8 := Lib.hid (BX_7.out.within (within_of hdr) (by omega))
    have SG_8 := Lib.hid (SG_7.out.within (within_of hdr) (by omega))
    have SX_8 := Lib.hid (SX_7.out.within (within_of hdr) (by omega))
    have XX_8 := Lib.hid (XX_7.out.within (within_of hdr) (by omega))
    clear hdr
    go_wp2_with fail
    go_region_held3 (fun W' => W'.cell? ⟨w.heap.size, 0, none⟩ = some (.int .i64 q) ∧ W'.cell? ⟨w.heap.size, 1, none⟩ = some ((.slice A l.length cap)) ∧ W'.cell? ⟨w5.heap.size, 0, none⟩ = some (.int .i64 q) ∧ W'.cell? ⟨w5.heap.size, 1, none⟩ = some ((.slice (some ⟨x0, 0, none⟩) l.length l.length)))
      (first | exact kk | exact box2 BX_9.out XX_9.out | exact box2 BX_10.out XX_10.out | fail)
      (first
        | (go_at_call 13; refine (toGraph_c q l A cap _ ?_ hn).mono ?_; (exact HB_8.out.at); rintro e w9 ⟨y0, rfl, ho, hb⟩; have Z9 := Lib.hid (within_of hb).size; have W9 := Lib.hid (within_on W8.out (within_of hb) W8.out.size (.inr (Nat.le_refl _))); have HB_9 := Lib.hid (HB_8.out.within (within_of hb) (by omega)); have BX_9 := Lib.hid (BX_8.out.within (within_of hb) (by omega)); have SG_9 := Lib.hid (SG_8.out.within (within_of hb) (by omega)); have SX_9 := Lib.hid (SX_8.out.within (within_of hb) (by omega)); have XX_9 := Lib.hid (XX_8.out.within (within_of hb) (by omega)); have YY := Lib.hid (own_bars ho); clear ho hb)
        | (go_at_call 16; refine (eqGraph_c q l _ _ l.length l.length _ ?_ ?_ hn).mono ?_; (exact SX_9.out.bars.at); (exact YY.out); rintro e w10 ⟨rfl, hb⟩; have Z10 := Lib.hid (within_of hb).size; have W10 := Lib.hid (within_on W9.out (within_of hb) W9.out.size (.inr (Nat.le_refl _))); have HB_10 := Lib.hid (HB_9.out.within (within_of hb) (by omega)); have BX_10 := Lib.hid (BX_9.out.within (within_of hb) (by omega)); have SG_10 := Lib.hid (SG_9.out.within (within_of hb) (by omega)); have SX_10 := Lib.hid (SX_9.out.within (within_of hb) (by omega)); have XX_10 := Lib.hid (XX_9.out.within (within_of hb) (by omega)); clear hb))
    go_wp2_with fail
    go_ret
    exact ⟨rfl, W10.out⟩
  · have hx : (1048576 : Int) < (l.length : Int) := by omega
    have h63 : l.length ≤ 9223372036854775807 := by unfold maxLen at hl; omega
    have HA := Lib.hid (new_below w (.cells #[.int .i64 q, .slice A l.length cap] 24))
    go_enter Try.func7, Try.ntmps7
    go_wp2_with fail
    refine (szGraph_no q A l.length cap 1048576 _ h63 hx (by omega)).mono ?_
    rintro e w1 ⟨rfl, hb1⟩
    have W1 := Lib.hid (below_on HA.out hb1 HA.out.size)
    clear hb1
    go_wp2_with fail
    go_ret
    exact ⟨rfl, W1.out⟩
end Go.Proofs.Ytedjhnedkghhoaa
