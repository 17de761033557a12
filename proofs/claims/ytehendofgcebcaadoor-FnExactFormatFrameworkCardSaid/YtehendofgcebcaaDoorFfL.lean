/- The law FnExactFormatFramework returns true at every input, wherever the library's table of powers of ten reads as the program lays it. -/
import Derived.Test.YtehendofgcebcaaDoorFfS
import Derived.Test.YtehendofgcebcaaDoorFfI
import Derived.Test.YtehendofgcebcaaDoorFw
import Derived.Deep.RegionHeld3
namespace Go.Proofs.YtehendofgcebcaaDoor
open Go.RowKit

set_option maxHeartbeats 4000000 in
set_option maxRecDepth 100000 in
theorem lawFormatFramework (q : Int) (A : Option Addr) (cap : Nat) (l : List (Int × Int)) (B : Option Addr) (cb : Nat) (m : List (Int × Int)) (w : World) (hl : l.length ≤ maxLen ∧ m.length ≤ maxLen) (hb : BarsAt w w.heap.size A l) (hc : BarsAt w w.heap.size B m) (ht : Tab w) :
    Calls Tryd.prog 3 #[.agg #[.int .i64 q, .slice A l.length cap, .slice B m.length cb]] w fun e w' => e = .returned (.bool true) ∧ Below w.heap.size w w' := by
  have HB_0 := Lib.hid (fw_in hb hc)
  clear hb hc
  have HT := Lib.hid ht
  clear ht
  by_cases hn : l.length + m.length ≤ 1048576
  · have W0 := Lib.hid (Below.refl w.heap.size w)
    have hal := new_below w (.cells #[.int .i64 q, .slice A l.length cap, .slice B m.length cb] 27)
    have Z1 := Lib.hid (within_of hal).size
    have W1 := Lib.hid (within_on W0.out (within_of hal) W0.out.size (.inr (Nat.le_refl _)))
    have HB_1 := Lib.hid (HB_0.out.within (within_of hal) (by omega))
    clear hal
    have hsz : (w.alloc (.cells #[.int .i64 q, .slice A l.length cap, .slice B m.length cb] 27)).heap.size = w.heap.size + 1 := by simp
    have Y1 := Lib.hid hsz
    clear hsz
    have BX_1 := Lib.hid (box3_new w q (.slice A l.length cap) (.slice B m.length cb) 27)
    go_enter Tryd.func3, Tryd.ntmps3
    go_wp2_with fail
    generalize (w.alloc (.cells #[.int .i64 q, .slice A l.length cap, .slice B m.length cb] 27)) = w1 at *
    refine (szFw_c q A l.length cap B m.length cb 1048576 _ (by omega) (by omega)).mono ?_
    rintro e w2 ⟨rfl, hb⟩
    have Z2 := Lib.hid (within_of hb).size
    have W2 := Lib.hid (within_on W1.out (within_of hb) W1.out.size (.inr (Nat.le_refl _)))
    have HB_2 := Lib.hid (HB_1.out.within (within_of hb) (by omega))
    have BX_2 := Lib.hid (BX_1.out.within (within_of hb) (by omega))
    clear hb
    have hnn : ¬ (1048576 : Int) - (l.length : Int) - (m.length : Int) < 0 := by omega
    obtain ⟨g01, g02, g03, g04⟩ := BX_2.out
    go_wp2_with fail
    clear g01 g02 g03 g04
    refine (toFw_c q l m A cap B cb _ _ _ HB_2.out hn).mono ?_
    rintro e w3 ⟨g0, g1, rfl, ho, hb⟩
    have Z3 := Lib.hid (within_of hb).size
    have W3 := Lib.hid (within_on W2.out (within_of hb) W2.out.size (.inr (Nat.le_refl _)))
    have HB_3 := Lib.hid (HB_2.out.within (within_of hb) (by omega))
    have BX_3 := Lib.hid (BX_2.out.within (within_of hb) (by omega))
    have SG_3 := Lib.hid (ho.reads)
    clear ho hb
    go_wp2_with fail
    refine (specFmtF q l m (some ⟨g0, 0, none⟩) l.length (some ⟨g1, 0, none⟩) m.length _ _ _ SG_3.out hn).mono ?_
    rintro e w4 ⟨rfl, hb⟩
    have Z4 := Lib.hid (within_of hb).size
    have W4 := Lib.hid (within_on W3.out (within_of hb) W3.out.size (.inr (Nat.le_refl _)))
    have HB_4 := Lib.hid (HB_3.out.within (within_of hb) (by omega))
    have BX_4 := Lib.hid (BX_3.out.within (within_of hb) (by omega))
    have SG_4 := Lib.hid (SG_3.out.within (within_of hb) (by omega))
    clear hb
    obtain ⟨g01, g02, g03, g04⟩ := BX_4.out
    go_wp2_with fail
    clear g01 g02 g03 g04
    refine (toFw_c q l m A cap B cb _ _ _ HB_4.out hn).mono ?_
    rintro e w5 ⟨x0, x1, rfl, ho, hb⟩
    have Z5 := Lib.hid (within_of hb).size
    have W5 := Lib.hid (within_on W4.out (within_of hb) W4.out.size (.inr (Nat.le_refl _)))
    have HB_5 := Lib.hid (HB_4.out.within (within_of hb) (by omega))
    have BX_5 := Lib.hid (BX_4.out.within (within_of hb) (by omega))
    have SG_5 := Lib.hid (SG_4.out.within (within_of hb) (by omega))
    have SX_5 := Lib.hid (ho)
    clear ho hb
    go_wp2_with fail
    have hal := new_below w5 (.cells #[.int .i64 q, .slice (some ⟨x0, 0, none⟩) l.length l.length, .slice (some ⟨x1, 0, none⟩) m.length m.length] 35)
    have Z6 := Lib.hid (within_of hal).size
    have W6 := Lib.hid (within_on W5.out (within_of hal) W5.out.size (.inr (Nat.le_refl _)))
    have HB_6 := Lib.hid (HB_5.out.within (within_of hal) (by omega))
    have BX_6 := Lib.hid (BX_5.out.within (within_of hal) (by omega))
    have SG_6 := Lib.hid (SG_5.out.within (within_of hal) (by omega))
    have SX_6 := Lib.hid (SX_5.out.within (within_of hal) (by omega))
    clear hal
    have hsz : (w5.alloc (.cells #[.int .i64 q, .slice (some ⟨x0, 0, none⟩) l.length l.length, .slice (some ⟨x1, 0, none⟩) m.length m.length] 35)).heap.size = w5.heap.size + 1 := by simp
    have Y6 := Lib.hid hsz
    clear hsz
    have XX_6 := Lib.hid (box3_new w5 q (.slice (some ⟨x0, 0, none⟩) l.length l.length) (.slice (some ⟨x1, 0, none⟩) m.length m.length) 35)
    generalize (w5.alloc (.cells #[.int .i64 q, .slice (some ⟨x0, 0, none⟩) l.length l.length, .slice (some ⟨x1, 0, none⟩) m.length m.length] 35)) = w6 at *
    refine (implFmtF q l m (some ⟨x0, 0, none⟩) l.length (some ⟨x1, 0, none⟩) m.length _ _ _ SX_6.out.reads hn (HT.out.below W6.out)).mono ?_
    rintro e w7 ⟨rfl, hb⟩
    have Z7 := Lib.hid (within_of hb).size
    have W7 := Lib.hid (within_on W6.out (within_of hb) W6.out.size (.inr (Nat.le_refl _)))
    have HB_7 := Lib.hid (HB_6.out.within (within_of hb) (by omega))
    have BX_7 := Lib.hid (BX_6.out.within (within_of hb) (by omega))
    have SG_7 := Lib.hid (SG_6.out.within (within_of hb) (by omega))
    have SX_7 := Lib.hid (SX_6.out.within (within_of hb) (by omega))
    have XX_7 := Lib.hid (XX_6.out.within (within_of hb) (by omega))
    clear hb
    have kk0 := box3s2 BX_7.out XX_7.out
    have kk := box3s2 BX_7.out XX_7.out
    have hdr : Below w7.heap.size w7 w7.drew := (Below.refl _ _).drew
    have Z8 := Lib.hid (within_of hdr).size
    have W8 := Lib.hid (within_on W7.out (within_of hdr) W7.out.size (.inr (Nat.le_refl _)))
    have HB_8 := Lib.hid (HB_7.out.within (within_of hdr) (by omega))
    have BX_8 := Lib.hid (BX_7.out.within (within_of hdr) (by omega))
    have SG_8 := Lib.hid (SG_7.out.within (within_of hdr) (by omega))
    have SX_8 := Lib.hid (SX_7.out.within (within_of hdr) (by omega))
    have XX_8 := Lib.hid (XX_7.out.within (within_of hdr) (by omega))
    clear hdr
    go_wp2_with fail
    go_region_held3 (fun W' => W'.cell? ⟨w.heap.size, 0, none⟩ = some (.int .i64 q) ∧ W'.cell? ⟨w.heap.size, 1, none⟩ = some (.slice A l.length cap) ∧ W'.cell? ⟨w.heap.size, 2, none⟩ = some (.slice B m.length cb) ∧ W'.cell? ⟨w5.heap.size, 0, none⟩ = some (.int .i64 q) ∧ W'.cell? ⟨w5.heap.size, 1, none⟩ = some (.slice (some ⟨x0, 0, none⟩) l.length l.length) ∧ W'.cell? ⟨w5.heap.size, 2, none⟩ = some (.slice (some ⟨x1, 0, none⟩) m.length m.length))
      (first | exact kk | exact box3s2 BX_9.out XX_9.out | exact box3s2 BX_10.out XX_10.out | fail)
      (first
        | (go_at_call 7; refine (toFw_c q l m A cap B cb _ _ _ HB_8.out hn).mono ?_; rintro e w9 ⟨u0, u1, rfl, ho, hb⟩; have Z9 := Lib.hid (within_of hb).size; have W9 := Lib.hid (within_on W8.out (within_of hb) W8.out.size (.inr (Nat.le_refl _))); have HB_9 := Lib.hid (HB_8.out.within (within_of hb) (by omega)); have BX_9 := Lib.hid (BX_8.out.within (within_of hb) (by omega)); have SG_9 := Lib.hid (SG_8.out.within (within_of hb) (by omega)); have SX_9 := Lib.hid (SX_8.out.within (within_of hb) (by omega)); have XX_9 := Lib.hid (XX_8.out.within (within_of hb) (by omega)); have YY := Lib.hid ho.reads; clear ho hb)
        | (go_at_call 9; refine (eqFw_c q l m _ _ _ _ _ _ _ _ _ _ _ _ _ SX_9.out.reads YY.out hn).mono ?_; rintro e w10 ⟨rfl, hb⟩; have Z10 := Lib.hid (within_of hb).size; have W10 := Lib.hid (within_on W9.out (within_of hb) W9.out.size (.inr (Nat.le_refl _))); have HB_10 := Lib.hid (HB_9.out.within (within_of hb) (by omega)); have BX_10 := Lib.hid (BX_9.out.within (within_of hb) (by omega)); have SG_10 := Lib.hid (SG_9.out.within (within_of hb) (by omega)); have SX_10 := Lib.hid (SX_9.out.within (within_of hb) (by omega)); have XX_10 := Lib.hid (XX_9.out.within (within_of hb) (by omega)); clear hb))
    clear kk0 kk YY
    go_wp2_with fail
    go_ret
    exact ⟨rfl, W10.out⟩
  · have W0 := Lib.hid (Below.refl w.heap.size w)
    have hal := new_below w (.cells #[.int .i64 q, .slice A l.length cap, .slice B m.length cb] 27)
    have Z1 := Lib.hid (within_of hal).size
    have W1 := Lib.hid (within_on W0.out (within_of hal) W0.out.size (.inr (Nat.le_refl _)))
    have HB_1 := Lib.hid (HB_0.out.within (within_of hal) (by omega))
    clear hal
    have hsz : (w.alloc (.cells #[.int .i64 q, .slice A l.length cap, .slice B m.length cb] 27)).heap.size = w.heap.size + 1 := by simp
    have Y1 := Lib.hid hsz
    clear hsz
    have BX_1 := Lib.hid (box3_new w q (.slice A l.length cap) (.slice B m.length cb) 27)
    go_enter Tryd.func3, Tryd.ntmps3
    go_wp2_with fail
    generalize (w.alloc (.cells #[.int .i64 q, .slice A l.length cap, .slice B m.length cb] 27)) = w1 at *
    refine (szFw_no q A l.length cap B m.length cb 1048576 _ hl.1 hl.2 (by omega) (by omega) (by omega)).mono ?_
    rintro e w2 ⟨rfl, hb⟩
    have Z2 := Lib.hid (within_of hb).size
    have W2 := Lib.hid (within_on W1.out (within_of hb) W1.out.size (.inr (Nat.le_refl _)))
    have HB_2 := Lib.hid (HB_1.out.within (within_of hb) (by omega))
    have BX_2 := Lib.hid (BX_1.out.within (within_of hb) (by omega))
    clear hb
    go_wp2_with fail
    go_ret
    exact ⟨rfl, W2.out⟩
end Go.Proofs.YtehendofgcebcaaDoor
