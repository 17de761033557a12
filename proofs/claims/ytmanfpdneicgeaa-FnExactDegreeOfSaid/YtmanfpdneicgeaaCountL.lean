/- The laws FnExactCountBar and FnExactDegreeOf return true at every input. No condition. -/
import Derived.Test.YtmanfpdneicgeaaCount
import Derived.Test.YtmanfpdneicgeaaBox
import Derived.Deep.RegionHeld3
namespace Go.Proofs.Ytmanfpdneicgeaa
open Go.RowKit

set_option maxHeartbeats 1000000 in
set_option maxRecDepth 100000 in
theorem lawCountBar (q : Int) (A : Option Addr) (cap : Nat) (l : List (Int × Int)) (a1 : Int) (a2 : Int) (w : World) (hl : l.length ≤ maxLen) (hb : BarsAt w w.heap.size A l) (_w1 : (Lit.int .i64 a1).wf = true) (_w2 : (Lit.int .i64 a2).wf = true) :
    Calls Try.prog 5 #[.agg #[.int .i64 q, .slice A l.length cap], .int .i64 a1, .int .i64 a2] w fun e w' => e = .returned (.bool true) ∧ Below w.heap.size w w' := by
  have HB := Lib.hid hb
  have HA := Lib.hid (new_below w (.cells #[.int .i64 q, .slice A l.length cap] 24))
  have BX := Lib.hid (box_new w q (.slice A l.length cap) 24)
  clear hb
  by_cases hn : l.length ≤ 1048576
  · go_enter Try.func5, Try.ntmps5
    go_wp2_with fail
    refine (szGraph_c q A l.length cap 1048576 _ (by omega) (by omega)).mono ?_
    rintro e w1 ⟨rfl, hb1⟩
    have W1 := Lib.hid (below_on HA.out hb1 HA.out.size)
    have BX1 := Lib.hid (BX.out.kept hb1)
    clear hb1
    obtain ⟨g1, g2, g3⟩ := BX1.out
    have hnn : ¬ (1048576 : Int) - (l.length : Int) < 0 := by omega
    go_wp2_with fail
    clear g1 g2 g3
    refine (toGraph_c q l A cap _ (HB.out.on W1.out) hn).mono ?_
    rintro e w2 ⟨g0, rfl, ho2, hb2⟩
    have W2 := Lib.hid (below_on W1.out hb2 W1.out.size)
    have BX2 := Lib.hid (BX1.out.kept hb2)
    have S2 := Lib.hid (own_bars ho2)
    clear ho2 hb2
    go_wp2_with fail
    refine (specCount q a1 a2 l (some ⟨g0, 0, none⟩) l.length _ S2.out hn).mono ?_
    rintro e w3 ⟨rfl, hb3⟩
    have W3 := Lib.hid (below_on W2.out hb3 W2.out.size)
    have BX3 := Lib.hid (BX2.out.kept hb3)
    clear hb3
    obtain ⟨g1, g2, g3⟩ := BX3.out
    go_wp2_with fail
    clear g1 g2 g3
    refine (toGraph_c q l A cap _ (HB.out.on W3.out) hn).mono ?_
    rintro e w4 ⟨x0, rfl, ho4, hb4⟩
    have W4 := Lib.hid (below_on W3.out hb4 W3.out.size)
    have BX4 := Lib.hid (BX3.out.kept hb4)
    have S4 := Lib.hid (own_bars ho4)
    clear ho4 hb4
    go_wp2_with fail
    have hal := new_below w4 (.cells #[.int .i64 q, .slice (some ⟨x0, 0, none⟩) l.length l.length] 29)
    have W5 := Lib.hid (below_on W4.out hal W4.out.size)
    have BX5 := Lib.hid (BX4.out.kept hal)
    have XX5 := Lib.hid (box_new w4 q (.slice (some ⟨x0, 0, none⟩) l.length l.length) 29)
    have S5 := Lib.hid (S4.out.on hal)
    have hs5 : w4.heap.size < (w4.alloc (.cells #[.int .i64 q, .slice (some ⟨x0, 0, none⟩) l.length l.length] 29)).heap.size := by simp
    clear hal
    generalize w4.alloc (.cells #[.int .i64 q, .slice (some ⟨x0, 0, none⟩) l.length l.length] 29) = w5 at *
    refine (implCount q a1 a2 l (some ⟨x0, 0, none⟩) l.length _ S5.out hn).mono ?_
    rintro e w6 ⟨rfl, hb6⟩
    have W6 := Lib.hid (below_on W5.out hb6 W5.out.size)
    have BX6 := Lib.hid (BX5.out.kept hb6)
    have XX6 := Lib.hid (XX5.out.kept hb6)
    have S6 := Lib.hid (S5.out.on hb6)
    clear hb6
    have k6 := box2 BX6.out XX6.out
    have hdr : Below w6.heap.size w6 w6.drew := (Below.refl _ _).drew
    have W7 := Lib.hid (below_on W6.out hdr W6.out.size)
    have BX7 := Lib.hid (BX6.out.kept hdr)
    have XX7 := Lib.hid (XX6.out.kept hdr)
    have S7 := Lib.hid (S6.out.on hdr)
    clear hdr
    go_wp2_with fail
    go_region_held3 (fun W' => W'.cell? ⟨w.heap.size, 0, none⟩ = some (.int .i64 q) ∧ W'.cell? ⟨w.heap.size, 1, none⟩ = some (.slice A l.length cap) ∧ W'.cell? ⟨w4.heap.size, 0, none⟩ = some (.int .i64 q) ∧ W'.cell? ⟨w4.heap.size, 1, none⟩ = some (.slice (some ⟨x0, 0, none⟩) l.length l.length))
      (first | exact k6 | exact box2 (BX7.out.kept hb8) (XX7.out.kept hb8) | exact box2 (BX8.out.kept hb9) (XX8.out.kept hb9) | fail)
      (first
        | (go_at_call 15; refine (toGraph_c q l A cap _ ?_ hn).mono ?_; (exact HB.out.on W7.out); rintro e w8 ⟨y0, rfl, ho8, hb8⟩; have W8 := Lib.hid (below_on W7.out hb8 W7.out.size); have BX8 := Lib.hid (BX7.out.kept hb8); have XX8 := Lib.hid (XX7.out.kept hb8); have S8 := Lib.hid (S7.out.on hb8); have T8 := Lib.hid (own_bars ho8))
        | (go_at_call 17; refine (eqGraph_c q l _ _ l.length l.length _ ?_ ?_ hn).mono ?_; (exact S8.out); (exact T8.out); rintro e w9 ⟨rfl, hb9⟩; have W9 := Lib.hid (below_on W8.out hb9 W8.out.size)))
    go_wp2_with fail
    go_ret
    exact ⟨rfl, W9.out⟩
  · have hx : (1048576 : Int) < (l.length : Int) := by omega
    have h63 : l.length ≤ 9223372036854775807 := by unfold maxLen at hl; omega
    go_enter Try.func5, Try.ntmps5
    go_wp2_with fail
    refine (szGraph_no q A l.length cap 1048576 _ h63 hx (by omega)).mono ?_
    rintro e w1 ⟨rfl, hb1⟩
    have W1 := Lib.hid (below_on HA.out hb1 HA.out.size)
    clear hb1
    go_wp2_with fail
    go_ret
    exact ⟨rfl, W1.out⟩

set_option maxHeartbeats 1000000 in
set_option maxRecDepth 100000 in
theorem lawDegreeOf (q : Int) (A : Option Addr) (cap : Nat) (l : List (Int × Int)) (a1 : Int) (w : World) (hl : l.length ≤ maxLen) (hb : BarsAt w w.heap.size A l) (_w1 : (Lit.int .i64 a1).wf = true) :
    Calls Try.prog 9 #[.agg #[.int .i64 q, .slice A l.length cap], .int .i64 a1] w fun e w' => e = .returned (.bool true) ∧ Below w.heap.size w w' := by
  have HB := Lib.hid hb
  have HA := Lib.hid (new_below w (.cells #[.int .i64 q, .slice A l.length cap] 24))
  have BX := Lib.hid (box_new w q (.slice A l.length cap) 24)
  clear hb
  by_cases hn : l.length ≤ 1048576
  · go_enter Try.func9, Try.ntmps9
    go_wp2_with fail
    refine (szGraph_c q A l.length cap 1048576 _ (by omega) (by omega)).mono ?_
    rintro e w1 ⟨rfl, hb1⟩
    have W1 := Lib.hid (below_on HA.out hb1 HA.out.size)
    have BX1 := Lib.hid (BX.out.kept hb1)
    clear hb1
    obtain ⟨g1, g2, g3⟩ := BX1.out
    have hnn : ¬ (1048576 : Int) - (l.length : Int) < 0 := by omega
    go_wp2_with fail
    clear g1 g2 g3
    refine (toGraph_c q l A cap _ (HB.out.on W1.out) hn).mono ?_
    rintro e w2 ⟨g0, rfl, ho2, hb2⟩
    have W2 := Lib.hid (below_on W1.out hb2 W1.out.size)
    have BX2 := Lib.hid (BX1.out.kept hb2)
    have S2 := Lib.hid (own_bars ho2)
    clear ho2 hb2
    go_wp2_with fail
    refine (specDegree q a1 l (some ⟨g0, 0, none⟩) l.length _ S2.out hn).mono ?_
    rintro e w3 ⟨rfl, hb3⟩
    have W3 := Lib.hid (below_on W2.out hb3 W2.out.size)
    have BX3 := Lib.hid (BX2.out.kept hb3)
    clear hb3
    obtain ⟨g1, g2, g3⟩ := BX3.out
    go_wp2_with fail
    clear g1 g2 g3
    refine (toGraph_c q l A cap _ (HB.out.on W3.out) hn).mono ?_
    rintro e w4 ⟨x0, rfl, ho4, hb4⟩
    have W4 := Lib.hid (below_on W3.out hb4 W3.out.size)
    have BX4 := Lib.hid (BX3.out.kept hb4)
    have S4 := Lib.hid (own_bars ho4)
    clear ho4 hb4
    go_wp2_with fail
    have hal := new_below w4 (.cells #[.int .i64 q, .slice (some ⟨x0, 0, none⟩) l.length l.length] 29)
    have W5 := Lib.hid (below_on W4.out hal W4.out.size)
    have BX5 := Lib.hid (BX4.out.kept hal)
    have XX5 := Lib.hid (box_new w4 q (.slice (some ⟨x0, 0, none⟩) l.length l.length) 29)
    have S5 := Lib.hid (S4.out.on hal)
    have hs5 : w4.heap.size < (w4.alloc (.cells #[.int .i64 q, .slice (some ⟨x0, 0, none⟩) l.length l.length] 29)).heap.size := by simp
    clear hal
    generalize w4.alloc (.cells #[.int .i64 q, .slice (some ⟨x0, 0, none⟩) l.length l.length] 29) = w5 at *
    refine (implDegree q a1 l (some ⟨x0, 0, none⟩) l.length _ S5.out hn).mono ?_
    rintro e w6 ⟨rfl, hb6⟩
    have W6 := Lib.hid (below_on W5.out hb6 W5.out.size)
    have BX6 := Lib.hid (BX5.out.kept hb6)
    have XX6 := Lib.hid (XX5.out.kept hb6)
    have S6 := Lib.hid (S5.out.on hb6)
    clear hb6
    have k6 := box2 BX6.out XX6.out
    have hdr : Below w6.heap.size w6 w6.drew := (Below.refl _ _).drew
    have W7 := Lib.hid (below_on W6.out hdr W6.out.size)
    have BX7 := Lib.hid (BX6.out.kept hdr)
    have XX7 := Lib.hid (XX6.out.kept hdr)
    have S7 := Lib.hid (S6.out.on hdr)
    clear hdr
    go_wp2_with fail
    go_region_held3 (fun W' => W'.cell? ⟨w.heap.size, 0, none⟩ = some (.int .i64 q) ∧ W'.cell? ⟨w.heap.size, 1, none⟩ = some (.slice A l.length cap) ∧ W'.cell? ⟨w4.heap.size, 0, none⟩ = some (.int .i64 q) ∧ W'.cell? ⟨w4.heap.size, 1, none⟩ = some (.slice (some ⟨x0, 0, none⟩) l.length l.length))
      (first | exact k6 | exact box2 (BX7.out.kept hb8) (XX7.out.kept hb8) | exact box2 (BX8.out.kept hb9) (XX8.out.kept hb9) | fail)
      (first
        | (go_at_call 15; refine (toGraph_c q l A cap _ ?_ hn).mono ?_; (exact HB.out.on W7.out); rintro e w8 ⟨y0, rfl, ho8, hb8⟩; have W8 := Lib.hid (below_on W7.out hb8 W7.out.size); have BX8 := Lib.hid (BX7.out.kept hb8); have XX8 := Lib.hid (XX7.out.kept hb8); have S8 := Lib.hid (S7.out.on hb8); have T8 := Lib.hid (own_bars ho8))
        | (go_at_call 17; refine (eqGraph_c q l _ _ l.length l.length _ ?_ ?_ hn).mono ?_; (exact S8.out); (exact T8.out); rintro e w9 ⟨rfl, hb9⟩; have W9 := Lib.hid (below_on W8.out hb9 W8.out.size)))
    go_wp2_with fail
    go_ret
    exact ⟨rfl, W9.out⟩
  · have hx : (1048576 : Int) < (l.length : Int) := by omega
    have h63 : l.length ≤ 9223372036854775807 := by unfold maxLen at hl; omega
    go_enter Try.func9, Try.ntmps9
    go_wp2_with fail
    refine (szGraph_no q A l.length cap 1048576 _ h63 hx (by omega)).mono ?_
    rintro e w1 ⟨rfl, hb1⟩
    have W1 := Lib.hid (below_on HA.out hb1 HA.out.size)
    clear hb1
    go_wp2_with fail
    go_ret
    exact ⟨rfl, W1.out⟩
end Go.Proofs.Ytmanfpdneicgeaa
