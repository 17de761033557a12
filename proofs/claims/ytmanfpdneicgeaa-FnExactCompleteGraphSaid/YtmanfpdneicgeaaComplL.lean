/- The law FnExactCompleteGraph returns true at every input. No condition. -/
import Derived.Test.YtmanfpdneicgeaaComplW
import Derived.Test.YtmanfpdneicgeaaState
import Derived.Deep.RegionHeld3
namespace Go.Proofs.Ytmanfpdneicgeaa
open Go.RowKit

set_option maxHeartbeats 2000000 in
set_option maxRecDepth 100000 in
theorem lawCompleteGraph (a1 : Int) (w : World) (_w1 : (Lit.int .i64 a1).wf = true) :
    Calls Try.prog 4 #[.int .i64 a1] w fun e w' => e = .returned (.bool true) ∧ Below w.heap.size w w' := by
  have W0 := Lib.hid (Below.refl w.heap.size w)
  go_enter Try.func4, Try.ntmps4
  go_wp2_with fail
  refine (specComplete a1 _).mono ?_
  rintro e w1 ⟨AS, cs, rfl, hs, hb⟩
  have Z1 := Lib.hid (within_of hb).size
  have W1 := Lib.hid (within_on W0.out (within_of hb) W0.out.size (.inr (Nat.le_refl _)))
  have SR_1 := Lib.hid (bars_in hs)
  clear hs hb
  go_wp2_with fail
  have hal := new_below w1 (.cells #[.int .i64 (compP a1), .slice AS (compL a1).length cs] 29)
  have Z2 := Lib.hid (within_of hal).size
  have W2 := Lib.hid (within_on W1.out (within_of hal) W1.out.size (.inr (Nat.le_refl _)))
  have SR_2 := Lib.hid (SR_1.out.within (within_of hal) (by omega))
  clear hal
  have hsz : (w1.alloc (.cells #[.int .i64 (compP a1), .slice AS (compL a1).length cs] 29)).heap.size = w1.heap.size + 1 := by simp
  have Y2 := Lib.hid hsz
  clear hsz
  have BW_2 := Lib.hid (box_new w1 (compP a1) (.slice AS (compL a1).length cs) 29)
  generalize (w1.alloc (.cells #[.int .i64 (compP a1), .slice AS (compL a1).length cs] 29)) = w2 at *
  refine (implComplete a1 _).mono ?_
  rintro e w3 ⟨AG, cg, rfl, ho, hb⟩
  have Z3 := Lib.hid (within_of hb).size
  have W3 := Lib.hid (within_on W2.out (within_of hb) W2.out.size (.inr (Nat.le_refl _)))
  have SR_3 := Lib.hid (SR_2.out.within (within_of hb) (by omega))
  have BW_3 := Lib.hid (BW_2.out.within (within_of hb) (by omega))
  have SO_3 := Lib.hid (ho)
  clear ho hb
  obtain ⟨g01, g02, g03⟩ := BW_3.out
  go_wp2_with fail
  clear g01 g02 g03
  have hal := new_below w3 (.cells #[.int .i64 (compP a1), .slice AG (compL a1).length cg] 29)
  have Z4 := Lib.hid (within_of hal).size
  have W4 := Lib.hid (within_on W3.out (within_of hal) W3.out.size (.inr (Nat.le_refl _)))
  have SR_4 := Lib.hid (SR_3.out.within (within_of hal) (by omega))
  have BW_4 := Lib.hid (BW_3.out.within (within_of hal) (by omega))
  have SO_4 := Lib.hid (SO_3.out.within (within_of hal) (by omega))
  clear hal
  have hsz : (w3.alloc (.cells #[.int .i64 (compP a1), .slice AG (compL a1).length cg] 29)).heap.size = w3.heap.size + 1 := by simp
  have Y4 := Lib.hid hsz
  clear hsz
  have BG_4 := Lib.hid (box_new w3 (compP a1) (.slice AG (compL a1).length cg) 29)
  generalize (w3.alloc (.cells #[.int .i64 (compP a1), .slice AG (compL a1).length cg] 29)) = w4 at *
  refine (eqGraph_c (compP a1) (compL a1) AG AS cg cs _ SO_4.out.bars.at SR_4.out.at (compL_len a1)).mono ?_
  rintro e w5 ⟨rfl, hb⟩
  have Z5 := Lib.hid (within_of hb).size
  have W5 := Lib.hid (within_on W4.out (within_of hb) W4.out.size (.inr (Nat.le_refl _)))
  have SR_5 := Lib.hid (SR_4.out.within (within_of hb) (by omega))
  have BW_5 := Lib.hid (BW_4.out.within (within_of hb) (by omega))
  have SO_5 := Lib.hid (SO_4.out.within (within_of hb) (by omega))
  have BG_5 := Lib.hid (BG_4.out.within (within_of hb) (by omega))
  clear hb
  obtain ⟨g01, g02, g03⟩ := BG_5.out
  go_wp2_with fail
  clear g01 g02 g03
  refine (markGraph_o (compP a1) AG cg (compL a1) 1 w2.heap.size w3.heap.size _ SO_5.out (compL_len a1) (by omega) (by omega)).mono ?_
  rintro e w6 ⟨rfl, hin, hog⟩
  have Z6 := Lib.hid (hin).size
  have W6 := Lib.hid (within_on W5.out (hin) W5.out.size (by have := W5.out.size; have := Z1.out; have := Z2.out; have := Z3.out; have := Z4.out; have := Z5.out; have := Z6.out; have := Y2.out; have := Y4.out; omega))
  have SR_6 := Lib.hid (SR_5.out.within (hin) (by have := Z1.out; have := Z2.out; have := Z3.out; have := Z4.out; have := Z5.out; have := Z6.out; have := Y2.out; have := Y4.out; omega))
  have BW_6 := Lib.hid (BW_5.out.within (hin) (by have := Z1.out; have := Z2.out; have := Z3.out; have := Z4.out; have := Z5.out; have := Z6.out; have := Y2.out; have := Y4.out; omega))
  have BG_6 := Lib.hid (BG_5.out.within (hin) (by have := Z1.out; have := Z2.out; have := Z3.out; have := Z4.out; have := Z5.out; have := Z6.out; have := Y2.out; have := Y4.out; omega))
  have SM_6 := Lib.hid (hog)
  clear hog hin
  have hk2 : ¬ (1 : Int) + 2 * ((compL a1).length : Int) < 0 := by omega
  obtain ⟨g01, g02, g03⟩ := BG_6.out
  go_wp2_with fail
  clear g01 g02 g03
  refine (heldGraph_o (compP a1) (compL a1).length AG cg 1 w2.heap.size w3.heap.size _ SM_6.out (compL_len a1) (by omega) (by omega)).mono ?_
  rintro e w7 ⟨rfl, hb⟩
  have Z7 := Lib.hid (within_of hb).size
  have W7 := Lib.hid (within_on W6.out (within_of hb) W6.out.size (.inr (Nat.le_refl _)))
  have SR_7 := Lib.hid (SR_6.out.within (within_of hb) (by omega))
  have BW_7 := Lib.hid (BW_6.out.within (within_of hb) (by omega))
  have BG_7 := Lib.hid (BG_6.out.within (within_of hb) (by omega))
  have SM_7 := Lib.hid (SM_6.out.within (within_of hb) (by omega))
  clear hb
  go_wp2_with fail
  refine (implComplete a1 _).mono ?_
  rintro e w8 ⟨AH, ch, rfl, ho, hb⟩
  have Z8 := Lib.hid (within_of hb).size
  have W8 := Lib.hid (within_on W7.out (within_of hb) W7.out.size (.inr (Nat.le_refl _)))
  have SR_8 := Lib.hid (SR_7.out.within (within_of hb) (by omega))
  have BW_8 := Lib.hid (BW_7.out.within (within_of hb) (by omega))
  have BG_8 := Lib.hid (BG_7.out.within (within_of hb) (by omega))
  have SM_8 := Lib.hid (SM_7.out.within (within_of hb) (by omega))
  have SH_8 := Lib.hid (ho.bars)
  clear ho hb
  obtain ⟨g01, g02, g03⟩ := BW_8.out
  go_wp2_with fail
  clear g01 g02 g03
  have hal := new_below w8 (.cells #[.int .i64 (compP a1), .slice AH (compL a1).length ch] 29)
  have Z9 := Lib.hid (within_of hal).size
  have W9 := Lib.hid (within_on W8.out (within_of hal) W8.out.size (.inr (Nat.le_refl _)))
  have SR_9 := Lib.hid (SR_8.out.within (within_of hal) (by omega))
  have BW_9 := Lib.hid (BW_8.out.within (within_of hal) (by omega))
  have BG_9 := Lib.hid (BG_8.out.within (within_of hal) (by omega))
  have SM_9 := Lib.hid (SM_8.out.within (within_of hal) (by omega))
  have SH_9 := Lib.hid (SH_8.out.within (within_of hal) (by omega))
  clear hal
  have hsz : (w8.alloc (.cells #[.int .i64 (compP a1), .slice AH (compL a1).length ch] 29)).heap.size = w8.heap.size + 1 := by simp
  have Y9 := Lib.hid hsz
  clear hsz
  have BH_9 := Lib.hid (box_new w8 (compP a1) (.slice AH (compL a1).length ch) 29)
  generalize (w8.alloc (.cells #[.int .i64 (compP a1), .slice AH (compL a1).length ch] 29)) = w9 at *
  refine (eqGraph_c (compP a1) (compL a1) AH AS ch cs _ SH_9.out.at SR_9.out.at (compL_len a1)).mono ?_
  rintro e w10 ⟨rfl, hb⟩
  have Z10 := Lib.hid (within_of hb).size
  have W10 := Lib.hid (within_on W9.out (within_of hb) W9.out.size (.inr (Nat.le_refl _)))
  have SR_10 := Lib.hid (SR_9.out.within (within_of hb) (by omega))
  have BW_10 := Lib.hid (BW_9.out.within (within_of hb) (by omega))
  have BG_10 := Lib.hid (BG_9.out.within (within_of hb) (by omega))
  have SM_10 := Lib.hid (SM_9.out.within (within_of hb) (by omega))
  have SH_10 := Lib.hid (SH_9.out.within (within_of hb) (by omega))
  have BH_10 := Lib.hid (BH_9.out.within (within_of hb) (by omega))
  clear hb
  obtain ⟨g01, g02, g03⟩ := BG_10.out
  go_wp2_with fail
  clear g01 g02 g03
  refine (heldGraph_o (compP a1) (compL a1).length AG cg 1 w2.heap.size w3.heap.size _ SM_10.out (compL_len a1) (by omega) (by omega)).mono ?_
  rintro e w11 ⟨rfl, hb⟩
  have Z11 := Lib.hid (within_of hb).size
  have W11 := Lib.hid (within_on W10.out (within_of hb) W10.out.size (.inr (Nat.le_refl _)))
  have SR_11 := Lib.hid (SR_10.out.within (within_of hb) (by omega))
  have BW_11 := Lib.hid (BW_10.out.within (within_of hb) (by omega))
  have BG_11 := Lib.hid (BG_10.out.within (within_of hb) (by omega))
  have SM_11 := Lib.hid (SM_10.out.within (within_of hb) (by omega))
  have SH_11 := Lib.hid (SH_10.out.within (within_of hb) (by omega))
  have BH_11 := Lib.hid (BH_10.out.within (within_of hb) (by omega))
  clear hb
  go_wp2_with fail
  go_ret
  exact ⟨rfl, W11.out⟩
end Go.Proofs.Ytmanfpdneicgeaa
