/- The law FnExactParseGraph returns true at every input. The condition: the library's tables read as the program lays them. -/
import Derived.Test.YtbmfdkaggbfmmaaDoorParT
import Derived.Test.YtbmfdkaggbfmmaaDoorState
import Derived.Test.YtbmfdkaggbfmmaaDoorHeld
import Derived.Test.YtbmfdkaggbfmmaaDoorPebU
namespace Go.Proofs.YtbmfdkaggbfmmaaDoor
open Go.RowKit

theorem pg_len {s : ByteArray} {q : Int} {m : List (Int × Int)} {b : Bool} (h : PG s q m b) : m.length ≤ 1048576 := by
  rcases h with ⟨_, h, _⟩ | ⟨_, _, rfl, _⟩
  · have := h.2.1
    omega
  · simp

set_option maxHeartbeats 2000000 in
set_option maxRecDepth 100000 in
theorem lawParseGraph (s : ByteArray) (w : World) (_hs : s.size ≤ maxLen) (ht : Tabs w) :
    Calls Tryd.prog 3 #[.string s] w fun e w' => e = .returned (.bool true) ∧ Below w.heap.size w w' := by
  by_cases hn : s.size ≤ 1048576
  · have hx : ¬ (1048576 : Int) < (s.size : Int) := by omega
    have HT := Lib.hid ht
    clear ht
    have W0 := Lib.hid (Below.refl w.heap.size w)
    go_enter Tryd.func3, Tryd.ntmps3
    go_wp2_with fail
    refine (specParse s _ hn).mono ?_
    rintro e w1 ⟨q, m, b, hpg, AS, cs, rfl, hs', hb⟩
    have Z1 := Lib.hid (within_of hb).size
    have W1 := Lib.hid (within_on W0.out (within_of hb) W0.out.size (.inr (Nat.le_refl _)))
    have SR_1 := Lib.hid (hs'.bars)
    clear hs' hb
    have hm := pg_len hpg
    have HPG := Lib.hid hpg
    clear hpg
    have Z2 := Lib.hid (within_alloc w1 (.cells #[.int .i64 q, (.slice AS m.length cs)] 24)).size
    have W2 := Lib.hid (within_on W1.out (within_alloc w1 (.cells #[.int .i64 q, (.slice AS m.length cs)] 24)) W1.out.size (.inr (Nat.le_refl _)))
    have SR_2 := Lib.hid (SR_1.out.within (within_alloc w1 (.cells #[.int .i64 q, (.slice AS m.length cs)] 24)) (by omega))
    have Y2 := Lib.hid (show (w1.alloc (.cells #[.int .i64 q, (.slice AS m.length cs)] 24)).heap.size = w1.heap.size + 1 by simp)
    have hnew := box_new w1 q (.slice AS m.length cs) 24
    have BW_2 := Lib.hid hnew
    clear hnew
    go_wp2_with fail
    generalize (w1.alloc (.cells #[.int .i64 q, (.slice AS m.length cs)] 24)) = w2 at *
    refine (implParseT s _ hn (HT.out.below W2.out)).mono ?_
    rintro e w3 ⟨q', m', b', hpg, AG, cg, rfl, ho, hb⟩
    have Z3 := Lib.hid (within_of hb).size
    have W3 := Lib.hid (within_on W2.out (within_of hb) W2.out.size (.inr (Nat.le_refl _)))
    have SR_3 := Lib.hid (SR_2.out.within (within_of hb) (by omega))
    have BW_3 := Lib.hid (BW_2.out.within (within_of hb) (by omega))
    have SO_3 := Lib.hid (ho)
    clear hb
    obtain ⟨rfl, rfl, rfl⟩ := hpg.unique HPG.out
    clear hpg ho
    have Z4 := Lib.hid (within_alloc w3 (.cells #[.int .i64 q', (.slice AG m'.length cg)] 24)).size
    have W4 := Lib.hid (within_on W3.out (within_alloc w3 (.cells #[.int .i64 q', (.slice AG m'.length cg)] 24)) W3.out.size (.inr (Nat.le_refl _)))
    have SR_4 := Lib.hid (SR_3.out.within (within_alloc w3 (.cells #[.int .i64 q', (.slice AG m'.length cg)] 24)) (by omega))
    have BW_4 := Lib.hid (BW_3.out.within (within_alloc w3 (.cells #[.int .i64 q', (.slice AG m'.length cg)] 24)) (by omega))
    have SO_4 := Lib.hid (SO_3.out.within (within_alloc w3 (.cells #[.int .i64 q', (.slice AG m'.length cg)] 24)) (by omega))
    have Y4 := Lib.hid (show (w3.alloc (.cells #[.int .i64 q', (.slice AG m'.length cg)] 24)).heap.size = w3.heap.size + 1 by simp)
    have hnew := box_new w3 q' (.slice AG m'.length cg) 24
    have BG_4 := Lib.hid hnew
    clear hnew
    obtain ⟨g0_0, g0_1, g0_2⟩ := BW_4.out
    obtain ⟨g1_0, g1_1, g1_2⟩ := BG_4.out
    go_wp2_with fail
    clear g0_0 g0_1 g0_2 g1_0 g1_1 g1_2
    generalize (w3.alloc (.cells #[.int .i64 q', (.slice AG m'.length cg)] 24)) = w4 at *
    refine (eqGraph_c q' m' AG AS cg cs _ SO_4.out.bars.at SR_4.out.at hm).mono ?_
    rintro e w5 ⟨rfl, hb⟩
    have Z5 := Lib.hid (within_of hb).size
    have W5 := Lib.hid (within_on W4.out (within_of hb) W4.out.size (.inr (Nat.le_refl _)))
    have SR_5 := Lib.hid (SR_4.out.within (within_of hb) (by omega))
    have BW_5 := Lib.hid (BW_4.out.within (within_of hb) (by omega))
    have SO_5 := Lib.hid (SO_4.out.within (within_of hb) (by omega))
    have BG_5 := Lib.hid (BG_4.out.within (within_of hb) (by omega))
    clear hb
    obtain ⟨g2_0, g2_1, g2_2⟩ := BG_5.out
    go_wp2_with fail
    clear g2_0 g2_1 g2_2
    refine (markGraph_o q' AG cg m' 1 w2.heap.size w3.heap.size _ SO_5.out hm (by omega) (by omega)).mono ?_
    rintro e w6 ⟨rfl, hin, hog⟩
    have Z6 := Lib.hid (hin).size
    have W6 := Lib.hid (within_on W5.out (hin) W5.out.size (by have := Z1.out; have := Z2.out; have := Z3.out; have := Z4.out; have := Z5.out; have := Z6.out; have := Y2.out; have := Y4.out; omega))
    have SR_6 := Lib.hid (SR_5.out.within (hin) (by have := Z1.out; have := Z2.out; have := Z3.out; have := Z4.out; have := Z5.out; have := Z6.out; have := Y2.out; have := Y4.out; omega))
    have BW_6 := Lib.hid (BW_5.out.within (hin) (by have := Z1.out; have := Z2.out; have := Z3.out; have := Z4.out; have := Z5.out; have := Z6.out; have := Y2.out; have := Y4.out; omega))
    have BG_6 := Lib.hid (BG_5.out.within (hin) (by have := Z1.out; have := Z2.out; have := Z3.out; have := Z4.out; have := Z5.out; have := Z6.out; have := Y2.out; have := Y4.out; omega))
    have SM_6 := Lib.hid (hog)
    clear hog hin
    have hk2 : ¬ (1 : Int) + 2 * (m'.length : Int) < 0 := by omega
    obtain ⟨g3_0, g3_1, g3_2⟩ := BG_6.out
    go_wp2_with fail
    clear g3_0 g3_1 g3_2
    refine (heldGraph_o q' m'.length AG cg 1 w2.heap.size w3.heap.size _ SM_6.out hm (by omega) (by omega)).mono ?_
    rintro e w7 ⟨rfl, hb⟩
    have Z7 := Lib.hid (within_of hb).size
    have W7 := Lib.hid (within_on W6.out (within_of hb) W6.out.size (.inr (Nat.le_refl _)))
    have SR_7 := Lib.hid (SR_6.out.within (within_of hb) (by omega))
    have BW_7 := Lib.hid (BW_6.out.within (within_of hb) (by omega))
    have BG_7 := Lib.hid (BG_6.out.within (within_of hb) (by omega))
    have SM_7 := Lib.hid (SM_6.out.within (within_of hb) (by omega))
    clear hb
    go_wp2_with fail
    refine (implParseT s _ hn (HT.out.below W7.out)).mono ?_
    rintro e w8 ⟨q2, m2, b2, hpg, AH, ch, rfl, ho, hb⟩
    have Z8 := Lib.hid (within_of hb).size
    have W8 := Lib.hid (within_on W7.out (within_of hb) W7.out.size (.inr (Nat.le_refl _)))
    have SR_8 := Lib.hid (SR_7.out.within (within_of hb) (by omega))
    have BW_8 := Lib.hid (BW_7.out.within (within_of hb) (by omega))
    have BG_8 := Lib.hid (BG_7.out.within (within_of hb) (by omega))
    have SM_8 := Lib.hid (SM_7.out.within (within_of hb) (by omega))
    have SH_8 := Lib.hid (ho.bars)
    clear hb
    obtain ⟨rfl, rfl, rfl⟩ := hpg.unique HPG.out
    clear hpg ho
    have Z9 := Lib.hid (within_alloc w8 (.cells #[.int .i64 q2, (.slice AH m2.length ch)] 24)).size
    have W9 := Lib.hid (within_on W8.out (within_alloc w8 (.cells #[.int .i64 q2, (.slice AH m2.length ch)] 24)) W8.out.size (.inr (Nat.le_refl _)))
    have SR_9 := Lib.hid (SR_8.out.within (within_alloc w8 (.cells #[.int .i64 q2, (.slice AH m2.length ch)] 24)) (by omega))
    have BW_9 := Lib.hid (BW_8.out.within (within_alloc w8 (.cells #[.int .i64 q2, (.slice AH m2.length ch)] 24)) (by omega))
    have BG_9 := Lib.hid (BG_8.out.within (within_alloc w8 (.cells #[.int .i64 q2, (.slice AH m2.length ch)] 24)) (by omega))
    have SM_9 := Lib.hid (SM_8.out.within (within_alloc w8 (.cells #[.int .i64 q2, (.slice AH m2.length ch)] 24)) (by omega))
    have SH_9 := Lib.hid (SH_8.out.within (within_alloc w8 (.cells #[.int .i64 q2, (.slice AH m2.length ch)] 24)) (by omega))
    have Y9 := Lib.hid (show (w8.alloc (.cells #[.int .i64 q2, (.slice AH m2.length ch)] 24)).heap.size = w8.heap.size + 1 by simp)
    have hnew := box_new w8 q2 (.slice AH m2.length ch) 24
    have BH_9 := Lib.hid hnew
    clear hnew
    obtain ⟨g4_0, g4_1, g4_2⟩ := BW_9.out
    obtain ⟨g5_0, g5_1, g5_2⟩ := BH_9.out
    go_wp2_with fail
    clear g4_0 g4_1 g4_2 g5_0 g5_1 g5_2
    generalize (w8.alloc (.cells #[.int .i64 q2, (.slice AH m2.length ch)] 24)) = w9 at *
    refine (eqGraph_c q2 m2 AH AS ch cs _ SH_9.out.at SR_9.out.at hm).mono ?_
    rintro e w10 ⟨rfl, hb⟩
    have Z10 := Lib.hid (within_of hb).size
    have W10 := Lib.hid (within_on W9.out (within_of hb) W9.out.size (.inr (Nat.le_refl _)))
    have SR_10 := Lib.hid (SR_9.out.within (within_of hb) (by omega))
    have BW_10 := Lib.hid (BW_9.out.within (within_of hb) (by omega))
    have BG_10 := Lib.hid (BG_9.out.within (within_of hb) (by omega))
    have SM_10 := Lib.hid (SM_9.out.within (within_of hb) (by omega))
    have SH_10 := Lib.hid (SH_9.out.within (within_of hb) (by omega))
    have BH_10 := Lib.hid (BH_9.out.within (within_of hb) (by omega))
    clear hb
    obtain ⟨g6_0, g6_1, g6_2⟩ := BG_10.out
    go_wp2_with fail
    clear g6_0 g6_1 g6_2
    refine (heldGraph_o q2 m2.length AG cg 1 w2.heap.size w3.heap.size _ SM_10.out hm (by omega) (by omega)).mono ?_
    rintro e w11 ⟨rfl, hb⟩
    have Z11 := Lib.hid (within_of hb).size
    have W11 := Lib.hid (within_on W10.out (within_of hb) W10.out.size (.inr (Nat.le_refl _)))
    have SR_11 := Lib.hid (SR_10.out.within (within_of hb) (by omega))
    have BW_11 := Lib.hid (BW_10.out.within (within_of hb) (by omega))
    have BG_11 := Lib.hid (BG_10.out.within (within_of hb) (by omega))
    have SM_11 := Lib.hid (SM_10.out.within (within_of hb) (by omega))
    have SH_11 := Lib.hid (SH_10.out.within (within_of hb) (by omega))
    have BH_11 := Lib.hid (BH_10.out.within (within_of hb) (by omega))
    clear hb
    go_wp2_with fail
    go_ret
    exact ⟨rfl, W11.out⟩
  · have hx : (1048576 : Int) < (s.size : Int) := by omega
    clear ht
    go_enter Tryd.func3, Tryd.ntmps3
    go_wp2_with fail
    go_ret
    exact ⟨rfl, Below.refl _ _⟩
end Go.Proofs.YtbmfdkaggbfmmaaDoor
