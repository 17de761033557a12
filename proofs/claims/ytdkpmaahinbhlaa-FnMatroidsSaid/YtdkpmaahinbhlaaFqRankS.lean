/- What spec.RankOf answers. No condition. -/
import Derived.Test.YtdkpmaahinbhlaaFqRunS
import Derived.Test.YtdkpmaahinbhlaaFqB1
namespace Go.Proofs.Ytdkpmaahinbhlaa
open Go.RowKit

set_option maxHeartbeats 2000000 in
set_option maxRecDepth 100000 in
theorem specRank (p k c : Int) (l : List (Int × Int)) (A : Option Addr) (cap : Nat) (w : World) (hl : BarsAt w w.heap.size A l) (hn : l.length ≤ 1048576) :
    Calls Try.prog 46 #[.agg #[.int .i64 p, .slice A l.length cap], .int .i64 k, .int .i64 c] w fun e w' => e = .returned (.int .i64 (rankV p k c l)) ∧ Below w.heap.size w w' := by
  obtain ⟨rv, hrv⟩ : ∃ rv, rankV p k c l = rv := ⟨_, rfl⟩
  rw [hrv]
  unfold rankV at hrv
  cases hb : runB p k c l with
  | false =>
    have HRV := Lib.hid (show rv = -1 from by rw [← hrv, hb]; rfl)
    clear hrv
    have HNW : ∀ W : World, BarsAt W W.heap.size A l → Calls Try.prog 17 #[.agg #[.int .i64 p, .slice A l.length cap], .int .i64 k, .int .i64 c] W (PebOB W (runV p k c l).1 (runV p k c l).2.1 (runV p k c l).2.2 false) := fun W h => by have hc := specRunP p k c l A cap W h hn; rw [hb] at hc; exact hc
    clear hb
    have W0 := Lib.hid (Below.refl w.heap.size w)
    have HB_0 := Lib.hid (bars_in hl)
    clear hl
    have Z1 := Lib.hid (within_alloc w (.cells #[.int .i64 p, (.slice A l.length cap)] 26)).size
    have W1 := Lib.hid (within_on W0.out (within_alloc w (.cells #[.int .i64 p, (.slice A l.length cap)] 26)) W0.out.size (.inr (Nat.le_refl _)))
    have HB_1 := Lib.hid (HB_0.out.within (within_alloc w (.cells #[.int .i64 p, (.slice A l.length cap)] 26)) (by omega))
    have Y1 := Lib.hid (show (w.alloc (.cells #[.int .i64 p, (.slice A l.length cap)] 26)).heap.size = w.heap.size + 1 by simp)
    have hnew := box_new w p (.slice A l.length cap) 26
    have BX_1 := Lib.hid hnew
    clear hnew
    go_enter Try.func46, Try.ntmps46
    obtain ⟨g0_0, g0_1, g0_2⟩ := BX_1.out
    go_wp2_with fail
    clear g0_0 g0_1 g0_2
    generalize (w.alloc (.cells #[.int .i64 p, (.slice A l.length cap)] 26)) = w1 at *
    refine (HNW _ HB_1.out.at).mono ?_
    rintro e w2 ⟨AF, cF, AT, cT, AZ, cZ, rfl, ho, hb⟩
    have Z2 := Lib.hid (within_of hb).size
    have W2 := Lib.hid (within_on W1.out (within_of hb) W1.out.size (.inr (Nat.le_refl _)))
    have HB_2 := Lib.hid (HB_1.out.within (within_of hb) (by omega))
    have BX_2 := Lib.hid (BX_1.out.within (within_of hb) (by omega))
    have OP_2 := Lib.hid (ho)
    clear ho hb
    have Z3 := Lib.hid (within_alloc w2 (.cells #[(.slice AF (runV p k c l).1.length cF), (.slice AT (runV p k c l).2.1.length cT), (.slice AZ (runV p k c l).2.2.length cZ)] 31)).size
    have W3 := Lib.hid (within_on W2.out (within_alloc w2 (.cells #[(.slice AF (runV p k c l).1.length cF), (.slice AT (runV p k c l).2.1.length cT), (.slice AZ (runV p k c l).2.2.length cZ)] 31)) W2.out.size (.inr (Nat.le_refl _)))
    have HB_3 := Lib.hid (HB_2.out.within (within_alloc w2 (.cells #[(.slice AF (runV p k c l).1.length cF), (.slice AT (runV p k c l).2.1.length cT), (.slice AZ (runV p k c l).2.2.length cZ)] 31)) (by omega))
    have BX_3 := Lib.hid (BX_2.out.within (within_alloc w2 (.cells #[(.slice AF (runV p k c l).1.length cF), (.slice AT (runV p k c l).2.1.length cT), (.slice AZ (runV p k c l).2.2.length cZ)] 31)) (by omega))
    have OP_3 := Lib.hid (OP_2.out.within (within_alloc w2 (.cells #[(.slice AF (runV p k c l).1.length cF), (.slice AT (runV p k c l).2.1.length cT), (.slice AZ (runV p k c l).2.2.length cZ)] 31)) (by omega))
    have Y3 := Lib.hid (show (w2.alloc (.cells #[(.slice AF (runV p k c l).1.length cF), (.slice AT (runV p k c l).2.1.length cT), (.slice AZ (runV p k c l).2.2.length cZ)] 31)).heap.size = w2.heap.size + 1 by simp)
    have hnew := cel3_new w2 (.slice AF (runV p k c l).1.length cF) (.slice AT (runV p k c l).2.1.length cT) (.slice AZ (runV p k c l).2.2.length cZ) 31
    have BP_3 := Lib.hid hnew
    clear hnew
    obtain ⟨g1_0, g1_1, g1_2, g1_3, g1_4, g1_5⟩ := BP_3.out.cells
    go_wp2_with fail
    clear g1_0 g1_1 g1_2 g1_3 g1_4 g1_5
    generalize (w2.alloc (.cells #[(.slice AF (runV p k c l).1.length cF), (.slice AT (runV p k c l).2.1.length cT), (.slice AZ (runV p k c l).2.2.length cZ)] 31)) = w3 at *
    go_ret
    exact ⟨by rw [HRV.out]; rfl, W3.out⟩
  | true =>
    have HRV := Lib.hid (show rv = (((runV p k c l).2.2.length : Nat) : Int) from by rw [← hrv, hb]; rfl)
    clear hrv
    have HNW : ∀ W : World, BarsAt W W.heap.size A l → Calls Try.prog 17 #[.agg #[.int .i64 p, .slice A l.length cap], .int .i64 k, .int .i64 c] W (PebOB W (runV p k c l).1 (runV p k c l).2.1 (runV p k c l).2.2 true) := fun W h => by have hc := specRunP p k c l A cap W h hn; rw [hb] at hc; exact hc
    clear hb
    have W0 := Lib.hid (Below.refl w.heap.size w)
    have HB_0 := Lib.hid (bars_in hl)
    clear hl
    have Z1 := Lib.hid (within_alloc w (.cells #[.int .i64 p, (.slice A l.length cap)] 26)).size
    have W1 := Lib.hid (within_on W0.out (within_alloc w (.cells #[.int .i64 p, (.slice A l.length cap)] 26)) W0.out.size (.inr (Nat.le_refl _)))
    have HB_1 := Lib.hid (HB_0.out.within (within_alloc w (.cells #[.int .i64 p, (.slice A l.length cap)] 26)) (by omega))
    have Y1 := Lib.hid (show (w.alloc (.cells #[.int .i64 p, (.slice A l.length cap)] 26)).heap.size = w.heap.size + 1 by simp)
    have hnew := box_new w p (.slice A l.length cap) 26
    have BX_1 := Lib.hid hnew
    clear hnew
    go_enter Try.func46, Try.ntmps46
    obtain ⟨g0_0, g0_1, g0_2⟩ := BX_1.out
    go_wp2_with fail
    clear g0_0 g0_1 g0_2
    generalize (w.alloc (.cells #[.int .i64 p, (.slice A l.length cap)] 26)) = w1 at *
    refine (HNW _ HB_1.out.at).mono ?_
    rintro e w2 ⟨AF, cF, AT, cT, AZ, cZ, rfl, ho, hb⟩
    have Z2 := Lib.hid (within_of hb).size
    have W2 := Lib.hid (within_on W1.out (within_of hb) W1.out.size (.inr (Nat.le_refl _)))
    have HB_2 := Lib.hid (HB_1.out.within (within_of hb) (by omega))
    have BX_2 := Lib.hid (BX_1.out.within (within_of hb) (by omega))
    have OP_2 := Lib.hid (ho)
    clear ho hb
    have Z3 := Lib.hid (within_alloc w2 (.cells #[(.slice AF (runV p k c l).1.length cF), (.slice AT (runV p k c l).2.1.length cT), (.slice AZ (runV p k c l).2.2.length cZ)] 31)).size
    have W3 := Lib.hid (within_on W2.out (within_alloc w2 (.cells #[(.slice AF (runV p k c l).1.length cF), (.slice AT (runV p k c l).2.1.length cT), (.slice AZ (runV p k c l).2.2.length cZ)] 31)) W2.out.size (.inr (Nat.le_refl _)))
    have HB_3 := Lib.hid (HB_2.out.within (within_alloc w2 (.cells #[(.slice AF (runV p k c l).1.length cF), (.slice AT (runV p k c l).2.1.length cT), (.slice AZ (runV p k c l).2.2.length cZ)] 31)) (by omega))
    have BX_3 := Lib.hid (BX_2.out.within (within_alloc w2 (.cells #[(.slice AF (runV p k c l).1.length cF), (.slice AT (runV p k c l).2.1.length cT), (.slice AZ (runV p k c l).2.2.length cZ)] 31)) (by omega))
    have OP_3 := Lib.hid (OP_2.out.within (within_alloc w2 (.cells #[(.slice AF (runV p k c l).1.length cF), (.slice AT (runV p k c l).2.1.length cT), (.slice AZ (runV p k c l).2.2.length cZ)] 31)) (by omega))
    have Y3 := Lib.hid (show (w2.alloc (.cells #[(.slice AF (runV p k c l).1.length cF), (.slice AT (runV p k c l).2.1.length cT), (.slice AZ (runV p k c l).2.2.length cZ)] 31)).heap.size = w2.heap.size + 1 by simp)
    have hnew := cel3_new w2 (.slice AF (runV p k c l).1.length cF) (.slice AT (runV p k c l).2.1.length cT) (.slice AZ (runV p k c l).2.2.length cZ) 31
    have BP_3 := Lib.hid hnew
    clear hnew
    obtain ⟨g1_0, g1_1, g1_2, g1_3, g1_4, g1_5⟩ := BP_3.out.cells
    go_wp2_with fail
    clear g1_0 g1_1 g1_2 g1_3 g1_4 g1_5
    generalize (w2.alloc (.cells #[(.slice AF (runV p k c l).1.length cF), (.slice AT (runV p k c l).2.1.length cT), (.slice AZ (runV p k c l).2.2.length cZ)] 31)) = w3 at *
    go_ret
    exact ⟨by rw [HRV.out]; rfl, W3.out⟩
end Go.Proofs.Ytdkpmaahinbhlaa
