/- What impl.IsSparse answers. No condition. -/
import Derived.Test.YtdkpmaahinbhlaaFzOverI
import Derived.Test.YtdkpmaahinbhlaaFzB1
namespace Go.Proofs.Ytdkpmaahinbhlaa
open Go.RowKit

set_option maxHeartbeats 2000000 in
set_option maxRecDepth 100000 in
theorem implSparse (p k c : Int) (l : List (Int × Int)) (A : Option Addr) (cap : Nat) (w : World) (hl : BarsAt w w.heap.size A l) (hn : l.length ≤ 1048576) :
    Calls Try.prog 212 #[.agg #[.int .i64 p, .slice A l.length cap], .int .i64 k, .int .i64 c] w fun e w' => e = .returned (.bool (sparseB p k c l)) ∧ Below w.heap.size w w' := by
  have hA := new_below w (.cells #[.int .i64 p, .slice A l.length cap] 26)
  have HA := Lib.hid hA
  have BX := Lib.hid (box_new w p (.slice A l.length cap) 26)
  have HISG := implIsGraph p l A cap _ (hl.on hA) hn
  have HL := Lib.hid (hl.on hA)
  clear hl hA
  have hrr := implRange k c
  have HOV : ∀ W : World, BarsAt W W.heap.size A l → Calls Try.prog 243 #[.agg #[.int .i64 p, .slice A l.length cap], .int .i64 k, .int .i64 c] W (IntsOB W (overL p l k c) (overB p l k c)) := fun W h => implOver p k c l A cap W h hn
  have hsb : sparseB p k c l = (isGB p l && rangeB k c && !overB p l k c) := rfl
  obtain ⟨_, g1, g2⟩ := BX.out
  generalize isGB p l = bg at *
  generalize rangeB k c = br at *
  generalize overB p l k c = bo at *
  generalize sparseB p k c l = bs at *
  cases bg
  · have HBS := Lib.hid (hsb.trans (by simp : _ = false))
    clear hsb hrr HOV
    go_enter Try.func212, Try.ntmps212
    go_wp2_with (go_at_call 130; refine HISG.mono ?_; rintro e w2 ⟨rfl, hb⟩; have HB := Lib.hid (below_on HA.out hb HA.out.size); clear HISG hb g1 g2)
    go_ret
    exact ⟨by rw [HBS.out]; rfl, HB.out⟩
  · cases br
    · have HBS := Lib.hid (hsb.trans (by simp : _ = false))
      clear hsb HOV
      go_enter Try.func212, Try.ntmps212
      go_wp2_with (first | (go_at_call 130; refine HISG.mono ?_; rintro e w2 ⟨rfl, hb⟩; have HB := Lib.hid (below_on HA.out hb HA.out.size); clear HISG hb g1 g2) | (go_at_call 108; refine (hrr _).mono ?_; rintro e w4 ⟨rfl, rfl⟩; clear hrr))
      go_ret
      exact ⟨by rw [HBS.out]; rfl, HB.out⟩
    · cases bo
      all_goals
        have HBS := Lib.hid hsb
        clear hsb
        go_enter Try.func212, Try.ntmps212
        go_wp2_with (first | (go_at_call 130; refine HISG.mono ?_; rintro e w2 ⟨rfl, hb⟩; have HB := Lib.hid (below_on HA.out hb HA.out.size); have HL2 := Lib.hid (HL.out.on hb); obtain ⟨_, g3, g4⟩ := BX.out.kept hb; clear HISG hb g1 g2) | (go_at_call 108; refine (hrr _).mono ?_; rintro e w4 ⟨rfl, rfl⟩; clear hrr) | (go_at_call 243; refine (HOV _ HL2.out).mono ?_; rintro e w5 ⟨AS, cs, rfl, _, hb⟩; have HB5 := Lib.hid (below_on HB.out hb HB.out.size); clear HOV hb))
        go_ret
        exact ⟨by rw [HBS.out]; rfl, HB5.out⟩
end Go.Proofs.Ytdkpmaahinbhlaa
