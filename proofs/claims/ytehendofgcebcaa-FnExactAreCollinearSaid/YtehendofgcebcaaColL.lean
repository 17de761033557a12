/- The law FnExactAreCollinear returns true at every input. No condition. -/
import Derived.Test.YtehendofgcebcaaColI
import Derived.Deep.RegionHeld3
namespace Go.Proofs.Ytehendofgcebcaa
open Go.RowKit

set_option maxHeartbeats 4000000 in
set_option maxRecDepth 100000 in
theorem lawAreCollinear (x1 x2 y1 y2 z1 z2 : Int) (w : World) :
    Calls Try.prog 11 #[.agg #[.int .i64 x1, .int .i64 x2], .agg #[.int .i64 y1, .int .i64 y2], .agg #[.int .i64 z1, .int .i64 z2]] w fun e w' => e = .returned (.bool true) ∧ Below w.heap.size w w' := by
  have HB := Lib.hid (B3I.new w x1 x2 y1 y2 z1 z2 73)
  have HS := Lib.hid fun (W : World) => specCol x1 x2 y1 y2 z1 z2 W
  have HI := Lib.hid fun (W : World) => implCol x1 x2 y1 y2 z1 z2 W
  obtain ⟨r, hr⟩ : ∃ r, colB (x1, x2) (y1, y2) (z1, z2) = r := ⟨_, rfl⟩
  rw [hr] at HS HI
  clear hr
  go_enter Try.func11, Try.ntmps11
  go_wp2_with fail
  generalize (((w.alloc (.cells #[.int .i64 x1, .int .i64 x2] 73)).alloc (.cells #[.int .i64 y1, .int .i64 y2] 73)).alloc (.cells #[.int .i64 z1, .int .i64 z2] 73)) = w1 at *
  have HA0 := Lib.hid (HB.out.below (show Below w1.heap.size w1 w1.drew from (Below.refl _ _).drew))
  go_region_held3 (fun W' => W'.cell? ⟨w.heap.size, 0, none⟩ = some (.int .i64 x1) ∧ W'.cell? ⟨w.heap.size, 1, none⟩ = some (.int .i64 x2) ∧ W'.cell? ⟨w.heap.size + 1, 0, none⟩ = some (.int .i64 y1) ∧ W'.cell? ⟨w.heap.size + 1, 1, none⟩ = some (.int .i64 y2) ∧ W'.cell? ⟨w.heap.size + 2, 0, none⟩ = some (.int .i64 z1) ∧ W'.cell? ⟨w.heap.size + 2, 1, none⟩ = some (.int .i64 z2))
    (first | exact ⟨HA0.out.ba.2.1, HA0.out.ba.2.2, HA0.out.bb.2.1, HA0.out.bb.2.2, HA0.out.bc.2.1, HA0.out.bc.2.2⟩ | exact ⟨HA1.out.ba.2.1, HA1.out.ba.2.2, HA1.out.bb.2.1, HA1.out.bb.2.2, HA1.out.bc.2.1, HA1.out.bc.2.2⟩ | exact ⟨HA2.out.ba.2.1, HA2.out.ba.2.2, HA2.out.bb.2.1, HA2.out.bb.2.2, HA2.out.bc.2.1, HA2.out.bc.2.2⟩ | exact ⟨HA3.out.ba.2.1, HA3.out.ba.2.2, HA3.out.bb.2.1, HA3.out.bb.2.2, HA3.out.bc.2.1, HA3.out.bc.2.2⟩ | exact ⟨HA4.out.ba.2.1, HA4.out.ba.2.2, HA4.out.bb.2.1, HA4.out.bb.2.2, HA4.out.bc.2.1, HA4.out.bc.2.2⟩ | fail)
    (first
      | (go_at_call_of 62 x1; refine (toPlace_c x1 x2 _).mono ?_; rintro e wHA1 ⟨rfl, hb⟩; have HA1 := Lib.hid (HA0.out.below hb); clear hb)
      | (go_at_call_of 62 y1; refine (toPlace_c y1 y2 _).mono ?_; rintro e wHA2 ⟨rfl, hb⟩; have HA2 := Lib.hid (HA1.out.below hb); clear hb)
      | (go_at_call_of 62 z1; refine (toPlace_c z1 z2 _).mono ?_; rintro e wHA3 ⟨rfl, hb⟩; have HA3 := Lib.hid (HA2.out.below hb); clear hb)
      | (go_at_call 64; refine (HS.out _).mono ?_; rintro e wHA4 ⟨rfl, hb⟩; have HA4 := Lib.hid (HA3.out.below hb); clear hb))
  go_wp2_with fail
  have HC0 := Lib.hid (HA4.out.below (show Below _ _ wHA4.drew from (Below.refl _ _).drew))
  go_region_held3 (fun W' => W'.cell? ⟨w.heap.size, 0, none⟩ = some (.int .i64 x1) ∧ W'.cell? ⟨w.heap.size, 1, none⟩ = some (.int .i64 x2) ∧ W'.cell? ⟨w.heap.size + 1, 0, none⟩ = some (.int .i64 y1) ∧ W'.cell? ⟨w.heap.size + 1, 1, none⟩ = some (.int .i64 y2) ∧ W'.cell? ⟨w.heap.size + 2, 0, none⟩ = some (.int .i64 z1) ∧ W'.cell? ⟨w.heap.size + 2, 1, none⟩ = some (.int .i64 z2))
    (first | exact ⟨HC0.out.ba.2.1, HC0.out.ba.2.2, HC0.out.bb.2.1, HC0.out.bb.2.2, HC0.out.bc.2.1, HC0.out.bc.2.2⟩ | exact ⟨HC1.out.ba.2.1, HC1.out.ba.2.2, HC1.out.bb.2.1, HC1.out.bb.2.2, HC1.out.bc.2.1, HC1.out.bc.2.2⟩ | exact ⟨HC2.out.ba.2.1, HC2.out.ba.2.2, HC2.out.bb.2.1, HC2.out.bb.2.2, HC2.out.bc.2.1, HC2.out.bc.2.2⟩ | exact ⟨HC3.out.ba.2.1, HC3.out.ba.2.2, HC3.out.bb.2.1, HC3.out.bb.2.2, HC3.out.bc.2.1, HC3.out.bc.2.2⟩ | exact ⟨HC4.out.ba.2.1, HC4.out.ba.2.2, HC4.out.bb.2.1, HC4.out.bb.2.2, HC4.out.bc.2.1, HC4.out.bc.2.2⟩ | fail)
    (first
      | (go_at_call_of 62 x1; refine (toPlace_c x1 x2 _).mono ?_; rintro e wHC1 ⟨rfl, hb⟩; have HC1 := Lib.hid (HC0.out.below hb); clear hb)
      | (go_at_call_of 62 y1; refine (toPlace_c y1 y2 _).mono ?_; rintro e wHC2 ⟨rfl, hb⟩; have HC2 := Lib.hid (HC1.out.below hb); clear hb)
      | (go_at_call_of 62 z1; refine (toPlace_c z1 z2 _).mono ?_; rintro e wHC3 ⟨rfl, hb⟩; have HC3 := Lib.hid (HC2.out.below hb); clear hb)
      | (go_at_call 65; refine (HI.out _).mono ?_; rintro e wHC4 ⟨rfl, hb⟩; have HC4 := Lib.hid (HC3.out.below hb); clear hb))
  go_wp2_with fail
  cases r
  all_goals
    go_wp2_with fail
    go_ret
    exact ⟨rfl, HC4.out.bel⟩
end Go.Proofs.Ytehendofgcebcaa
