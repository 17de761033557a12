/- What IsConnected answers, the specification's and the program's. No condition. -/
import Derived.Test.YtmanfpdneicgeaaReachI
import Derived.Deep.RegionHeld3
import Derived.Deep.RegionWith
namespace Go.Proofs.Ytmanfpdneicgeaa
open Go.RowKit

/-- Is it a graph, and are all points reached from 0? -/
noncomputable def connB (p : Int) (l : List (Int × Int)) : Bool := isGB p l && (((reachL p l 0).length : Int) == p)

set_option maxHeartbeats 2000000 in
set_option maxRecDepth 100000 in
theorem specConn (p : Int) (l : List (Int × Int)) (A : Option Addr) (cap : Nat) (w : World) (hl : BarsAt w w.heap.size A l) (hn : l.length ≤ 1048576) :
    Calls Try.prog 35 #[.agg #[.int .i64 p, .slice A l.length cap]] w fun e w' => e = .returned (.bool (connB p l)) ∧ Below w.heap.size w w' := by
  have hA := new_below w (.cells #[.int .i64 p, .slice A l.length cap] 29)
  have hB := box_new w p (.slice A l.length cap) 29
  have HLW := Lib.hid (hl.on hA)
  have hd : Below (w.alloc (.cells #[.int .i64 p, .slice A l.length cap] 29)).heap.size (w.alloc (.cells #[.int .i64 p, .slice A l.length cap] 29)) (w.alloc (.cells #[.int .i64 p, .slice A l.length cap] 29)).drew := (Below.refl _ _).drew
  have HLD := Lib.hid (HLW.out.on hd)
  have HAD := Lib.hid (below_on hA hd hA.size)
  have BXD := Lib.hid (hB.kept hd)
  have BX := Lib.hid hB
  clear hl hA hB hd HLW
  rcases hg : isGB p l with _ | _
  · have HC := Lib.hid (show connB p l = false by simp [connB, hg])
    have HISG : ∀ W : World, BarsAt W W.heap.size A l → Calls Try.prog 14 #[.agg #[.int .i64 p, .slice A l.length cap]] W fun e w' => e = .returned (.bool false) ∧ Below W.heap.size W w' := fun W h => by
      have := specIsGraph' p l A cap W h hn
      rw [hg] at this
      exact this
    go_enter Try.func35, Try.ntmps35
    go_wp2_with fail
    generalize (w.alloc (.cells #[.int .i64 p, .slice A l.length cap] 29)) = w1 at *
    obtain ⟨_, g1, g2⟩ := BX.out
    refine wp_region_any (by kernel_rfl) ?_
    change wpAny _ _ _ _ _ _ _ (World.drew _)
    refine wpAny_ready (rs := [0]) (by kernel_rfl) (by simp) (AllReady.cons rfl (fun K hK => ?_) AllReady.nil)
    go_simp
    refine hK _ _ ?_
    clear hK K
    refine wpAny_ready (rs := [1]) (by kernel_rfl) (by simp) (AllReady.cons rfl (fun K hK => ?_) AllReady.nil)
    go_simp
    go_wp2_with (go_at_call 14; refine (HISG _ ?_).mono ?_; (exact HLD.out); rintro e w2 ⟨rfl, hb⟩; have HB2 := Lib.hid (below_on HAD.out hb HAD.out.size))
    refine wpAny_ready (rs := [2]) (by kernel_rfl) (by simp) (AllReady.cons rfl (fun K hK => ?_) AllReady.nil)
    go_simp
    refine hK _ _ ?_
    clear hK K
    refine wpAny_take (i := 3) (v := undef) rfl (by kernel_rfl) (by kernel_rfl) (by kernel_rfl) (fun _ _ _ h => h) (Or.inr ⟨rfl, rfl⟩) ?_
    refine wpAny_take (i := 4) (v := undef) rfl (by kernel_rfl) (by kernel_rfl) (by kernel_rfl) (fun _ _ _ h => h) (Or.inr ⟨rfl, rfl⟩) ?_
    refine wpAny_take (i := 5) (v := undef) rfl (by kernel_rfl) (by kernel_rfl) (by kernel_rfl) (fun _ _ _ h => h) (Or.inr ⟨rfl, rfl⟩) ?_
    refine wpAny_take (i := 6) (v := undef) rfl (by kernel_rfl) (by kernel_rfl) (by kernel_rfl) (fun _ _ _ h => h) (Or.inr ⟨rfl, rfl⟩) ?_
    refine wpAny_take (i := 7) (v := undef) rfl (by kernel_rfl) (by kernel_rfl) (by kernel_rfl) (fun _ _ _ h => h) (Or.inr ⟨rfl, rfl⟩) ?_
    refine wpAny_take (i := 8) (v := undef) rfl (by kernel_rfl) (by kernel_rfl) (by kernel_rfl) (fun _ _ _ h => h) (Or.inr ⟨rfl, rfl⟩) ?_
    refine wpAny_ready (rs := [9]) (by kernel_rfl) (by simp) (AllReady.cons rfl (fun K hK => ?_) AllReady.nil)
    go_simp
    refine hK _ _ ?_
    clear hK K
    refine wpAny_ready (rs := [10]) (by kernel_rfl) (by simp) (AllReady.cons rfl (fun K hK => ?_) AllReady.nil)
    go_simp
    refine hK _ _ ?_
    clear hK K
    refine wpAny_done (by kernel_rfl) ?_ _
    go_wp2_with fail
    go_ret
    exact ⟨by rw [HC.out]; rfl, HB2.out⟩
  · have HISG : ∀ W : World, BarsAt W W.heap.size A l → Calls Try.prog 14 #[.agg #[.int .i64 p, .slice A l.length cap]] W fun e w' => e = .returned (.bool true) ∧ Below W.heap.size W w' := fun W h => by
      have := specIsGraph' p l A cap W h hn
      rw [hg] at this
      exact this
    rcases hq : (((reachL p l 0).length : Int) == p) with _ | _
    all_goals
      have HC := Lib.hid (show connB p l = _ from by unfold connB; rw [hg, hq])
      go_enter Try.func35, Try.ntmps35
      go_wp2_with fail
      generalize (w.alloc (.cells #[.int .i64 p, .slice A l.length cap] 29)) = w1 at *
      obtain ⟨_, g1, g2⟩ := BX.out
      have kk := (And.intro g1 g2)
      go_region_held3 (fun W' => W'.cell? ⟨w.heap.size, 0, none⟩ = some (.int .i64 p) ∧ W'.cell? ⟨w.heap.size, 1, none⟩ = some (.slice A l.length cap))
        (first | exact kk | exact (BXD.out.kept hb).2 | exact (BX2.out.kept hb).2 | fail)
        (first
          | (go_at_call 14; refine (HISG _ ?_).mono ?_; (exact HLD.out); rintro e w2 ⟨rfl, hb⟩; have HB2 := Lib.hid (below_on HAD.out hb HAD.out.size); have BX2 := Lib.hid (BXD.out.kept hb); have HL2 := Lib.hid (HLD.out.on hb))
          | (go_at_call 28; refine (specReach p 0 l A cap _ ?_ hn).mono ?_; (exact HL2.out); rintro e w3 ⟨A3, c3, rfl, _, hb⟩; have HB3 := Lib.hid (below_on HB2.out hb HB2.out.size)))
      go_wp2_with fail
      go_ret
      exact ⟨by rw [HC.out]; rfl, HB3.out⟩

set_option maxHeartbeats 2000000 in
set_option maxRecDepth 100000 in
theorem implConn (p : Int) (l : List (Int × Int)) (A : Option Addr) (cap : Nat) (w : World) (hl : BarsAt w w.heap.size A l) (hn : l.length ≤ 1048576) :
    Calls Try.prog 36 #[.agg #[.int .i64 p, .slice A l.length cap]] w fun e w' => e = .returned (.bool (connB p l)) ∧ Below w.heap.size w w' := by
  have hA := new_below w (.cells #[.int .i64 p, .slice A l.length cap] 29)
  have hB := box_new w p (.slice A l.length cap) 29
  have HLW := Lib.hid (hl.on hA)
  have hd : Below (w.alloc (.cells #[.int .i64 p, .slice A l.length cap] 29)).heap.size (w.alloc (.cells #[.int .i64 p, .slice A l.length cap] 29)) (w.alloc (.cells #[.int .i64 p, .slice A l.length cap] 29)).drew := (Below.refl _ _).drew
  have HLD := Lib.hid (HLW.out.on hd)
  have HAD := Lib.hid (below_on hA hd hA.size)
  have BXD := Lib.hid (hB.kept hd)
  have BX := Lib.hid hB
  clear hl hA hB hd HLW
  rcases hg : isGB p l with _ | _
  · have HC := Lib.hid (show connB p l = false by simp [connB, hg])
    have HISG : ∀ W : World, BarsAt W W.heap.size A l → Calls Try.prog 16 #[.agg #[.int .i64 p, .slice A l.length cap]] W fun e w' => e = .returned (.bool false) ∧ Below W.heap.size W w' := fun W h => by
      have := implIsGraph p l A cap W h hn
      rw [hg] at this
      exact this
    go_enter Try.func36, Try.ntmps36
    go_wp2_with fail
    generalize (w.alloc (.cells #[.int .i64 p, .slice A l.length cap] 29)) = w1 at *
    obtain ⟨_, g1, g2⟩ := BX.out
    refine wp_region_any (by kernel_rfl) ?_
    change wpAny _ _ _ _ _ _ _ (World.drew _)
    refine wpAny_ready (rs := [0]) (by kernel_rfl) (by simp) (AllReady.cons rfl (fun K hK => ?_) AllReady.nil)
    go_simp
    refine hK _ _ ?_
    clear hK K
    refine wpAny_ready (rs := [1]) (by kernel_rfl) (by simp) (AllReady.cons rfl (fun K hK => ?_) AllReady.nil)
    go_simp
    go_wp2_with (go_at_call 16; refine (HISG _ ?_).mono ?_; (exact HLD.out); rintro e w2 ⟨rfl, hb⟩; have HB2 := Lib.hid (below_on HAD.out hb HAD.out.size))
    refine wpAny_ready (rs := [2]) (by kernel_rfl) (by simp) (AllReady.cons rfl (fun K hK => ?_) AllReady.nil)
    go_simp
    refine hK _ _ ?_
    clear hK K
    refine wpAny_take (i := 3) (v := undef) rfl (by kernel_rfl) (by kernel_rfl) (by kernel_rfl) (fun _ _ _ h => h) (Or.inr ⟨rfl, rfl⟩) ?_
    refine wpAny_take (i := 4) (v := undef) rfl (by kernel_rfl) (by kernel_rfl) (by kernel_rfl) (fun _ _ _ h => h) (Or.inr ⟨rfl, rfl⟩) ?_
    refine wpAny_take (i := 5) (v := undef) rfl (by kernel_rfl) (by kernel_rfl) (by kernel_rfl) (fun _ _ _ h => h) (Or.inr ⟨rfl, rfl⟩) ?_
    refine wpAny_take (i := 6) (v := undef) rfl (by kernel_rfl) (by kernel_rfl) (by kernel_rfl) (fun _ _ _ h => h) (Or.inr ⟨rfl, rfl⟩) ?_
    refine wpAny_take (i := 7) (v := undef) rfl (by kernel_rfl) (by kernel_rfl) (by kernel_rfl) (fun _ _ _ h => h) (Or.inr ⟨rfl, rfl⟩) ?_
    refine wpAny_take (i := 8) (v := undef) rfl (by kernel_rfl) (by kernel_rfl) (by kernel_rfl) (fun _ _ _ h => h) (Or.inr ⟨rfl, rfl⟩) ?_
    refine wpAny_ready (rs := [9]) (by kernel_rfl) (by simp) (AllReady.cons rfl (fun K hK => ?_) AllReady.nil)
    go_simp
    refine hK _ _ ?_
    clear hK K
    refine wpAny_ready (rs := [10]) (by kernel_rfl) (by simp) (AllReady.cons rfl (fun K hK => ?_) AllReady.nil)
    go_simp
    refine hK _ _ ?_
    clear hK K
    refine wpAny_done (by kernel_rfl) ?_ _
    go_wp2_with fail
    go_ret
    exact ⟨by rw [HC.out]; rfl, HB2.out⟩
  · have HISG : ∀ W : World, BarsAt W W.heap.size A l → Calls Try.prog 16 #[.agg #[.int .i64 p, .slice A l.length cap]] W fun e w' => e = .returned (.bool true) ∧ Below W.heap.size W w' := fun W h => by
      have := implIsGraph p l A cap W h hn
      rw [hg] at this
      exact this
    rcases hq : (((reachL p l 0).length : Int) == p) with _ | _
    all_goals
      have HC := Lib.hid (show connB p l = _ from by unfold connB; rw [hg, hq])
      go_enter Try.func36, Try.ntmps36
      go_wp2_with fail
      generalize (w.alloc (.cells #[.int .i64 p, .slice A l.length cap] 29)) = w1 at *
      obtain ⟨_, g1, g2⟩ := BX.out
      have kk := (And.intro g1 g2)
      go_region_held3 (fun W' => W'.cell? ⟨w.heap.size, 0, none⟩ = some (.int .i64 p) ∧ W'.cell? ⟨w.heap.size, 1, none⟩ = some (.slice A l.length cap))
        (first | exact kk | exact (BXD.out.kept hb).2 | exact (BX2.out.kept hb).2 | fail)
        (first
          | (go_at_call 16; refine (HISG _ ?_).mono ?_; (exact HLD.out); rintro e w2 ⟨rfl, hb⟩; have HB2 := Lib.hid (below_on HAD.out hb HAD.out.size); have BX2 := Lib.hid (BXD.out.kept hb); have HL2 := Lib.hid (HLD.out.on hb))
          | (go_at_call 29; refine (implReach p 0 l A cap _ ?_ hn).mono ?_; (exact HL2.out); rintro e w3 ⟨A3, c3, rfl, _, hb⟩; have HB3 := Lib.hid (below_on HB2.out hb HB2.out.size)))
      go_wp2_with fail
      go_ret
      exact ⟨by rw [HC.out]; rfl, HB3.out⟩
end Go.Proofs.Ytmanfpdneicgeaa
