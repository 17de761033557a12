/- What (barSet).rankWithout answers. No condition. -/
import Derived.Test.YtdkpmaahinbhlaaFqMRank
namespace Go.Proofs.Ytdkpmaahinbhlaa
open Go.RowKit

open Go.Maps

set_option maxHeartbeats 4000000 in
set_option maxRecDepth 100000 in
theorem rankWo (p k c : Int) (l : List (Int × Int)) (A : Option Addr) (cap b n B : Nat) (zs : List Int) (x : Int) (w : World) (hl : BarsIn w 0 B A l) (hB : B ≤ b) (hs : SetM w b n zs) (hn : l.length ≤ 1048576) (hn2 : n + 1 ≤ 1048576) (hw : (Lit.int .i64 x).wf = true) (hx : x ∈ zs) :
    Calls Try.prog 142 #[bsV p A l.length cap k c b, .int .i64 x] w fun e w' => e = .returned (.int .i64 (rankSV p k c l (zs.filter fun y => !decide (y = x)))) ∧ SetM w' b (n + 1) zs ∧ Within b (b + 1) w w' := by
  have hbl := hs.lt
  obtain ⟨D, hown, hsay⟩ := hs
  have HSAY := Lib.hid hsay
  have hA := new_below w (.cells #[.int .i64 p, .slice A l.length cap, .int .i64 k, .int .i64 c, .map (some b)] 128)
  have HA := Lib.hid (show Within b (b + 1) w (w.alloc (.cells #[.int .i64 p, .slice A l.length cap, .int .i64 k, .int .i64 c, .map (some b)] 128)) from (within_of hA).widen (.inl (Nat.le_refl _)))
  have HBX := Lib.hid (cel5_new w (.int .i64 p) (.slice A l.length cap) (.int .i64 k) (.int .i64 c) (.map (some b)) 128)
  have HOM := Lib.hid (omap_block hown (hA.block b hbl))
  have HBR := Lib.hid (hl.within (within_of hA) (.inr (Nat.zero_le _)))
  have HBL := Lib.hid hbl
  have HWF := Lib.hid hw
  have HN2 := Lib.hid hn2
  have HBB := Lib.hid hB
  have HSW := Lib.hid hA.size
  clear hl hown hsay hA hbl hw hn2 hB
  have HX := Lib.hid hx
  obtain ⟨rv, hrv⟩ : ∃ rv, rankSV p k c l (zs.filter fun y => !decide (y = x)) = rv := ⟨_, rfl⟩
  rw [hrv]
  have HRV := Lib.hid hrv
  clear hrv hx
  go_enter Try.func142, Try.ntmps142
  obtain ⟨x0, x1, x2, x3, x4⟩ := HBX.out.cells
  go_wp2_with (first
    | (at_mapUpdate; refine wpList_mapUpdate_own _ rfl _ _ _ 126 rfl 3 4 lawI Try.underlying126 _ b n _ rfl HOM3.out (by have := HN2.out; unfold maxLen; omega) _ _ (.int .i64 x) rfl rfl (keyOf_int_mk Try.underlying3 HWF.out) _ [] (plainElem_bool Try.underlying4 true) ?_; intro w4 hown hg; have HF := Lib.hid (show SetM w4 b (n + 1) zs from ⟨_, hown, (HSAY3.out.put HOM3.out.isMap x).congr fun y => by simp; exact ⟨fun h => h.elim (fun h => h.1) (fun h => h ▸ HX.out), fun h => by by_cases e : y = x; exact .inr e; exact .inl ⟨h, e⟩⟩⟩); have HWF4 := Lib.hid (HW3.out.trans (within_grown hg)); clear hown hg)
    | (go_at_call 135; refine (mrank p k c l A cap b n _ _ HBR2.out.at ⟨_, HOM2.out, HSAY2.out⟩ hn (by have := HN2.out; omega)).mono ?_; rintro e w3 ⟨rfl, hb⟩; rw [HRV.out]; have HW3 := Lib.hid (HW2.out.trans ((within_of hb).widen (.inl (Nat.le_refl _)))); have HOM3 := Lib.hid (omap_block HOM2.out (hb.block b (by have := HOM2.out.lt; omega))); have HSAY3 := HSAY2; obtain ⟨z0, z1, z2, z3, z4⟩ := (HBX2.out.within (within_of hb) (.inr (Nat.zero_le _))).cells; clear hb y0 y1 y2 y3 y4)
    | (at_delete; refine wpList_delete_own _ rfl _ _ 126 3 rfl 4 lawI Try.underlying126 _ b n _ rfl HOM.out _ _ rfl (keyOf_int_mk Try.underlying3 HWF.out) ?_; intro w2 hown  hturn; have HOM2 := Lib.hid hown; have HSAY2 := Lib.hid (HSAY.out.del x); have hgg := within_grown hturn.grown; have HW2 := Lib.hid (HA.out.trans hgg); have HBX2 := Lib.hid (HBX.out.within hgg (.inr (by have := HBL.out; omega))); have HBR2 := Lib.hid (HBR.out.within hgg (.inl HBB.out)); obtain ⟨y0, y1, y2, y3, y4⟩ := HBX2.out.cells; clear hown hturn hgg x0 x1 x2 x3 x4)
    | go_in)
  go_ret
  exact ⟨rfl, HF.out, HWF4.out⟩
end Go.Proofs.Ytdkpmaahinbhlaa
