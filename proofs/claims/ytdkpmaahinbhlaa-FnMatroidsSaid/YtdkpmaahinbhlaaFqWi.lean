/- What (barSet).rankWith answers. No condition. -/
import Derived.Test.YtdkpmaahinbhlaaFqMRank
import Derived.Maps.OwnOps
namespace Go.Proofs.Ytdkpmaahinbhlaa
open Go.RowKit

open Go.Maps

/-- 'm[k]' in a map of bools that the call made. -/
theorem wpList_lookB {P : Program} (w : World) {ops : Array Oper} {rest : List Oper} {o : Oper} {a : Act} {Q : Exit → Act → World → Prop} (hg : o.guard = none) (m x : Operand) (t : TypeId) (hop : o.op = Op.lookup t m x false)
    (k e : TypeId) (K : Keyed P k) (ht : P.underlying t = some (.map k e)) (he : P.underlying e = some .bool) (hz : (zeroValue e).run P w = .ok (.bool false) w) (b n : Nat) (D : DataW Unit)
    (hm : a.eval m = .map (some b)) (hown : w.ownsMap P k (plainElem P e) b n D) (key : Value) (kl : Lit) (hx : a.eval x = key) (hkey : keyOf P k key = some kl) (c : Bool) (hat : D.atKey kl (.lit (.bool false)) = .lit (.bool c))
    (hK : wpList P ops Q rest (a.put o.dst (.bool c)) w) : wpList P ops Q (o :: rest) a w := by
  refine wpList_plain hg fun K' hK' => ?_
  obtain ⟨v, ps, hrun, hv⟩ := hown.lookup K ht hz (plainElem_bool he false) hkey
  have hvc : v = .bool c := by
    rw [hat] at hv
    unfold plainElem at hv
    rw [he] at hv
    cases v <;> simp at hv
    rw [hv.1]
  subst hvc
  unfold Oper.wp
  simp [execOp, hop, hm, hx, hrun, Result.andThen]
  exact hK' _ _ hK
theorem del_new {zs : List Int} {x : Int} (h : ¬ x ∈ zs) (y : Int) : (y ∈ (zs ++ [x]).filter fun z => !decide (z = x)) ↔ y ∈ zs := by
  rw [List.mem_filter]
  constructor
  · rintro ⟨h1, h2⟩
    have h3 : y ≠ x := by simpa using h2
    rcases List.mem_append.1 h1 with g | g
    · exact g
    · exact absurd (List.mem_singleton.1 g) h3
  · intro hy
    refine ⟨List.mem_append.2 (.inl hy), ?_⟩
    have h3 : y ≠ x := fun e => h (by rw [← e]; exact hy)
    simpa using h3
theorem zeroB (w : World) : (zeroValue 4).run Try.prog w = .ok (.bool false) w := by kernel_rfl

set_option maxHeartbeats 4000000 in
set_option maxRecDepth 100000 in
theorem rankWi (p k c : Int) (l : List (Int × Int)) (A : Option Addr) (cap b n B : Nat) (zs : List Int) (x : Int) (w : World) (hl : BarsIn w 0 B A l) (hB : B ≤ b) (hs : SetM w b n zs) (hn : l.length ≤ 1048576) (hn2 : n + 1 ≤ 1048576) (hw : (Lit.int .i64 x).wf = true) :
    Calls Try.prog 136 #[bsV p A l.length cap k c b, .int .i64 x] w fun e w' => e = .returned (.int .i64 (rankSV p k c l (zs ++ [x]))) ∧ SetM w' b (n + 1) zs ∧ Within b (b + 1) w w' := by
  have hbl := hs.lt
  obtain ⟨D, hown, hsay⟩ := hs
  have HSAY := Lib.hid hsay
  have hA := new_below w (.cells #[.int .i64 p, .slice A l.length cap, .int .i64 k, .int .i64 c, .map (some b)] 128)
  have HA := Lib.hid (show Within b (b + 1) w (w.alloc (.cells #[.int .i64 p, .slice A l.length cap, .int .i64 k, .int .i64 c, .map (some b)] 128)) from (within_of hA).widen (.inl (Nat.le_refl _)))
  have HBX := Lib.hid (cel5_new w (.int .i64 p) (.slice A l.length cap) (.int .i64 k) (.int .i64 c) (.map (some b)) 128)
  have HOM := Lib.hid (omap_block hown (hA.block b hbl))
  have HBR := Lib.hid (hl.within (within_of hA) (.inr (Nat.zero_le _)))
  have HBL := Lib.hid hbl
  have HWF := Lib.hid hw
  have HN2 := Lib.hid hn2
  have HBB := Lib.hid hB
  have HSW := Lib.hid hA.size
  clear hl hown hsay hA hbl hw hn2 hB
  obtain ⟨rv, hrv⟩ : ∃ rv, rankSV p k c l (zs ++ [x]) = rv := ⟨_, rfl⟩
  rw [hrv]
  have HRV := Lib.hid hrv
  clear hrv
  have hlk := (HSAY.out x).2
  by_cases hx : x ∈ zs
  · rw [decide_eq_true hx] at hlk
    have HLK := Lib.hid hlk
    have HR2 := Lib.hid (show rankSV p k c l zs = rv from by rw [← HRV.out]; exact rankSV_same fun j _ => by simp; exact fun e => e ▸ hx)
    clear hlk hx
    go_enter Try.func136, Try.ntmps136
    obtain ⟨x0, x1, x2, x3, x4⟩ := HBX.out.cells
    go_wp2_with (first
      | (go_at_call 135; refine (mrank p k c l A cap b n zs _ HBR.out.at ⟨_, HOM.out, HSAY.out⟩ hn (by have := HN2.out; omega)).mono ?_; rintro e w3 ⟨rfl, hb⟩; rw [HR2.out]; have HW3 := Lib.hid (HA.out.trans ((within_of hb).widen (.inl (Nat.le_refl _)))); have HOM3 := Lib.hid (omap_block HOM.out (hb.block b (by have := HOM.out.lt; omega))); clear hb)
      | (at_lookup; refine wpList_lookB _ rfl _ _ 126 rfl 3 4 lawI Try.underlying126 Try.underlying4 (zeroB _) b n _ rfl HOM.out _ _ rfl (keyOf_int_mk Try.underlying3 HWF.out) true HLK.out ?_)
      | go_in)
    go_ret
    exact ⟨rfl, ⟨_, HOM3.out.mono (by omega), HSAY.out⟩, HW3.out⟩
  · rw [decide_eq_false hx] at hlk
    have HLK := Lib.hid hlk
    have HX := Lib.hid hx
    clear hlk hx
    go_enter Try.func136, Try.ntmps136
    obtain ⟨x0, x1, x2, x3, x4⟩ := HBX.out.cells
    go_wp2_with (first
      | (at_delete; refine wpList_delete_own _ rfl _ _ 126 3 rfl 4 lawI Try.underlying126 _ b (n + 1) _ rfl HOM3.out _ _ rfl (keyOf_int_mk Try.underlying3 HWF.out) ?_; intro w4 hown  hturn; have HF := Lib.hid (show SetM w4 b (n + 1) zs from ⟨_, hown, (HSAY2.out.del x).congr fun y => del_new HX.out y⟩); have HWF4 := Lib.hid (HW3.out.trans (within_grown hturn.grown)); clear hown hturn)
      | (go_at_call 135; refine (mrank p k c l A cap b (n + 1) _ _ HBR2.out.at ⟨_, HOM2.out, HSAY2.out⟩ hn HN2.out).mono ?_; rintro e w3 ⟨rfl, hb⟩; rw [HRV.out]; have HW3 := Lib.hid (HW2.out.trans ((within_of hb).widen (.inl (Nat.le_refl _)))); have HOM3 := Lib.hid (omap_block HOM2.out (hb.block b (by have := HOM2.out.lt; omega))); obtain ⟨z0, z1, z2, z3, z4⟩ := (HBX2.out.within (within_of hb) (.inr (Nat.zero_le _))).cells; clear hb y0 y1 y2 y3 y4)
      | (at_mapUpdate; refine wpList_mapUpdate_own _ rfl _ _ _ 126 rfl 3 4 lawI Try.underlying126 _ b n _ rfl HOM.out (by have := HN2.out; unfold maxLen; omega) _ _ (.int .i64 x) rfl rfl (keyOf_int_mk Try.underlying3 HWF.out) _ [] (plainElem_bool Try.underlying4 true) ?_; intro w2 hown hg; have HOM2 := Lib.hid hown; have HSAY2 := Lib.hid (HSAY.out.put HOM.out.isMap x); have hgg := within_grown hg; have HW2 := Lib.hid (HA.out.trans hgg); have HBX2 := Lib.hid (HBX.out.within hgg (.inr (by have := HBL.out; omega))); have HBR2 := Lib.hid (HBR.out.within hgg (.inl HBB.out)); obtain ⟨y0, y1, y2, y3, y4⟩ := HBX2.out.cells; clear hown hg hgg x0 x1 x2 x3 x4)
      | (at_lookup; refine wpList_lookB _ rfl _ _ 126 rfl 3 4 lawI Try.underlying126 Try.underlying4 (zeroB _) b n _ rfl HOM.out _ _ rfl (keyOf_int_mk Try.underlying3 HWF.out) false HLK.out ?_)
      | go_in)
    go_ret
    exact ⟨rfl, HF.out, HWF4.out⟩
end Go.Proofs.Ytdkpmaahinbhlaa
