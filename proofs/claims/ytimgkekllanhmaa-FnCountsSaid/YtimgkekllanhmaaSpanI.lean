/- What the program's SpannedBars answers, where the bars' ends and the points of the set are integers of 64 bits: the same as the specification's. -/
import Derived.Test.YtimgkekllanhmaaSpanS
import Derived.Maps.OwnOps
import Derived.Maps.OwnSet
import Derived.Maps.Views
namespace Go.Proofs.Ytimgkekllanhmaa
open Go.RowKit Go.Maps

/-- 'm[k]' in a map of bools that the call made. -/
theorem wpList_lookup_bool {P : Program} (w : World) {ops : Array Oper} {rest : List Oper} {o : Oper} {a : Act} {Q : Exit → Act → World → Prop} (hw : Region.wanted o (yielded ops a.tmps) = true) (m x : Operand) (t : TypeId) (hop : o.op = Op.lookup t m x false)
    (k e : TypeId) (K : Keyed P k) (ht : P.underlying t = some (.map k e)) (he : P.underlying e = some .bool) (hz : (zeroValue e).run P w = .ok (.bool false) w) (b n : Nat) (D : DataW Unit)
    (hm : a.eval m = .map (some b)) (hown : w.ownsMap P k (plainElem P e) b n D) (key : Value) (kl : Lit) (hx : a.eval x = key) (hkey : keyOf P k key = some kl) (c : Bool) (hat : D.atKey kl (.lit (.bool false)) = .lit (.bool c))
    (hK : wpList P ops Q rest (a.put o.dst (.bool c)) w) : wpList P ops Q (o :: rest) a w := by
  refine BigFrame.wpList_want hw fun K' hK' => ?_
  obtain ⟨v, ps, hrun, hv⟩ := hown.lookup K ht hz (plainElem_bool he false) hkey
  have hvc : v = .bool c := by
    rw [hat] at hv
    unfold plainElem at hv
    rw [he] at hv
    cases v <;> simp at hv
    rw [hv.1]
  subst hvc
  unfold Oper.wp
  simp [execOp, hop, hm, hx, hrun, Result.andThen]
  exact hK' _ _ hK

theorem zeroBool (w : World) : (zeroValue 4).run Try.prog w = .ok (.bool false) w := by kernel_rfl
/-- The call's map of bools says what S says. -/
def MapB (W : World) (b n : Nat) (S : Int → Bool) : Prop :=
  ∃ D : DataW Unit, W.ownsMap Try.prog 3 (plainElem Try.prog 4) b n D ∧ ∀ x : Int, D.atKey (.int .i64 x) (.lit (.bool false)) = .lit (.bool (S x))
theorem MapB.kept {W W' : World} {b n : Nat} {S : Int → Bool} {row : Option Nat} (h : MapB W b n S) (hg : W.grownBy W' row) (hne : some b ≠ row) : MapB W' b n S := by
  obtain ⟨D, h1, h2⟩ := h
  exact ⟨D, h1.kept hg hne, h2⟩
theorem MapB.put {W W' : World} {b n : Nat} {S S' : Int → Bool} {D : DataW Unit} {z : Int} (h : W.ownsMap Try.prog 3 (plainElem Try.prog 4) b n D) (hD : ∀ x : Int, D.atKey (.int .i64 x) (.lit (.bool false)) = .lit (.bool (S x)))
    (h' : W'.ownsMap Try.prog 3 (plainElem Try.prog 4) b (n + 1) (D.put (.int .i64 z) (.lit (.bool true)))) (hS : ∀ x, S' x = (S x || decide (x = z))) : MapB W' b (n + 1) S' := by
  refine ⟨_, h', fun x => ?_⟩
  rw [hS x]
  by_cases e : x = z
  · subst e
    rw [atKey_put_same (k := .int .i64 x) h.isMap trivial]
    simp
  · rw [atKey_put_other (by intro he; cases he; exact e rfl), hD x]
    simp [e]
theorem memS_step (zs : List Int) (k : Nat) (h : k < zs.length) (x : Int) : memS (zs.take (k + 1)) x = (memS (zs.take k) x || decide (x = zs.getD k 0)) := by
  unfold memS
  rw [take_getD zs 0 k h]
  simp [Bool.decide_or]

/-- Where the walk stands: the map, the box. -/
def SpanSt (w wr : World) (p : Int) (gv : Value) (n : Nat) (S : Int → Bool) : Prop :=
  MapB wr (w.heap.size + 1) n S ∧ Box wr w.heap.size p gv ∧ Below w.heap.size w wr

/-- The row that grows beside the box and the map. -/
def GrowM (w wr : World) (p : Int) (gv : Value) (n : Nat) (S : Int → Bool) (zs : List Int) (v : Value) : Prop :=
  GrowB w wr p gv zs v ∧ MapB wr (w.heap.size + 1) n S ∧ v.ownBlock ≠ some (w.heap.size + 1)
theorem MapB.lt {W : World} {b n : Nat} {S : Int → Bool} (h : MapB W b n S) : b < W.heap.size := by
  obtain ⟨D, h1, _⟩ := h
  exact h1.lt
theorem GrowM.alloc {w wr : World} {p : Int} {gv : Value} {n : Nat} {S : Int → Bool} {zs : List Int} {v : Value} (h : GrowM w wr p gv n S zs v) (o : Obj) : GrowM w (wr.alloc o) p gv n S zs v :=
  ⟨h.1.alloc o, h.2.1.kept (World.grownBy_alloc wr o none) (by simp), h.2.2⟩
theorem GrowM.push {w wr w' : World} {p : Int} {gv : Value} {n : Nat} {S : Int → Bool} {zs : List Int} {v v' : Value} {x : Int} (h : GrowM w wr p gv n S zs v) (ho : w'.ownsRow w.heap.size 3 1 v' (zs.length + 1) (intCells zs ++ [.int .i64 x])) (hg : wr.grownBy w' v.ownBlock)
    (hat : v'.ownBlock = v.ownBlock ∨ v'.ownBlock = some (wr.heap.size + 1)) : GrowM w w' p gv n S (zs ++ [x]) v' := by
  refine ⟨h.1.push ho hg hat, h.2.1.kept hg fun e => h.2.2 e.symm, ?_⟩
  rcases hat with hat | hat
  · rw [hat]; exact h.2.2
  · rw [hat]
    intro e
    have := h.2.1.lt
    have : wr.heap.size + 1 = w.heap.size + 1 := by simpa using e
    omega

set_option maxHeartbeats 4000000 in
set_option maxRecDepth 100000 in
theorem implSpan (p : Int) (l : List (Int × Int)) (zs : List Int) (A Z : Option Addr) (cap cz lo hi : Nat) (w : World) (hl : BarsAt w w.heap.size A l) (hz : IntsIn w lo hi Z zs) (hn : l.length ≤ 1048576) (hnz : zs.length ≤ 1048576) (hwl : WfB l) (hwz : WfI zs) :
    Calls Try.prog 14 #[.agg #[.int .i64 p, .slice A l.length cap], .slice Z zs.length cz] w (IntsO w (spanL l (memS zs))) := by
  have hA1 := new_below w (.cells #[.int .i64 p, .slice A l.length cap] 30)
  have hA2 := new_below (w.alloc (.cells #[.int .i64 p, .slice A l.length cap] 30)) (.map #[] 0)
  have hsz : (w.alloc (.cells #[.int .i64 p, .slice A l.length cap] 30)).heap.size = w.heap.size + 1 := by simp
  have hm := World.ownsMap_made (H := Unit) (w.alloc (.cells #[.int .i64 p, .slice A l.length cap] 30)) Try.prog 3 (plainElem Try.prog 4)
  rw [hsz] at hm
  have HG := Lib.hid (show SpanSt w ((w.alloc (.cells #[.int .i64 p, .slice A l.length cap] 30)).alloc (.map #[] 0)) p (.slice A l.length cap) 0 (memS (zs.take 0)) from
    ⟨⟨_, hm, fun x => by simp [memS]; rfl⟩, (box_new w p (.slice A l.length cap) 30).kept hA2, below_on hA1 hA2 hA1.size⟩)
  have HLW := Lib.hid hl
  have HZW := Lib.hid hz
  have HWL := Lib.hid hwl
  have HWZ := Lib.hid hwz
  clear hl hz hA1 hA2 hsz hm hwl hwz
  have hmm := @run_makeMap Try.prog
  go_enter Try.func14, Try.ntmps14
  go_wp2_with fail
  generalize ((w.alloc (.cells #[.int .i64 p, .slice A l.length cap] 30)).alloc (.map #[] 0)) = w1 at *
  go_loopw [14] (fun i wr => ∃ j : Nat, j ≤ zs.length ∧ i = .int .i64 j ∧ SpanSt w wr p (.slice A l.length cap) j (memS (zs.take j))) (fun i _ => zs.length - (intOf i).toNat)
  case atStart => exact ⟨0, by omega, rfl, HG.out⟩
  case round =>
    obtain ⟨j, hj, rfl, hst⟩ := hrel
    have HS := Lib.hid hst
    clear hst
    by_cases hlt : j < zs.length
    · have hij : (j : Int) < (zs.length : Int) := by omega
      obtain ⟨bz, oz, rfl, hz1, hz2, hcell⟩ := HZW.out.2 (by omega)
      have hbz : bz < w.heap.size := Nat.lt_of_lt_of_le hz2 HZW.out.1
      have hc := (HS.out.2.2.cell (p := ⟨bz, oz + j, none⟩) hbz).trans (hcell j hlt)
      have hw := HWZ.out j hlt
      have HM := Lib.hid (memS_step zs j hlt)
      obtain ⟨z, hz⟩ : ∃ z, zs.getD j 0 = z := ⟨_, rfl⟩
      rw [hz] at hc hw HM
      clear hcell hz
      obtain ⟨D, hown, hD⟩ := HS.out.1
      have HD := Lib.hid hD
      clear hD
      go_wp2_with (at_mapUpdate; refine wpList_mapUpdate_own _ rfl _ _ _ 60 rfl 3 4 (int_keyed Try.underlying3) Try.underlying60 _ (w.heap.size + 1) j _ rfl hown (by unfold maxLen; omega) _ _ _ rfl rfl (keyOf_int_mk Try.underlying3 hw) _ [] (plainElem_bool Try.underlying4 true) ?_; intro w2 hown2 hg2; have HY := Lib.hid (show SpanSt w w2 p _ (j + 1) (memS (zs.take (j + 1))) from ⟨MapB.put hown HD.out hown2 HM.out, HS.out.2.1.grown hg2 (by simp), HS.out.2.2.grown hg2 HS.out.2.2.size (fun g e => by cases e; omega)⟩); clear hown2 hg2)
      go_roundw
      case rel => exact ⟨j + 1, by omega, by go_num, HY.out⟩
      case measure => simp [intOf]; omega
    · obtain rfl : j = zs.length := by omega
      have hst := HS.out
      rw [List.take_length] at hst
      have HM := Lib.hid hst.1
      have HGB := Lib.hid (show GrowM w wr p (.slice A l.length cap) zs.length (memS zs) (outF 0 (spanF l (memS zs))) (.slice none 0 0) from ⟨⟨GrowI.nil w wr hst.2.2, hst.2.1, by simp [Value.ownBlock]⟩, hst.1, by simp [Value.ownBlock]⟩)
      obtain ⟨_, g1, g2⟩ := hst.2.1
      clear hst hlt
      go_wp2_with fail
      clear g1 g2
      go_loopw [8, 24] (fun o i wr => ∃ k : Nat, k ≤ l.length ∧ i = .int .i64 k ∧ GrowM w wr p (.slice A l.length cap) zs.length (memS zs) (outF k (spanF l (memS zs))) o) (fun _ i _ => l.length - (intOf i).toNat)
      case atStart => exact ⟨0, by omega, rfl, HGB.out⟩
      case round =>
        obtain ⟨k, hk, rfl, hst⟩ := hrel
        have hol := outF_len k (spanF l (memS zs))
        obtain ⟨A', c', rfl⟩ := own_shape hst.1.1.1
        have HS := Lib.hid hst
        clear hst
        by_cases hlt : k < l.length
        · have hik : (k : Int) < (l.length : Int) := by omega
          obtain ⟨b0, off, rfl, hbB, hcell⟩ := HLW.out (by omega)
          have HBW := HS.out.1.1.2
          have hc1 := (HBW.cell (p := ⟨b0, off + k * 2, none⟩) hbB).trans (hcell k hlt).1
          have hc2 := (HBW.cell (p := ⟨b0, off + k * 2 + 1, none⟩) hbB).trans (hcell k hlt).2
          have hwl := HWL.out k hlt
          have HE := Lib.hid (spanF_succ l (memS zs) k)
          obtain ⟨x, hx⟩ : ∃ x, l.getD k (0, 0) = x := ⟨_, rfl⟩
          rw [hx] at hc1 hc2 HE hwl
          obtain ⟨x1, x2⟩ := x
          simp only at hc1 hc2
          obtain ⟨hw1, hw2⟩ := hwl
          clear hcell HBW hx
          have HA := Lib.hid (HS.out.alloc (.cells #[.int .i64 x1, .int .i64 x2] 58))
          have hbs := HA.out.1.1.2.size
          obtain ⟨D, hown, hD⟩ := HA.out.2.1
          rcases h1 : memS zs x1 with _ | _
          · rw [h1] at HE
            have HE2 := Lib.hid (HE.out.trans (by simp : _ = outF k (spanF l (memS zs))))
            go_wp2_with (first | (at_lookup; refine wpList_lookup_bool _ (by rfl) _ _ 60 rfl 3 4 (int_keyed Try.underlying3) Try.underlying60 Try.underlying4 (zeroBool _) (w.heap.size + 1) zs.length D rfl hown (.int .i64 x1) _ rfl (keyOf_int_mk Try.underlying3 hw1) false ((hD x1).trans (by rw [h1])) ?_))
            go_roundw
            case rel => exact ⟨k + 1, by omega, by go_num, by rw [HE2.out]; exact HA.out⟩
            case measure => simp [intOf]; omega
          · rcases h2 : memS zs x2 with _ | _
            · rw [h1, h2] at HE
              have HE2 := Lib.hid (HE.out.trans (by simp : _ = outF k (spanF l (memS zs))))
              go_wp2_with (first | (at_lookup; refine wpList_lookup_bool _ (by rfl) _ _ 60 rfl 3 4 (int_keyed Try.underlying3) Try.underlying60 Try.underlying4 (zeroBool _) (w.heap.size + 1) zs.length D rfl hown (.int .i64 x1) _ rfl (keyOf_int_mk Try.underlying3 hw1) true ((hD x1).trans (by rw [h1])) ?_) | (at_lookup; refine wpList_lookup_bool _ (by rfl) _ _ 60 rfl 3 4 (int_keyed Try.underlying3) Try.underlying60 Try.underlying4 (zeroBool _) (w.heap.size + 1) zs.length D rfl hown (.int .i64 x2) _ rfl (keyOf_int_mk Try.underlying3 hw2) false ((hD x2).trans (by rw [h2])) ?_))
              go_roundw
              case rel => exact ⟨k + 1, by omega, by go_num, by rw [HE2.out]; exact HA.out⟩
              case measure => simp [intOf]; omega
            · rw [h1, h2] at HE
              have HE2 := Lib.hid (HE.out.trans (by simp : _ = outF k (spanF l (memS zs)) ++ [(k : Int)]))
              go_wp2_with (first | (at_lookup; refine wpList_lookup_bool _ (by rfl) _ _ 60 rfl 3 4 (int_keyed Try.underlying3) Try.underlying60 Try.underlying4 (zeroBool _) (w.heap.size + 1) zs.length D rfl hown (.int .i64 x1) _ rfl (keyOf_int_mk Try.underlying3 hw1) true ((hD x1).trans (by rw [h1])) ?_) | (at_lookup; refine wpList_lookup_bool _ (by rfl) _ _ 60 rfl 3 4 (int_keyed Try.underlying3) Try.underlying60 Try.underlying4 (zeroBool _) (w.heap.size + 1) zs.length D rfl hown (.int .i64 x2) _ rfl (keyOf_int_mk Try.underlying3 hw2) true ((hD x2).trans (by rw [h2])) ?_) | (at_builtin; refine wpList_at _ rfl _ _ 25 rfl w.heap.size 3 (.int .i64 0) 1 8 Try.underlying25 infoInt rfl (by decide) _ _ _ rfl HA.out.1.1.1 #[.int .i64 (k : Int)] 1 rfl (by simp [Value.oneCell']) _ 1 (by simp [Act.eval]) (by omega) (by unfold maxLen; omega) hbs ?_; intro v' w' ho hg hat _; obtain ⟨A2, c2, rfl⟩ := own_shape ho; have HY := Lib.hid (HA.out.push ho hg hat); clear ho hg hat))
              go_roundw
              case rel => exact ⟨k + 1, by omega, by go_num, by rw [HE2.out]; exact HY.out⟩
              case measure => simp [intOf]; omega
        · obtain rfl : k = l.length := by omega
          go_wp2_with fail
          go_ret
          exact HS.out.1.1.intsO
end Go.Proofs.Ytimgkekllanhmaa
