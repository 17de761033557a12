/- What (barSet).rank answers: whatever the order in which the map is ranged over. No condition. -/
import Derived.Test.YtdkpmaahinbhlaaFqB2
import Derived.Test.YtdkpmaahinbhlaaFqRkI
namespace Go.Proofs.Ytdkpmaahinbhlaa
open Go.RowKit

open Go.Maps

/-- What stands while the map's keys are collected. -/
structure RkP (w W : World) (b n : Nat) (D : DataW Unit) (v0 v1 v2 v3 v4 : Value) (A : Option Addr) (l : List (Int × Int)) (left : Lit → Bool) (cnt : Nat) (ks : List Int) (Ao : Option Addr) (co lo hi : Nat) : Prop where
  rg : ORng W b (w.heap.size + 1) n D left cnt
  row : OwnR W lo hi Ao co ks
  lo : w.heap.size + 2 ≤ lo ∧ lo ≤ W.heap.size
  num : ks.length + cnt ≤ n
  col : CollS D left ks
  bx : Cel5 W w.heap.size 128 v0 v1 v2 v3 v4
  bars : BarsIn W 0 w.heap.size A l
  bel : Below w.heap.size w W
section
variable {w W W1 W2 : World} {b n : Nat} {D : DataW Unit} {v0 v1 v2 v3 v4 : Value} {A : Option Addr} {l : List (Int × Int)} {left : Lit → Bool} {cnt cnt1 : Nat} {ks : List Int} {Ao A2 : Option Addr} {co lo hi c2 lo2 hi2 : Nat} {x : Int}
theorem RkP.row1 (h : RkP w W b n D v0 v1 v2 v3 v4 A l left cnt ks Ao co lo hi) (hg : W.grownBy W1 (some (w.heap.size + 1))) : OwnR W1 lo hi Ao co ks ∧ lo ≤ W1.heap.size :=
  ⟨h.row.within (within_grown hg) (.inr (by have := h.lo; omega)), Nat.le_trans h.lo.2 hg.size⟩
theorem RkP.step (h : RkP w W b n D v0 v1 v2 v3 v4 A l left cnt ks Ao co lo hi) (hb : b < w.heap.size) {left' : Lit → Bool} (hr : ORng W1 b (w.heap.size + 1) n D left' cnt1) (hlt : cnt1 < cnt) (hg : W.grownBy W1 (some (w.heap.size + 1))) (hc : CollS D left' (ks ++ [x]))
    (ho : OwnR W2 lo2 hi2 A2 c2 (ks ++ [x])) (hd : (lo2 = lo ∧ hi2 = hi) ∨ (W1.heap.size ≤ lo2 ∧ lo2 ≤ W2.heap.size ∧ hi2 ≤ W2.heap.size)) (hw : Within lo hi W1 W2) :
    RkP w W2 b n D v0 v1 v2 v3 v4 A l left' cnt1 (ks ++ [x]) A2 c2 lo2 hi2 := by
  obtain ⟨h1, h2, h3, h4, h5, h6, h7, h8⟩ := h
  have w1 := within_grown hg
  have s0 := h8.size
  have s1 := w1.size
  have s2 := hw.size
  have hr1 := hr.lt
  have hb1 : b < W1.heap.size := by omega
  refine ⟨orng_block hr (hw.block b hb1 (.inl (by omega))) (hw.block _ hr1 (.inl (by omega))), ho, ?_, by simp; omega, hc, (h6.within w1 (.inl (by omega))).within hw (.inl (by omega)), (h7.within w1 (.inl (by omega))).within hw (.inl (by omega)), within_on (within_on h8 w1 s0 (.inl (by omega))) hw (by omega) (.inl (by omega))⟩
  rcases hd with ⟨rfl, rfl⟩ | hd
  · omega
  · omega
end

set_option maxHeartbeats 4000000 in
set_option maxRecDepth 100000 in
theorem mrank (p k c : Int) (l : List (Int × Int)) (A : Option Addr) (cap b n : Nat) (zs : List Int) (w : World) (hl : BarsAt w w.heap.size A l) (hs : SetM w b n zs) (hn : l.length ≤ 1048576) (hn2 : n ≤ 1048576) :
    Calls Try.prog 135 #[bsV p A l.length cap k c b] w fun e w' => e = .returned (.int .i64 (rankSV p k c l zs)) ∧ Below w.heap.size w w' := by
  obtain ⟨rv, hrv⟩ : ∃ rv, rankSV p k c l zs = rv := ⟨_, rfl⟩
  rw [hrv]
  have HRV := Lib.hid hrv
  clear hrv
  have hbl := hs.lt
  obtain ⟨D, hown, hsay⟩ := hs
  have HSAY := Lib.hid hsay
  have hA := new_below w (.cells #[.int .i64 p, .slice A l.length cap, .int .i64 k, .int .i64 c, .map (some b)] 128)
  have hsz : (w.alloc (.cells #[.int .i64 p, .slice A l.length cap, .int .i64 k, .int .i64 c, .map (some b)] 128)).heap.size = w.heap.size + 1 := by simp
  have HA := Lib.hid hA
  have HBX := Lib.hid (cel5_new w (.int .i64 p) (.slice A l.length cap) (.int .i64 k) (.int .i64 c) (.map (some b)) 128)
  have HOM := Lib.hid (omap_block hown (hA.block b hbl))
  have HBR := Lib.hid ((bars_in hl).within (within_of hA) (.inr (Nat.zero_le _)))
  have HSZ := Lib.hid hsz
  have HBL := Lib.hid hbl
  clear hl hown hsay hA hsz hbl
  go_enter Try.func135, Try.ntmps135
  obtain ⟨x0, x1, x2, x3, x4⟩ := HBX.out.cells
  go_wp2_with (first
    | (at_range; refine wpList_range_own _ rfl _ 126 rfl 3 4 lawI Try.underlying126 _ b n D rfl HOM.out ?_; intro w2 hrg0 hg0 hs0)
    | go_in)
  try go_frame
  clear x0 x1 x2 x3 x4
  have HST := Lib.hid (show RkP w w2 b n D (.int .i64 p) (.slice A l.length cap) (.int .i64 k) (.int .i64 c) (.map (some b)) A l (Maps.has D) (Maps.size D) [] none 0 w2.heap.size w2.heap.size from by
    have hw := within_none hg0
    have hsz := HSZ.out
    rw [hsz] at hrg0 hs0
    have hsl := HOM.out.size_le
    exact ⟨hrg0, ⟨Nat.le_refl _, .inl ⟨rfl, rfl, rfl⟩⟩, by omega, by simpa using hsl, CollS.start D, HBX.out.within hw (.inr (Nat.zero_le _)), HBR.out.within hw (.inr (Nat.zero_le _)), within_on HA.out hw (by omega) (.inr (Nat.zero_le _))⟩)
  clear hrg0 hg0 hs0
  rw [HSZ.out]
  go_loopw [3, 4] (fun u _ wr => ∃ (left : Lit → Bool) (cnt : Nat) (ks : List Int) (Ao : Option Addr) (co lo hi : Nat), u = .slice Ao ks.length co ∧ RkP w wr b n D (.int .i64 p) (.slice A l.length cap) (.int .i64 k) (.int .i64 c) (.map (some b)) A l left cnt ks Ao co lo hi) (fun _ _ wr => wr.rangeLeft b (w.heap.size + 1))
  case atStart => exact ⟨_, _, [], none, 0, _, _, rfl, HST.out⟩
  case round =>
    obtain ⟨left, cnt, ks, Ao, co, lo, hi, rfl, hst⟩ := hrel
    have HS := Lib.hid hst
    obtain ⟨x0, x1, x2, x3, x4⟩ := hst.bx.cells
    have hrg := hst.rg
    clear hst
    go_wp2_with (first
      | (at_next; refine wpList_next_ranges _ rfl _ rfl 3 lawI (plainElem (H := Unit) Try.prog 4) (Value.int .i64) Value.bool (fun key kl hk => by obtain ⟨x, hx, _⟩ := Maps.keyOf_int_inv Try.underlying3 hk; exact ⟨x, hx⟩) (fun v y hv => bool_inv Try.underlying4 hv) b (w.heap.size + 1) n D left cnt rfl hrg ?_ ?_)
      | go_in)
    · intro hc0 hl0
      have HE := Lib.hid ((rankSV_same (p := p) (k := k) (c := c) (l := l) fun j hj => HS.out.col.done HSAY.out hl0 l.length hn j hj).trans HRV.out)
      have hks : ks.length ≤ 1048576 := by have := HS.out.num; omega
      have HKS := Lib.hid hks
      clear hc0 hl0 hrg hks
      go_wp2_with (go_at_call 42; refine (implRankSet p k c l ks A Ao cap co lo hi _ HS.out.bars.at HS.out.row.ints.reads hn HKS.out).mono ?_; rintro e w9 ⟨rfl, hb⟩; rw [HE.out]; have HB9 := Lib.hid hb; clear hb)
      go_ret
      exact ⟨rfl, below_on HS.out.bel HB9.out HS.out.bel.size⟩
    · intro x
      constructor
      all_goals
        intro kl yd yp w3 cnt1 hkey hlk hv hat hrg1 hlt hg1 hs1 hen
        obtain ⟨x', ex, rfl, hwx⟩ := Maps.keyOf_int_inv Try.underlying3 hkey
        cases ex
        have HR1 := Lib.hid (HS.out.row1 hg1)
        have HC := Lib.hid (HS.out.col.step hwx hat)
        have HRG1 := Lib.hid hrg1
        have HG1 := Lib.hid hg1
        have HLT := Lib.hid hlt
        have HRG := Lib.hid hrg
        have hks : ks.length ≤ 1048576 := by have := HS.out.num; omega
        have HKS := Lib.hid hks
        clear hs1 hrg1 hg1 hrg hat hlk hv hkey hlt hks
        go_wp2_with (first
          | (at_builtin; refine wpList_pushR _ rfl _ _ rfl lo hi Ao co ks x rfl HR1.out.1 _ (by first | rfl | (simp only [World.size_setCell]; rfl)) HKS.out HR1.out.2 ?_; intro A5 c5 w15 lo5 hi5 hr5 hor5 hw5; have HN := Lib.hid (HS.out.step HBL.out HRG1.out HLT.out HG1.out HC.out hr5 hor5 hw5); clear hr5 hor5 hw5; go_frame)
          | go_in)
        go_roundw
        case rel => exact ⟨_, cnt1, ks ++ [x], A5, c5, lo5, hi5, by simp, HN.out⟩
        case measure => rw [HN.out.rg.left_eq, HRG.out.left_eq]; exact HLT.out
end Go.Proofs.Ytdkpmaahinbhlaa
