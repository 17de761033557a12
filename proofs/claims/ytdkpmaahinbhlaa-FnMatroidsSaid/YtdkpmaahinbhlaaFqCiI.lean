/- What impl.CircuitOf answers. No condition. -/
import Derived.Test.YtdkpmaahinbhlaaFqB2
import Derived.Test.YtdkpmaahinbhlaaFqB1
import Derived.Test.YtdkpmaahinbhlaaFqNewSet
import Derived.Test.YtdkpmaahinbhlaaFqWo
import Derived.Test.YtdkpmaahinbhlaaFqRejI
import Derived.Test.YtdkpmaahinbhlaaFqAccI
import Derived.Maps.AppendAt
import Derived.OrdersHeld
import Derived.Deep.RegionHeld3
import Derived.Deep.CutRange
namespace Go.Proofs.Ytdkpmaahinbhlaa
open Go.RowKit

/-- An append of one number that lies somewhere, in a region that draws its order. -/
theorem step_pushE (w : World) {ops : Array Oper} {o : Oper} {a : Act} {K : Act → World → Prop} {Q : Exit → Act → World → Prop} {E : Prop} (hgd : o.guard = none) (s x : Operand)
    (ho : o.op = .call { callee := .builtin .append, args := #[s, x], argTypes := #[29, 29] }) (lo hi : Nat) (A : Option Addr) (cap : Nat) (zs : List Int) (y : Int) (e1 : Nat) (hs : a.eval s = .slice A zs.length cap) (hr : OwnR w lo hi A cap zs)
    (hx : a.eval x = .slice (some ⟨e1, 0, none⟩) 1 1) (hc : w.cell? ⟨e1, 0, none⟩ = some (.int .i64 y)) (hn : zs.length ≤ 1048576) (hlo : lo ≤ w.heap.size)
    (h : ∀ A' c' w' lo' hi', OwnR w' lo' hi' A' c' (zs ++ [y]) → ((lo' = lo ∧ hi' = hi) ∨ (w.heap.size ≤ lo' ∧ lo' ≤ w'.heap.size ∧ hi' ≤ w'.heap.size)) → Within lo hi w w' → K (a.put o.dst (.slice A' (zs.length + 1) c')) w') : if Region.wanted o (yielded ops a.tmps) = true then Oper.wp Try.prog o a w K Q else E := by
  have hwt : Region.wanted o (yielded ops a.tmps) = true := by simp [Region.wanted, hgd]
  rw [if_pos hwt]
  have hlen : (zs ++ [y]).length = zs.length + 1 := by simp
  have hcells : intCells (zs ++ [y]) = intCells zs ++ [.int .i64 y] := by simp [intCells]
  obtain ⟨i, hi0, hz0, hz1, hz2⟩ := info_parts infoInt
  have hnews : ∀ j u, [Value.int .i64 y][j]? = some u → w.cell? ((⟨e1, 0, none⟩ : Addr).add j) = some u := by
    intro j u hj
    match j, hj with
    | 0, hj =>
      have e : (⟨e1, 0, none⟩ : Addr).add 0 = ⟨e1, 0, none⟩ := by unfold Addr.add; split <;> simp_all
      rw [e, hc]
      simpa using hj
    | j + 1, hj => simp at hj
  obtain ⟨v', w', hrun, hown, hg, _, hat⟩ := run_append_own_at (P := Try.prog) w lo 29 o.type 3 i (.int .i64 0) 1 8 Try.underlying29 hi0 hz0 hz1 hz2 rfl (by decide) _ zs.length (intCells zs) hr.row ⟨e1, 0, none⟩ 1 1 [.int .i64 y] rfl hnews (by simp [Value.oneCell']) (by unfold maxLen; omega) (by omega) hlo
  unfold Oper.wp execOp
  simp only [ho, resolve, invoke, builtin, Sem.run_bind, Sem.run_pure, Result.andThen_ok, List.map_toArray, List.map_cons, List.map_nil, hs, hx, hrun]
  obtain ⟨A', c', rfl⟩ := own_shape hown
  rw [← hcells, ← hlen] at hown
  rw [← hlen] at hat ⊢
  have hw : Within lo hi w w' := ⟨hg.os, hg.tape, hg.output, hg.size, fun k hk hd => hg.block k hk fun e => by
    rcases hr.2 with ⟨rfl, rfl, rfl⟩ | ⟨g, rfl, g1, g2, _⟩
    · cases e
    · have : k = g := by simpa [Value.ownBlock] using e
      omega⟩
  rcases hown.2 with ⟨_, e0⟩ | ⟨g', cap', cur, e1, _⟩
  · rw [hlen] at e0; omega
  · injection e1 with q1 q2 q3
    subst q1
    have hlt := hown.lt g' rfl
    rcases hat with e | e
    · rcases hr.2 with ⟨rfl, rfl, rfl⟩ | ⟨g, rfl, g1, g2, _⟩
      · cases e
      · have : g' = g := by simpa [Value.ownBlock] using e
        subst this
        have := h _ c' w' lo hi ⟨Nat.le_trans hr.1 hg.size, .inr ⟨g', rfl, g1, g2, hown⟩⟩ (.inl ⟨rfl, rfl⟩) hw
        rwa [← hlen] at this
    · have : g' = w.heap.size := by simpa [Value.ownBlock] using e
      have := h _ c' w' g' (g' + 1) ⟨hlt.2, .inr ⟨g', rfl, Nat.le_refl _, by omega, own_rebase hown (Nat.le_refl _)⟩⟩ (.inr ⟨by omega, by omega, hlt.2⟩) hw
      rwa [← hlen] at this
theorem own_cap {W : World} {lo hi cap : Nat} {A : Option Addr} {zs : List Int} (h : OwnInts W lo hi A cap zs) {q : Nat} (hq : q ≤ zs.length) : q ≤ cap := by
  rcases h.2 with e | ⟨g, rfl, _, _, ho⟩
  · rw [e] at hq; simp at hq; omega
  · rcases ho.2 with ⟨e, _⟩ | ⟨g', c', cur, e, _, _, hnc, _⟩
    · cases e
    · cases e; omega
theorem ints_take {W : World} {lo hi : Nat} {A : Option Addr} {zs : List Int} (h : IntsIn W lo hi A zs) (q : Nat) : IntsIn W lo hi A (zs.take q) := by
  refine ⟨h.1, fun h0 => ?_⟩
  rw [List.length_take] at h0
  obtain ⟨b, o, e, h1, h2, hc⟩ := h.2 (by omega)
  refine ⟨b, o, e, h1, h2, fun k hk => ?_⟩
  rw [List.length_take] at hk
  have := hc k (by omega)
  have e2 : (zs.take q).getD k 0 = zs.getD k 0 := by
    simp only [List.getD]
    rw [List.getElem?_take, if_pos (by omega)]
  rw [e2]
  exact this
/-- What is known behind the region that makes the set. -/
def CiW (_w wv wx : World) (p k c : Int) (l : List (Int × Int)) (A : Option Addr) (cap : Nat) (F : List Int) (b bx : Nat) : Prop :=
  Cel5 wx bx 128 (.int .i64 p) (.slice A l.length cap) (.int .i64 k) (.int .i64 c) (.map (some b)) ∧ SetM wx b F.length F ∧ Below wv.heap.size wv wx ∧ wv.heap.size ≤ b ∧ wv.heap.size ≤ bx ∧ b ≠ bx
/-- OwnR, carried over what lies beside it. -/
def OwnRW (W : World) (lo hi : Nat) (A : Option Addr) (cap : Nat) (zs : List Int) : Prop := OwnR W lo hi A cap zs
theorem OwnRW.within {W W' : World} {lo hi lo' hi' cap : Nat} {A : Option Addr} {zs : List Int} (h : OwnRW W lo hi A cap zs) (hw : Within lo' hi' W W') (hd : hi ≤ lo' ∨ hi' ≤ lo) : OwnRW W' lo hi A cap zs := OwnR.within h hw hd
theorem OwnRW.ints {W : World} {lo hi cap : Nat} {A : Option Addr} {zs : List Int} (h : OwnRW W lo hi A cap zs) : OwnInts W lo hi A cap zs := OwnR.ints h
/-- A cell that holds a number. -/
def CellW (W : World) (e : Nat) (x : Int) : Prop := e < W.heap.size ∧ W.cell? ⟨e, 0, none⟩ = some (.int .i64 x)
theorem CellW.within {W W' : World} {lo hi e : Nat} {x : Int} (h : CellW W e x) (hw : Within lo hi W W') (hd : e < lo ∨ hi ≤ e) : CellW W' e x := ⟨Nat.lt_of_lt_of_le h.1 hw.size, (World.cell?_of_block (hw.block e h.1 hd)).trans h.2⟩

set_option maxHeartbeats 8000000 in
set_option maxRecDepth 100000 in
theorem implCi (p k c x : Int) (l : List (Int × Int)) (A : Option Addr) (cap : Nat) (w : World) (hl : BarsAt w w.heap.size A l) (hn : l.length ≤ 1048576) (hwx : (Lit.int .i64 x).wf = true) :
    Calls Try.prog 52 #[.agg #[.int .i64 p, .slice A l.length cap], .int .i64 k, .int .i64 c, .int .i64 x] w (IntsOB w (ciV p k c l x) (ciB p k c l x)) := by
  have HREJ : ∀ W : World, BarsAt W W.heap.size A l → Calls Try.prog 19 #[.agg #[.int .i64 p, .slice A l.length cap], .int .i64 k, .int .i64 c] W (IntsO W (rejV p k c l)) := fun W h => implRej p k c l A cap W h hn
  have hrl : (rejV p k c l).length ≤ 1048576 := Nat.le_trans (rejV_len p k c l) hn
  cases hq : ciB p k c l x with
  | false =>
    have HV := Lib.hid (ciV_no hq)
    have HD := Lib.hid (show decide (x ∈ rejV p k c l) = false from hq)
    clear hq
    have W0 := Lib.hid (Below.refl w.heap.size w)
    have HB_0 := Lib.hid (bars_in hl)
    clear hl
    have Z1 := Lib.hid (within_alloc w (.cells #[.int .i64 p, (.slice A l.length cap)] 26)).size
    have W1 := Lib.hid (within_on W0.out (within_alloc w (.cells #[.int .i64 p, (.slice A l.length cap)] 26)) W0.out.size (.inr (Nat.le_refl _)))
    have HB_1 := Lib.hid (HB_0.out.within (within_alloc w (.cells #[.int .i64 p, (.slice A l.length cap)] 26)) (by omega))
    have Y1 := Lib.hid (show (w.alloc (.cells #[.int .i64 p, (.slice A l.length cap)] 26)).heap.size = w.heap.size + 1 by simp)
    have hnew := box_new w p (.slice A l.length cap) 26
    have BX_1 := Lib.hid hnew
    clear hnew
    go_enter Try.func52, Try.ntmps52
    obtain ⟨g0_0, g0_1, g0_2⟩ := BX_1.out
    go_wp2_with fail
    clear g0_0 g0_1 g0_2
    generalize (w.alloc (.cells #[.int .i64 p, (.slice A l.length cap)] 26)) = w1 at *
    refine (HREJ _ HB_1.out.at).mono ?_
    rintro e w2 ⟨AR, cR, rfl, ho, hb⟩
    have Z2 := Lib.hid (within_of hb).size
    have W2 := Lib.hid (within_on W1.out (within_of hb) W1.out.size (.inr (Nat.le_refl _)))
    have HB_2 := Lib.hid (HB_1.out.within (within_of hb) (by omega))
    have BX_2 := Lib.hid (BX_1.out.within (within_of hb) (by omega))
    have RJ_2 := Lib.hid (ho.reads)
    clear ho hb HREJ
    go_wp2_with fail
    refine (slContains (rejV p k c l) x AR cR _ _ _ RJ_2.out hrl).mono ?_
    rintro e w9 ⟨rfl, rfl⟩
    rw [HD.out]
    go_wp2_with fail
    go_ret2
    exact ⟨none, 0, by rw [HV.out]; rfl, by rw [HV.out]; exact ⟨Nat.le_refl _, .inl rfl⟩, W2.out⟩
  | true =>
    have HF := Lib.hid (ciF hq)
    have HD := Lib.hid (show decide (x ∈ rejV p k c l) = true from hq)
    have HACC : ∀ W : World, BarsAt W W.heap.size A l → Calls Try.prog 18 #[.agg #[.int .i64 p, .slice A l.length cap], .int .i64 k, .int .i64 c] W (IntsO W (runV p k c l).2.2) := fun W h => implAcc p k c l A cap W h hn
    have hz24 := (runV_len p k c l).2.2
    have hb24 := befV_len p k c l x
    have HWX := Lib.hid hwx
    clear hq
    have W0 := Lib.hid (Below.refl w.heap.size w)
    have HB_0 := Lib.hid (bars_in hl)
    clear hl
    have Z1 := Lib.hid (within_alloc w (.cells #[.int .i64 p, (.slice A l.length cap)] 26)).size
    have W1 := Lib.hid (within_on W0.out (within_alloc w (.cells #[.int .i64 p, (.slice A l.length cap)] 26)) W0.out.size (.inr (Nat.le_refl _)))
    have HB_1 := Lib.hid (HB_0.out.within (within_alloc w (.cells #[.int .i64 p, (.slice A l.length cap)] 26)) (by omega))
    have Y1 := Lib.hid (show (w.alloc (.cells #[.int .i64 p, (.slice A l.length cap)] 26)).heap.size = w.heap.size + 1 by simp)
    have hnew := box_new w p (.slice A l.length cap) 26
    have BX_1 := Lib.hid hnew
    clear hnew
    go_enter Try.func52, Try.ntmps52
    obtain ⟨g0_0, g0_1, g0_2⟩ := BX_1.out
    go_wp2_with fail
    clear g0_0 g0_1 g0_2
    generalize (w.alloc (.cells #[.int .i64 p, (.slice A l.length cap)] 26)) = w1 at *
    refine (HREJ _ HB_1.out.at).mono ?_
    rintro e w2 ⟨AR, cR, rfl, ho, hb⟩
    have Z2 := Lib.hid (within_of hb).size
    have W2 := Lib.hid (within_on W1.out (within_of hb) W1.out.size (.inr (Nat.le_refl _)))
    have HB_2 := Lib.hid (HB_1.out.within (within_of hb) (by omega))
    have BX_2 := Lib.hid (BX_1.out.within (within_of hb) (by omega))
    have RJ_2 := Lib.hid (ho.reads)
    clear ho hb HREJ
    go_wp2_with fail
    refine (slContains (rejV p k c l) x AR cR _ _ _ RJ_2.out hrl).mono ?_
    rintro e w9 ⟨rfl, rfl⟩
    rw [HD.out]
    obtain ⟨g1_0, g1_1, g1_2⟩ := BX_2.out
    go_wp2_with fail
    clear g1_0 g1_1 g1_2
    refine (HACC _ HB_2.out.at).mono ?_
    rintro e w3 ⟨AZ, cZ, rfl, ho, hb⟩
    have Z3 := Lib.hid (within_of hb).size
    have W3 := Lib.hid (within_on W2.out (within_of hb) W2.out.size (.inr (Nat.le_refl _)))
    have HB_3 := Lib.hid (HB_2.out.within (within_of hb) (by omega))
    have BX_3 := Lib.hid (BX_2.out.within (within_of hb) (by omega))
    have RJ_3 := Lib.hid (RJ_2.out.within (within_of hb) (by omega))
    have ZR_3 := Lib.hid (ho.reads)
    clear hb HACC
    have HOZ := Lib.hid ho
    clear ho
    obtain ⟨Z, hZ⟩ : ∃ Z, (runV p k c l).2.2 = Z := ⟨_, rfl⟩
    have HF2 := HF.out
    have hbz : befV p k c l x = befL Z x := by unfold befV; rw [hZ]
    have hasc : Z.Pairwise (· < ·) := by rw [← hZ]; exact HF2.asc
    rw [hZ] at ZR_3 hz24 HOZ ⊢
    clear hZ
    have hbt := bef_take Z hasc x
    rw [← hbz] at hbt
    obtain ⟨B, hB⟩ : ∃ B, befV p k c l x = B := ⟨_, rfl⟩
    rw [hB] at hbt hb24
    have hpl := posL_le Z x
    have hqB : posL Z x = B.length := by rw [← hbt, List.length_take]; omega
    have HBT := Lib.hid hbt
    have HSET := Lib.hid (show setB p l (B ++ [x]) = true from by rw [← hB]; exact HF2.set)
    have HIND := Lib.hid (show ∀ y ∈ B, indB p k c l (woL (B ++ [x]) y) = decide (rankSV p k c l (woL (B ++ [x]) y) = (B.length : Int)) from by rw [← hB]; exact HF2.ind)
    have HIN := Lib.hid (fun (j : Nat) (hj : j < B.length) (h : indB p k c l (woL (B ++ [x]) (B.getD j 0)) = true) => (show ciK p k c l x (j + 1) = ciK p k c l x j ++ [B.getD j 0] from by subst hB; exact ciK_in hj h))
    have HOUT := Lib.hid (fun (j : Nat) (hj : j < B.length) (h : indB p k c l (woL (B ++ [x]) (B.getD j 0)) = false) => (show ciK p k c l x (j + 1) = ciK p k c l x j from by subst hB; exact ciK_out hj h))
    have HVAL := Lib.hid (show ciV p k c l x = ciK p k c l x B.length ++ [x] from by rw [← hB]; exact HF2.val)
    have HRNG := Lib.hid HF2.rng
    have HWFB := Lib.hid (show ∀ j, j < B.length → (Lit.int .i64 (B.getD j 0)).wf = true ∧ B.getD j 0 ∈ B from fun j hj => by
      have hs := (okS_pair (setB_is HSET.out).1).1
      have hm : B.getD j 0 ∈ B := by simp [List.getD, List.getElem?_eq_getElem hj]
      have h2 := hs _ (List.mem_append_left [x] hm)
      have h3 := (setB_is HSET.out).2.2.1
      exact ⟨WalkArith.wf_i64 (by omega), hm⟩)
    have HASC := Lib.hid hasc
    clear HF2 hbz hasc hbt hB
    have hcp := own_cap HOZ.out (q := B.length) (by omega)
    have hcpi : (B.length : Int) ≤ (cZ : Int) := by omega
    have hqz : (B.length : Int) ≤ (Z.length : Int) := by omega
    go_wp2_with fail
    refine (binSearch Z x AZ cZ _ _ _ ZR_3.out (by omega) HASC.out).mono ?_
    rintro e w4 ⟨⟨r, rfl⟩, hb⟩
    have Z4 := Lib.hid (within_of hb).size
    have W4 := Lib.hid (within_on W3.out (within_of hb) W3.out.size (.inr (Nat.le_refl _)))
    have HB_4 := Lib.hid (HB_3.out.within (within_of hb) (by omega))
    have BX_4 := Lib.hid (BX_3.out.within (within_of hb) (by omega))
    have RJ_4 := Lib.hid (RJ_3.out.within (within_of hb) (by omega))
    have ZR_4 := Lib.hid (ZR_3.out.within (within_of hb) (by omega))
    clear hb
    rw [hqB]
    clear hqB
    obtain ⟨_, g1, g2⟩ := BX_4.out
    have hd0 : Below w4.heap.size w4 w4.drew := (Below.refl _ _).drew
    have HBI := Lib.hid (show IntsIn w4.drew _ _ AZ B from by rw [← HBT.out]; exact ints_take (ZR_4.out.within (within_of hd0) (.inr (Nat.zero_le _))) _)
    have HBR := Lib.hid (HB_4.out.within (within_of hd0) (.inr (Nat.zero_le _)))
    have HKX := Lib.hid (BX_4.out.kept hd0)
    have HD0 := Lib.hid hd0
    clear hd0
    go_upto_region 6 with fail
    clear g1 g2
    go_cut [13, 14] from 38 to 49 (fun s13 s14 wx => ∃ b bx, s13 = .pointer (some ⟨bx, 0, none⟩) ∧ s14 = .bool true ∧ CiW w w4 wx p k c l A cap (B ++ [x]) b bx)
    case first =>
      refine wp_region_held_drew (S := (fun W' : World => W'.cell? ⟨w.heap.size, 0, none⟩ = some (.int .i64 p) ∧ W'.cell? ⟨w.heap.size, 1, none⟩ = some (.slice A l.length cap))) (by kernel_rfl) ?_ (fun hHeld => ?_)
      · exact HKX.out.2
      generalize w4.drew = WD at *
      have BW := Lib.hid (Below.refl WD.heap.size WD)
      have hbi1 := HBI.out.1
      have hkx1 := HKX.out.1
      refine wpAnyH_take (i := 0) (v := .agg #[.int .i64 p, .slice A l.length cap]) rfl (by kernel_rfl) (by kernel_rfl) (by kernel_rfl) (fun _ _ _ h => h) (Or.inl ⟨by kernel_rfl, fun w hSw => by (try dsimp only at hSw); go_simp; all_goals first | omega | exact IntWalk.i64_in _ (by omega)⟩) (by assumption) ?_
      refine wpAnyH_take (i := 1) (v := .int .i64 k) rfl (by kernel_rfl) (by kernel_rfl) (by kernel_rfl) (fun _ _ _ h => h) (Or.inl ⟨by kernel_rfl, fun w hSw => by (try dsimp only at hSw); go_simp; all_goals first | omega | exact IntWalk.i64_in _ (by omega)⟩) (by assumption) ?_
      refine wpAnyH_take (i := 2) (v := .int .i64 c) rfl (by kernel_rfl) (by kernel_rfl) (by kernel_rfl) (fun _ _ _ h => h) (Or.inl ⟨by kernel_rfl, fun w hSw => by (try dsimp only at hSw); go_simp; all_goals first | omega | exact IntWalk.i64_in _ (by omega)⟩) (by assumption) ?_
      refine wpAnyH_take (i := 3) (v := .slice AZ B.length cZ) rfl (by kernel_rfl) (by kernel_rfl) (by kernel_rfl) (fun _ _ _ h => h) (Or.inl ⟨by kernel_rfl, fun w hSw => by (try dsimp only at hSw); go_simp; all_goals first | omega | exact IntWalk.i64_in _ (by omega)⟩) (by assumption) ?_
      refine wpAnyH_take (i := 5) (v := .int .i64 x) rfl (by kernel_rfl) (by kernel_rfl) (by kernel_rfl) (fun _ _ _ h => h) (Or.inl ⟨by kernel_rfl, fun w hSw => by (try dsimp only at hSw); go_simp; all_goals first | omega | exact IntWalk.i64_in _ (by omega)⟩) (by assumption) ?_
      refine wpAnyH_ready (rs := [4, 6, 12]) (by kernel_rfl) (by simp) (AllReadyH.cons rfl (fun K hK => ?_) (AllReadyH.cons rfl (fun K hK => ?_) (AllReadyH.cons rfl (fun K hK => ?_) AllReadyH.nil)))
      · go_simp
        go_at_call 146
        refine (slCloneR B AZ cZ _ _ _ HBI.out (by omega)).mono ?_
        rintro e w4_ ⟨A4, c4, rfl, hr4, hb4⟩
        have hw9 := within_of hb4
        have ZS4 := Lib.hid hb4.size
        have HBI_4 := Lib.hid (HBI.out.within hw9 (by omega))
        have HBR_4 := Lib.hid (HBR.out.within hw9 (by omega))
        have HKX_4 := Lib.hid (HKX.out.within hw9 (by omega))
        have BW_4 := Lib.hid (within_on BW.out hw9 BW.out.size (by omega))
        have R4_4 := Lib.hid (show OwnRW w4_ WD.heap.size w4_.heap.size A4 c4 B from hr4)
        clear hr4 hb4
        clear hw9
        refine hK.out _ _ HKX_4.out.2 (fun hHeld => ?_)
        clear hK K
        refine wpAnyH_ready (rs := [6, 12]) (by kernel_rfl) (by simp) (AllReadyH.cons rfl (fun K hK => ?_) (AllReadyH.cons rfl (fun K hK => ?_) AllReadyH.nil))
        · have hb6 := new_below w4_ (.cells #[.int .i64 x] 3)
          have hw9 := within_of hb6
          have ZS6 := Lib.hid hb6.size
          have YS6 := Lib.hid (show (w4_.alloc (.cells #[.int .i64 x] 3)).heap.size = w4_.heap.size + 1 by simp)
          have hec : (w4_.alloc (.cells #[.int .i64 x] 3)).cell? ⟨w4_.heap.size, 0, none⟩ = some (.int .i64 x) := by rw [World.cell?_alloc_at _ _ _ _ rfl]; rfl
          have HBI_6 := Lib.hid (HBI_4.out.within hw9 (by omega))
          have HBR_6 := Lib.hid (HBR_4.out.within hw9 (by omega))
          have HKX_6 := Lib.hid (HKX_4.out.within hw9 (by omega))
          have R4_6 := Lib.hid (R4_4.out.within hw9 (by omega))
          have BW_6 := Lib.hid (within_on BW_4.out hw9 BW_4.out.size (by omega))
          have E6_6 := Lib.hid (show CellW (w4_.alloc (.cells #[.int .i64 x] 3)) w4_.heap.size x from ⟨by simp, hec⟩)
          clear hb6 hec
          go_simp
          generalize (w4_.alloc (.cells #[.int .i64 x] 3)) = w6_ at *
          clear hw9
          refine hK.out _ _ HKX_6.out.2 (fun hHeld => ?_)
          clear hK K
          refine wpAnyH_ready (rs := [7, 12]) (by kernel_rfl) (by simp) (AllReadyH.cons rfl (fun K hK => ?_) (AllReadyH.cons rfl (fun K hK => ?_) AllReadyH.nil))
          · have hy6 := YS6.out
            have hz4 := ZS4.out
            refine step_pushE w6_ (by rfl) _ _ (by rfl) WD.heap.size w4_.heap.size A4 c4 B x w4_.heap.size (by rfl) R4_6.out (by rfl) E6_6.out.2 (by omega) (by have := ZS4.out; have := ZS6.out; omega) ?_
            intro A7 c7 w7_ lo7 hi7 hr7 hd7 hw9
            have ZS7 := Lib.hid hw9.size
            have hzz : w6_.heap.size ≤ w7_.heap.size := hw9.size
            have hlo9 : WD.heap.size ≤ WD.heap.size := by omega
            have HBI_7 := Lib.hid (HBI_6.out.within hw9 (by omega))
            have HBR_7 := Lib.hid (HBR_6.out.within hw9 (by omega))
            have HKX_7 := Lib.hid (HKX_6.out.within hw9 (by omega))
            have BW_7 := Lib.hid (within_on BW_6.out hw9 BW_6.out.size (by omega))
            have hd8 : WD.heap.size ≤ lo7 := by have := ZS4.out; have := ZS6.out; omega
            have HD8 := Lib.hid hd8
            have R7_7 := Lib.hid (show OwnRW w7_ lo7 hi7 A7 c7 (B ++ [x]) from hr7)
            have R7H := Lib.hid (show hi7 ≤ w7_.heap.size from hr7.1)
            clear hr7 hd7 hd8 hlo9 hy6 hz4 hzz
            clear hw9
            refine hK.out _ _ HKX_7.out.2 (fun hHeld => ?_)
            clear hK K
            refine wpAnyH_ready (rs := [8, 12]) (by kernel_rfl) (by simp) (AllReadyH.cons rfl (fun K hK => ?_) (AllReadyH.cons rfl (fun K hK => ?_) AllReadyH.nil))
            · go_simp
              go_at_call 134
              have hns := newSet_yes p k c l (B ++ [x]) A A7 cap c7 _ _ _ HBR_7.out.at R7_7.out.ints.reads hn (by simp; omega) HSET.out HRNG.out
              rw [List.length_append, List.length_singleton] at hns
              refine hns.mono ?_
              rintro e w8_ ⟨b, rfl, hset, hbge, hb8⟩
              have hw9 := within_of hb8
              have ZS8 := Lib.hid hb8.size
              have HBG := Lib.hid hbge
              have HBI_8 := Lib.hid (HBI_7.out.within hw9 (by omega))
              have HBR_8 := Lib.hid (HBR_7.out.within hw9 (by omega))
              have HKX_8 := Lib.hid (HKX_7.out.within hw9 (by omega))
              have BW_8 := Lib.hid (within_on BW_7.out hw9 BW_7.out.size (by omega))
              have SM_8 := Lib.hid hset
              have HBL8 := Lib.hid hset.lt
              clear hset hbge hb8 hns
              clear hw9
              refine hK.out _ _ HKX_8.out.2 (fun hHeld => ?_)
              clear hK K
              refine wpAnyH_take (i := 9) (v := .tuple #[.agg #[.int .i64 p, .slice A l.length cap, .int .i64 k, .int .i64 c, .map (some b)], .bool true]) rfl (by kernel_rfl) (by kernel_rfl) (by kernel_rfl) (fun _ _ _ h => h) (Or.inl ⟨by kernel_rfl, fun w hSw => by (try dsimp only at hSw); go_simp; all_goals first | omega | exact IntWalk.i64_in _ (by omega)⟩) (by assumption) ?_
              refine wpAnyH_take (i := 10) (v := .agg #[.int .i64 p, .slice A l.length cap, .int .i64 k, .int .i64 c, .map (some b)]) rfl (by kernel_rfl) (by kernel_rfl) (by kernel_rfl) (fun _ _ _ h => h) (Or.inl ⟨by kernel_rfl, fun w hSw => by (try dsimp only at hSw); go_simp; all_goals first | omega | exact IntWalk.i64_in _ (by omega)⟩) (by assumption) ?_
              refine wpAnyH_take (i := 11) (v := .bool true) rfl (by kernel_rfl) (by kernel_rfl) (by kernel_rfl) (fun _ _ _ h => h) (Or.inl ⟨by kernel_rfl, fun w hSw => by (try dsimp only at hSw); go_simp; all_goals first | omega | exact IntWalk.i64_in _ (by omega)⟩) (by assumption) ?_
              refine wpAnyH_ready (rs := [12]) (by kernel_rfl) (by simp) (AllReadyH.cons rfl (fun K hK => ?_) AllReadyH.nil)
              have hb12 := new_below w8_ (.cells #[.int .i64 0, .slice none 0 0, .int .i64 0, .int .i64 0, .map none] 128)
              have hw9 := within_of hb12
              have ZS12 := Lib.hid hb12.size
              have YS12 := Lib.hid (show (w8_.alloc (.cells #[.int .i64 0, .slice none 0 0, .int .i64 0, .int .i64 0, .map none] 128)).heap.size = w8_.heap.size + 1 by simp)
              have hcb := cel5_new w8_ (.int .i64 0) (.slice none 0 0) (.int .i64 0) (.int .i64 0) (.map none) 128
              have HBI_12 := Lib.hid (HBI_8.out.within hw9 (by omega))
              have HBR_12 := Lib.hid (HBR_8.out.within hw9 (by omega))
              have HKX_12 := Lib.hid (HKX_8.out.within hw9 (by omega))
              have SM_12 := Lib.hid (SM_8.out.within hw9 (by omega))
              have BW_12 := Lib.hid (within_on BW_8.out hw9 BW_8.out.size (by omega))
              have CB_12 := Lib.hid hcb
              clear hb12 hcb
              go_simp
              generalize (w8_.alloc (.cells #[.int .i64 0, .slice none 0 0, .int .i64 0, .int .i64 0, .map none] 128)) = w12_ at *
              clear hw9
              refine hK.out _ _ HKX_12.out.2 (fun hHeld => ?_)
              clear hK K
              refine wpAnyH_ready (rs := [13]) (by kernel_rfl) (by simp) (AllReadyH.cons rfl (fun K hK => ?_) AllReadyH.nil)
              have q0 := CB_12.out.cells.1
              have q1 := CB_12.out.cells.2.1
              have q2 := CB_12.out.cells.2.2.1
              have q3 := CB_12.out.cells.2.2.2.1
              have q4 := CB_12.out.cells.2.2.2.2
              have f0 := CB_12.out.frozen.1
              have f1 := CB_12.out.frozen.2.1
              have f2 := CB_12.out.frozen.2.2.1
              have f3 := CB_12.out.frozen.2.2.2.1
              have f4 := CB_12.out.frozen.2.2.2.2
              have hr := ret5 CB_12.out (.int .i64 p) (.slice A l.length cap) (.int .i64 k) (.int .i64 c) (.map (some b))
              have hw9 := hr.2
              have hbx9 : WD.heap.size ≤ w8_.heap.size := by have := ZS4.out; have := ZS6.out; have := ZS7.out; have := ZS8.out; omega
              have hbb := HBG.out
              have hbl8 := HBL8.out
              have hne : b ≠ w8_.heap.size := by have := YS12.out; have := ZS4.out; have := ZS6.out; have := ZS7.out; have := ZS8.out; have := ZS12.out; omega
              have HNE := Lib.hid (And.intro hbx9 hne)
              have HBI_13 := Lib.hid (HBI_12.out.within hw9 (by omega))
              have HBR_13 := Lib.hid (HBR_12.out.within hw9 (by omega))
              have HKX_13 := Lib.hid (HKX_12.out.within hw9 (by omega))
              have SM_13 := Lib.hid (SM_12.out.within hw9 (by omega))
              have BW_13 := Lib.hid (within_on BW_12.out hw9 BW_12.out.size (by omega))
              have CB_13 := Lib.hid hr.1
              clear hr hbx9 hne hbb hbl8
              go_simp
              clear q0 q1 q2 q3 q4 f0 f1 f2 f3 f4
              clear hw9
              refine hK.out _ _ HKX_13.out.2 (fun hHeld => ?_)
              clear hK K
              refine wpAnyH_ready (rs := [14]) (by kernel_rfl) (by simp) (AllReadyH.cons rfl (fun K hK => ?_) AllReadyH.nil)
              go_simp
              refine hK.out _ _ HKX_13.out.2 (fun hHeld => ?_)
              clear hK K
              refine wpAnyH_done (by kernel_rfl) ?_ _
              go_wp2_with fail
              go_meet
              case rel => (have hh1 := HD0.out.size; have hh2 := HNE.out.1; have hh3 := HBG.out; have hh4 := BW_13.out.size; have := ZS4.out; have := ZS6.out; have := ZS7.out; have := ZS8.out; have := ZS12.out; exact ⟨b, w8_.heap.size, rfl, rfl, CB_13.out, (by have h := SM_13.out; simpa using h), below_on HD0.out BW_13.out HD0.out.size, by omega, by omega, HNE.out.2⟩)
            · have hb12 := new_below w7_ (.cells #[.int .i64 0, .slice none 0 0, .int .i64 0, .int .i64 0, .map none] 128)
              have hw9 := within_of hb12
              have ZS12 := Lib.hid hb12.size
              have YS12 := Lib.hid (show (w7_.alloc (.cells #[.int .i64 0, .slice none 0 0, .int .i64 0, .int .i64 0, .map none] 128)).heap.size = w7_.heap.size + 1 by simp)
              have hcb := cel5_new w7_ (.int .i64 0) (.slice none 0 0) (.int .i64 0) (.int .i64 0) (.map none) 128
              have HBI_12 := Lib.hid (HBI_7.out.within hw9 (by omega))
              have HBR_12 := Lib.hid (HBR_7.out.within hw9 (by omega))
              have HKX_12 := Lib.hid (HKX_7.out.within hw9 (by omega))
              have R7_12 := Lib.hid (R7_7.out.within hw9 (by omega))
              have BW_12 := Lib.hid (within_on BW_7.out hw9 BW_7.out.size (by omega))
              have CB_12 := Lib.hid hcb
              clear hb12 hcb
              go_simp
              generalize (w7_.alloc (.cells #[.int .i64 0, .slice none 0 0, .int .i64 0, .int .i64 0, .map none] 128)) = w12_ at *
              clear hw9
              refine hK.out _ _ HKX_12.out.2 (fun hHeld => ?_)
              clear hK K
              refine wpAnyH_ready (rs := [8]) (by kernel_rfl) (by simp) (AllReadyH.cons rfl (fun K hK => ?_) AllReadyH.nil)
              go_simp
              go_at_call 134
              have hns := newSet_yes p k c l (B ++ [x]) A A7 cap c7 _ _ _ HBR_12.out.at R7_12.out.ints.reads hn (by simp; omega) HSET.out HRNG.out
              rw [List.length_append, List.length_singleton] at hns
              refine hns.mono ?_
              rintro e w8_ ⟨b, rfl, hset, hbge, hb8⟩
              have hw9 := within_of hb8
              have ZS8 := Lib.hid hb8.size
              have HBG := Lib.hid hbge
              have HBI_8 := Lib.hid (HBI_12.out.within hw9 (by omega))
              have HBR_8 := Lib.hid (HBR_12.out.within hw9 (by omega))
              have HKX_8 := Lib.hid (HKX_12.out.within hw9 (by omega))
              have CB_8 := Lib.hid (CB_12.out.within hw9 (by have := YS12.out; have := ZS4.out; have := ZS6.out; have := ZS7.out; have := ZS12.out; omega))
              have BW_8 := Lib.hid (within_on BW_12.out hw9 BW_12.out.size (by omega))
              have SM_8 := Lib.hid hset
              have HBL8 := Lib.hid hset.lt
              clear hset hbge hb8 hns
              clear hw9
              refine hK.out _ _ HKX_8.out.2 (fun hHeld => ?_)
              clear hK K
              refine wpAnyH_take (i := 9) (v := .tuple #[.agg #[.int .i64 p, .slice A l.length cap, .int .i64 k, .int .i64 c, .map (some b)], .bool true]) rfl (by kernel_rfl) (by kernel_rfl) (by kernel_rfl) (fun _ _ _ h => h) (Or.inl ⟨by kernel_rfl, fun w hSw => by (try dsimp only at hSw); go_simp; all_goals first | omega | exact IntWalk.i64_in _ (by omega)⟩) (by assumption) ?_
              refine wpAnyH_take (i := 10) (v := .agg #[.int .i64 p, .slice A l.length cap, .int .i64 k, .int .i64 c, .map (some b)]) rfl (by kernel_rfl) (by kernel_rfl) (by kernel_rfl) (fun _ _ _ h => h) (Or.inl ⟨by kernel_rfl, fun w hSw => by (try dsimp only at hSw); go_simp; all_goals first | omega | exact IntWalk.i64_in _ (by omega)⟩) (by assumption) ?_
              refine wpAnyH_take (i := 11) (v := .bool true) rfl (by kernel_rfl) (by kernel_rfl) (by kernel_rfl) (fun _ _ _ h => h) (Or.inl ⟨by kernel_rfl, fun w hSw => by (try dsimp only at hSw); go_simp; all_goals first | omega | exact IntWalk.i64_in _ (by omega)⟩) (by assumption) ?_
              refine wpAnyH_ready (rs := [13]) (by kernel_rfl) (by simp) (AllReadyH.cons rfl (fun K hK => ?_) AllReadyH.nil)
              have q0 := CB_8.out.cells.1
              have q1 := CB_8.out.cells.2.1
              have q2 := CB_8.out.cells.2.2.1
              have q3 := CB_8.out.cells.2.2.2.1
              have q4 := CB_8.out.cells.2.2.2.2
              have f0 := CB_8.out.frozen.1
              have f1 := CB_8.out.frozen.2.1
              have f2 := CB_8.out.frozen.2.2.1
              have f3 := CB_8.out.frozen.2.2.2.1
              have f4 := CB_8.out.frozen.2.2.2.2
              have hr := ret5 CB_8.out (.int .i64 p) (.slice A l.length cap) (.int .i64 k) (.int .i64 c) (.map (some b))
              have hw9 := hr.2
              have hbx9 : WD.heap.size ≤ w7_.heap.size := by have := ZS4.out; have := ZS6.out; have := ZS7.out; omega
              have hbb := HBG.out
              have hbl8 := HBL8.out
              have hne : b ≠ w7_.heap.size := by have := YS12.out; have := ZS4.out; have := ZS6.out; have := ZS7.out; have := ZS12.out; have := ZS8.out; omega
              have HNE := Lib.hid (And.intro hbx9 hne)
              have HBI_13 := Lib.hid (HBI_8.out.within hw9 (by omega))
              have HBR_13 := Lib.hid (HBR_8.out.within hw9 (by omega))
              have HKX_13 := Lib.hid (HKX_8.out.within hw9 (by omega))
              have SM_13 := Lib.hid (SM_8.out.within hw9 (by omega))
              have BW_13 := Lib.hid (within_on BW_8.out hw9 BW_8.out.size (by omega))
              have CB_13 := Lib.hid hr.1
              clear hr hbx9 hne hbb hbl8
              go_simp
              clear q0 q1 q2 q3 q4 f0 f1 f2 f3 f4
              clear hw9
              refine hK.out _ _ HKX_13.out.2 (fun hHeld => ?_)
              clear hK K
              refine wpAnyH_ready (rs := [14]) (by kernel_rfl) (by simp) (AllReadyH.cons rfl (fun K hK => ?_) AllReadyH.nil)
              go_simp
              refine hK.out _ _ HKX_13.out.2 (fun hHeld => ?_)
              clear hK K
              refine wpAnyH_done (by kernel_rfl) ?_ _
              go_wp2_with fail
              go_meet
              case rel => (have hh1 := HD0.out.size; have hh2 := HNE.out.1; have hh3 := HBG.out; have hh4 := BW_13.out.size; have := ZS4.out; have := ZS6.out; have := ZS7.out; have := ZS8.out; have := ZS12.out; exact ⟨b, w7_.heap.size, rfl, rfl, CB_13.out, (by have h := SM_13.out; simpa using h), below_on HD0.out BW_13.out HD0.out.size, by omega, by omega, HNE.out.2⟩)
          · have hb12 := new_below w6_ (.cells #[.int .i64 0, .slice none 0 0, .int .i64 0, .int .i64 0, .map none] 128)
            have hw9 := within_of hb12
            have ZS12 := Lib.hid hb12.size
            have YS12 := Lib.hid (show (w6_.alloc (.cells #[.int .i64 0, .slice none 0 0, .int .i64 0, .int .i64 0, .map none] 128)).heap.size = w6_.heap.size + 1 by simp)
            have hcb := cel5_new w6_ (.int .i64 0) (.slice none 0 0) (.int .i64 0) (.int .i64 0) (.map none) 128
            have HBI_12 := Lib.hid (HBI_6.out.within hw9 (by omega))
            have HBR_12 := Lib.hid (HBR_6.out.within hw9 (by omega))
            have HKX_12 := Lib.hid (HKX_6.out.within hw9 (by omega))
            have R4_12 := Lib.hid (R4_6.out.within hw9 (by omega))
            have E6_12 := Lib.hid (E6_6.out.within hw9 (by omega))
            have BW_12 := Lib.hid (within_on BW_6.out hw9 BW_6.out.size (by omega))
            have CB_12 := Lib.hid hcb
            clear hb12 hcb
            go_simp
            generalize (w6_.alloc (.cells #[.int .i64 0, .slice none 0 0, .int .i64 0, .int .i64 0, .map none] 128)) = w12_ at *
            clear hw9
            refine hK.out _ _ HKX_12.out.2 (fun hHeld => ?_)
            clear hK K
            refine wpAnyH_ready (rs := [7]) (by kernel_rfl) (by simp) (AllReadyH.cons rfl (fun K hK => ?_) AllReadyH.nil)
            have hy6 := YS6.out
            have hz4 := ZS4.out
            refine step_pushE w12_ (by rfl) _ _ (by rfl) WD.heap.size w4_.heap.size A4 c4 B x w4_.heap.size (by rfl) R4_12.out (by rfl) E6_12.out.2 (by omega) (by have := ZS4.out; have := ZS6.out; have := ZS12.out; omega) ?_
            intro A7 c7 w7_ lo7 hi7 hr7 hd7 hw9
            have ZS7 := Lib.hid hw9.size
            have hzz : w12_.heap.size ≤ w7_.heap.size := hw9.size
            have hlo9 : WD.heap.size ≤ WD.heap.size := by omega
            have HBI_7 := Lib.hid (HBI_12.out.within hw9 (by omega))
            have HBR_7 := Lib.hid (HBR_12.out.within hw9 (by omega))
            have HKX_7 := Lib.hid (HKX_12.out.within hw9 (by omega))
            have CB_7 := Lib.hid (CB_12.out.within hw9 (by have := YS12.out; have := ZS4.out; have := ZS6.out; have := ZS12.out; omega))
            have BW_7 := Lib.hid (within_on BW_12.out hw9 BW_12.out.size (by omega))
            have hd8 : WD.heap.size ≤ lo7 := by have := ZS4.out; have := ZS6.out; have := ZS12.out; omega
            have HD8 := Lib.hid hd8
            have R7_7 := Lib.hid (show OwnRW w7_ lo7 hi7 A7 c7 (B ++ [x]) from hr7)
            have R7H := Lib.hid (show hi7 ≤ w7_.heap.size from hr7.1)
            clear hr7 hd7 hd8 hlo9 hy6 hz4 hzz
            clear hw9
            refine hK.out _ _ HKX_7.out.2 (fun hHeld => ?_)
            clear hK K
            refine wpAnyH_ready (rs := [8]) (by kernel_rfl) (by simp) (AllReadyH.cons rfl (fun K hK => ?_) AllReadyH.nil)
            go_simp
            go_at_call 134
            have hns := newSet_yes p k c l (B ++ [x]) A A7 cap c7 _ _ _ HBR_7.out.at R7_7.out.ints.reads hn (by simp; omega) HSET.out HRNG.out
            rw [List.length_append, List.length_singleton] at hns
            refine hns.mono ?_
            rintro e w8_ ⟨b, rfl, hset, hbge, hb8⟩
            have hw9 := within_of hb8
            have ZS8 := Lib.hid hb8.size
            have HBG := Lib.hid hbge
            have HBI_8 := Lib.hid (HBI_7.out.within hw9 (by omega))
            have HBR_8 := Lib.hid (HBR_7.out.within hw9 (by omega))
            have HKX_8 := Lib.hid (HKX_7.out.within hw9 (by omega))
            have CB_8 := Lib.hid (CB_7.out.within hw9 (by have := YS12.out; have := ZS4.out; have := ZS6.out; have := ZS12.out; have := ZS7.out; omega))
            have BW_8 := Lib.hid (within_on BW_7.out hw9 BW_7.out.size (by omega))
            have SM_8 := Lib.hid hset
            have HBL8 := Lib.hid hset.lt
            clear hset hbge hb8 hns
            clear hw9
            refine hK.out _ _ HKX_8.out.2 (fun hHeld => ?_)
            clear hK K
            refine wpAnyH_take (i := 9) (v := .tuple #[.agg #[.int .i64 p, .slice A l.length cap, .int .i64 k, .int .i64 c, .map (some b)], .bool true]) rfl (by kernel_rfl) (by kernel_rfl) (by kernel_rfl) (fun _ _ _ h => h) (Or.inl ⟨by kernel_rfl, fun w hSw => by (try dsimp only at hSw); go_simp; all_goals first | omega | exact IntWalk.i64_in _ (by omega)⟩) (by assumption) ?_
            refine wpAnyH_take (i := 10) (v := .agg #[.int .i64 p, .slice A l.length cap, .int .i64 k, .int .i64 c, .map (some b)]) rfl (by kernel_rfl) (by kernel_rfl) (by kernel_rfl) (fun _ _ _ h => h) (Or.inl ⟨by kernel_rfl, fun w hSw => by (try dsimp only at hSw); go_simp; all_goals first | omega | exact IntWalk.i64_in _ (by omega)⟩) (by assumption) ?_
            refine wpAnyH_take (i := 11) (v := .bool true) rfl (by kernel_rfl) (by kernel_rfl) (by kernel_rfl) (fun _ _ _ h => h) (Or.inl ⟨by kernel_rfl, fun w hSw => by (try dsimp only at hSw); go_simp; all_goals first | omega | exact IntWalk.i64_in _ (by omega)⟩) (by assumption) ?_
            refine wpAnyH_ready (rs := [13]) (by kernel_rfl) (by simp) (AllReadyH.cons rfl (fun K hK => ?_) AllReadyH.nil)
            have q0 := CB_8.out.cells.1
            have q1 := CB_8.out.cells.2.1
            have q2 := CB_8.out.cells.2.2.1
            have q3 := CB_8.out.cells.2.2.2.1
            have q4 := CB_8.out.cells.2.2.2.2
            have f0 := CB_8.out.frozen.1
            have f1 := CB_8.out.frozen.2.1
            have f2 := CB_8.out.frozen.2.2.1
            have f3 := CB_8.out.frozen.2.2.2.1
            have f4 := CB_8.out.frozen.2.2.2.2
            have hr := ret5 CB_8.out (.int .i64 p) (.slice A l.length cap) (.int .i64 k) (.int .i64 c) (.map (some b))
            have hw9 := hr.2
            have hbx9 : WD.heap.size ≤ w6_.heap.size := by have := ZS4.out; have := ZS6.out; omega
            have hbb := HBG.out
            have hbl8 := HBL8.out
            have hne : b ≠ w6_.heap.size := by have := YS12.out; have := ZS4.out; have := ZS6.out; have := ZS12.out; have := ZS7.out; have := ZS8.out; omega
            have HNE := Lib.hid (And.intro hbx9 hne)
            have HBI_13 := Lib.hid (HBI_8.out.within hw9 (by omega))
            have HBR_13 := Lib.hid (HBR_8.out.within hw9 (by omega))
            have HKX_13 := Lib.hid (HKX_8.out.within hw9 (by omega))
            have SM_13 := Lib.hid (SM_8.out.within hw9 (by omega))
            have BW_13 := Lib.hid (within_on BW_8.out hw9 BW_8.out.size (by omega))
            have CB_13 := Lib.hid hr.1
            clear hr hbx9 hne hbb hbl8
            go_simp
            clear q0 q1 q2 q3 q4 f0 f1 f2 f3 f4
            clear hw9
            refine hK.out _ _ HKX_13.out.2 (fun hHeld => ?_)
            clear hK K
            refine wpAnyH_ready (rs := [14]) (by kernel_rfl) (by simp) (AllReadyH.cons rfl (fun K hK => ?_) AllReadyH.nil)
            go_simp
            refine hK.out _ _ HKX_13.out.2 (fun hHeld => ?_)
            clear hK K
            refine wpAnyH_done (by kernel_rfl) ?_ _
            go_wp2_with fail
            go_meet
            case rel => (have hh1 := HD0.out.size; have hh2 := HNE.out.1; have hh3 := HBG.out; have hh4 := BW_13.out.size; have := ZS4.out; have := ZS6.out; have := ZS7.out; have := ZS8.out; have := ZS12.out; exact ⟨b, w6_.heap.size, rfl, rfl, CB_13.out, (by have h := SM_13.out; simpa using h), below_on HD0.out BW_13.out HD0.out.size, by omega, by omega, HNE.out.2⟩)
        · have hb12 := new_below w4_ (.cells #[.int .i64 0, .slice none 0 0, .int .i64 0, .int .i64 0, .map none] 128)
          have hw9 := within_of hb12
          have ZS12 := Lib.hid hb12.size
          have YS12 := Lib.hid (show (w4_.alloc (.cells #[.int .i64 0, .slice none 0 0, .int .i64 0, .int .i64 0, .map none] 128)).heap.size = w4_.heap.size + 1 by simp)
          have hcb := cel5_new w4_ (.int .i64 0) (.slice none 0 0) (.int .i64 0) (.int .i64 0) (.map none) 128
          have HBI_12 := Lib.hid (HBI_4.out.within hw9 (by omega))
          have HBR_12 := Lib.hid (HBR_4.out.within hw9 (by omega))
          have HKX_12 := Lib.hid (HKX_4.out.within hw9 (by omega))
          have R4_12 := Lib.hid (R4_4.out.within hw9 (by omega))
          have BW_12 := Lib.hid (within_on BW_4.out hw9 BW_4.out.size (by omega))
          have CB_12 := Lib.hid hcb
          clear hb12 hcb
          go_simp
          generalize (w4_.alloc (.cells #[.int .i64 0, .slice none 0 0, .int .i64 0, .int .i64 0, .map none] 128)) = w12_ at *
          clear hw9
          refine hK.out _ _ HKX_12.out.2 (fun hHeld => ?_)
          clear hK K
          refine wpAnyH_ready (rs := [6]) (by kernel_rfl) (by simp) (AllReadyH.cons rfl (fun K hK => ?_) AllReadyH.nil)
          have hb6 := new_below w12_ (.cells #[.int .i64 x] 3)
          have hw9 := within_of hb6
          have ZS6 := Lib.hid hb6.size
          have YS6 := Lib.hid (show (w12_.alloc (.cells #[.int .i64 x] 3)).heap.size = w12_.heap.size + 1 by simp)
          have hec : (w12_.alloc (.cells #[.int .i64 x] 3)).cell? ⟨w12_.heap.size, 0, none⟩ = some (.int .i64 x) := by rw [World.cell?_alloc_at _ _ _ _ rfl]; rfl
          have HBI_6 := Lib.hid (HBI_12.out.within hw9 (by omega))
          have HBR_6 := Lib.hid (HBR_12.out.within hw9 (by omega))
          have HKX_6 := Lib.hid (HKX_12.out.within hw9 (by omega))
          have R4_6 := Lib.hid (R4_12.out.within hw9 (by omega))
          have CB_6 := Lib.hid (CB_12.out.within hw9 (by have := YS12.out; have := ZS4.out; have := ZS12.out; omega))
          have BW_6 := Lib.hid (within_on BW_12.out hw9 BW_12.out.size (by omega))
          have E6_6 := Lib.hid (show CellW (w12_.alloc (.cells #[.int .i64 x] 3)) w12_.heap.size x from ⟨by simp, hec⟩)
          clear hb6 hec
          go_simp
          generalize (w12_.alloc (.cells #[.int .i64 x] 3)) = w6_ at *
          clear hw9
          refine hK.out _ _ HKX_6.out.2 (fun hHeld => ?_)
          clear hK K
          refine wpAnyH_ready (rs := [7]) (by kernel_rfl) (by simp) (AllReadyH.cons rfl (fun K hK => ?_) AllReadyH.nil)
          have hy6 := YS6.out
          have hz4 := ZS4.out
          refine step_pushE w6_ (by rfl) _ _ (by rfl) WD.heap.size w4_.heap.size A4 c4 B x w12_.heap.size (by rfl) R4_6.out (by rfl) E6_6.out.2 (by omega) (by have := ZS4.out; have := ZS12.out; have := ZS6.out; omega) ?_
          intro A7 c7 w7_ lo7 hi7 hr7 hd7 hw9
          have ZS7 := Lib.hid hw9.size
          have hzz : w6_.heap.size ≤ w7_.heap.size := hw9.size
          have hlo9 : WD.heap.size ≤ WD.heap.size := by omega
          have HBI_7 := Lib.hid (HBI_6.out.within hw9 (by omega))
          have HBR_7 := Lib.hid (HBR_6.out.within hw9 (by omega))
          have HKX_7 := Lib.hid (HKX_6.out.within hw9 (by omega))
          have CB_7 := Lib.hid (CB_6.out.within hw9 (by have := YS12.out; have := ZS4.out; have := ZS12.out; have := ZS6.out; omega))
          have BW_7 := Lib.hid (within_on BW_6.out hw9 BW_6.out.size (by omega))
          have hd8 : WD.heap.size ≤ lo7 := by have := ZS4.out; have := ZS12.out; have := ZS6.out; omega
          have HD8 := Lib.hid hd8
          have R7_7 := Lib.hid (show OwnRW w7_ lo7 hi7 A7 c7 (B ++ [x]) from hr7)
          have R7H := Lib.hid (show hi7 ≤ w7_.heap.size from hr7.1)
          clear hr7 hd7 hd8 hlo9 hy6 hz4 hzz
          clear hw9
          refine hK.out _ _ HKX_7.out.2 (fun hHeld => ?_)
          clear hK K
          refine wpAnyH_ready (rs := [8]) (by kernel_rfl) (by simp) (AllReadyH.cons rfl (fun K hK => ?_) AllReadyH.nil)
          go_simp
          go_at_call 134
          have hns := newSet_yes p k c l (B ++ [x]) A A7 cap c7 _ _ _ HBR_7.out.at R7_7.out.ints.reads hn (by simp; omega) HSET.out HRNG.out
          rw [List.length_append, List.length_singleton] at hns
          refine hns.mono ?_
          rintro e w8_ ⟨b, rfl, hset, hbge, hb8⟩
          have hw9 := within_of hb8
          have ZS8 := Lib.hid hb8.size
          have HBG := Lib.hid hbge
          have HBI_8 := Lib.hid (HBI_7.out.within hw9 (by omega))
          have HBR_8 := Lib.hid (HBR_7.out.within hw9 (by omega))
          have HKX_8 := Lib.hid (HKX_7.out.within hw9 (by omega))
          have CB_8 := Lib.hid (CB_7.out.within hw9 (by have := YS12.out; have := ZS4.out; have := ZS12.out; have := ZS6.out; have := ZS7.out; omega))
          have BW_8 := Lib.hid (within_on BW_7.out hw9 BW_7.out.size (by omega))
          have SM_8 := Lib.hid hset
          have HBL8 := Lib.hid hset.lt
          clear hset hbge hb8 hns
          clear hw9
          refine hK.out _ _ HKX_8.out.2 (fun hHeld => ?_)
          clear hK K
          refine wpAnyH_take (i := 9) (v := .tuple #[.agg #[.int .i64 p, .slice A l.length cap, .int .i64 k, .int .i64 c, .map (some b)], .bool true]) rfl (by kernel_rfl) (by kernel_rfl) (by kernel_rfl) (fun _ _ _ h => h) (Or.inl ⟨by kernel_rfl, fun w hSw => by (try dsimp only at hSw); go_simp; all_goals first | omega | exact IntWalk.i64_in _ (by omega)⟩) (by assumption) ?_
          refine wpAnyH_take (i := 10) (v := .agg #[.int .i64 p, .slice A l.length cap, .int .i64 k, .int .i64 c, .map (some b)]) rfl (by kernel_rfl) (by kernel_rfl) (by kernel_rfl) (fun _ _ _ h => h) (Or.inl ⟨by kernel_rfl, fun w hSw => by (try dsimp only at hSw); go_simp; all_goals first | omega | exact IntWalk.i64_in _ (by omega)⟩) (by assumption) ?_
          refine wpAnyH_take (i := 11) (v := .bool true) rfl (by kernel_rfl) (by kernel_rfl) (by kernel_rfl) (fun _ _ _ h => h) (Or.inl ⟨by kernel_rfl, fun w hSw => by (try dsimp only at hSw); go_simp; all_goals first | omega | exact IntWalk.i64_in _ (by omega)⟩) (by assumption) ?_
          refine wpAnyH_ready (rs := [13]) (by kernel_rfl) (by simp) (AllReadyH.cons rfl (fun K hK => ?_) AllReadyH.nil)
          have q0 := CB_8.out.cells.1
          have q1 := CB_8.out.cells.2.1
          have q2 := CB_8.out.cells.2.2.1
          have q3 := CB_8.out.cells.2.2.2.1
          have q4 := CB_8.out.cells.2.2.2.2
          have f0 := CB_8.out.frozen.1
          have f1 := CB_8.out.frozen.2.1
          have f2 := CB_8.out.frozen.2.2.1
          have f3 := CB_8.out.frozen.2.2.2.1
          have f4 := CB_8.out.frozen.2.2.2.2
          have hr := ret5 CB_8.out (.int .i64 p) (.slice A l.length cap) (.int .i64 k) (.int .i64 c) (.map (some b))
          have hw9 := hr.2
          have hbx9 : WD.heap.size ≤ w4_.heap.size := by have := ZS4.out; omega
          have hbb := HBG.out
          have hbl8 := HBL8.out
          have hne : b ≠ w4_.heap.size := by have := YS12.out; have := ZS4.out; have := ZS12.out; have := ZS6.out; have := ZS7.out; have := ZS8.out; omega
          have HNE := Lib.hid (And.intro hbx9 hne)
          have HBI_13 := Lib.hid (HBI_8.out.within hw9 (by omega))
          have HBR_13 := Lib.hid (HBR_8.out.within hw9 (by omega))
          have HKX_13 := Lib.hid (HKX_8.out.within hw9 (by omega))
          have SM_13 := Lib.hid (SM_8.out.within hw9 (by omega))
          have BW_13 := Lib.hid (within_on BW_8.out hw9 BW_8.out.size (by omega))
          have CB_13 := Lib.hid hr.1
          clear hr hbx9 hne hbb hbl8
          go_simp
          clear q0 q1 q2 q3 q4 f0 f1 f2 f3 f4
          clear hw9
          refine hK.out _ _ HKX_13.out.2 (fun hHeld => ?_)
          clear hK K
          refine wpAnyH_ready (rs := [14]) (by kernel_rfl) (by simp) (AllReadyH.cons rfl (fun K hK => ?_) AllReadyH.nil)
          go_simp
          refine hK.out _ _ HKX_13.out.2 (fun hHeld => ?_)
          clear hK K
          refine wpAnyH_done (by kernel_rfl) ?_ _
          go_wp2_with fail
          go_meet
          case rel => (have hh1 := HD0.out.size; have hh2 := HNE.out.1; have hh3 := HBG.out; have hh4 := BW_13.out.size; have := ZS4.out; have := ZS6.out; have := ZS7.out; have := ZS8.out; have := ZS12.out; exact ⟨b, w4_.heap.size, rfl, rfl, CB_13.out, (by have h := SM_13.out; simpa using h), below_on HD0.out BW_13.out HD0.out.size, by omega, by omega, HNE.out.2⟩)
      · have hb6 := new_below WD (.cells #[.int .i64 x] 3)
        have hw9 := within_of hb6
        have ZS6 := Lib.hid hb6.size
        have YS6 := Lib.hid (show (WD.alloc (.cells #[.int .i64 x] 3)).heap.size = WD.heap.size + 1 by simp)
        have hec : (WD.alloc (.cells #[.int .i64 x] 3)).cell? ⟨WD.heap.size, 0, none⟩ = some (.int .i64 x) := by rw [World.cell?_alloc_at _ _ _ _ rfl]; rfl
        have HBI_6 := Lib.hid (HBI.out.within hw9 (by omega))
        have HBR_6 := Lib.hid (HBR.out.within hw9 (by omega))
        have HKX_6 := Lib.hid (HKX.out.within hw9 (by omega))
        have BW_6 := Lib.hid (within_on BW.out hw9 BW.out.size (by omega))
        have E6_6 := Lib.hid (show CellW (WD.alloc (.cells #[.int .i64 x] 3)) WD.heap.size x from ⟨by simp, hec⟩)
        clear hb6 hec
        go_simp
        generalize (WD.alloc (.cells #[.int .i64 x] 3)) = w6_ at *
        clear hw9
        refine hK.out _ _ HKX_6.out.2 (fun hHeld => ?_)
        clear hK K
        refine wpAnyH_ready (rs := [4, 12]) (by kernel_rfl) (by simp) (AllReadyH.cons rfl (fun K hK => ?_) (AllReadyH.cons rfl (fun K hK => ?_) AllReadyH.nil))
        · go_simp
          go_at_call 146
          refine (slCloneR B AZ cZ _ _ _ HBI_6.out (by omega)).mono ?_
          rintro e w4_ ⟨A4, c4, rfl, hr4, hb4⟩
          have hw9 := within_of hb4
          have ZS4 := Lib.hid hb4.size
          have HBI_4 := Lib.hid (HBI_6.out.within hw9 (by omega))
          have HBR_4 := Lib.hid (HBR_6.out.within hw9 (by omega))
          have HKX_4 := Lib.hid (HKX_6.out.within hw9 (by omega))
          have E6_4 := Lib.hid (E6_6.out.within hw9 (by omega))
          have BW_4 := Lib.hid (within_on BW_6.out hw9 BW_6.out.size (by omega))
          have R4_4 := Lib.hid (show OwnRW w4_ w6_.heap.size w4_.heap.size A4 c4 B from hr4)
          clear hr4 hb4
          clear hw9
          refine hK.out _ _ HKX_4.out.2 (fun hHeld => ?_)
          clear hK K
          refine wpAnyH_ready (rs := [7, 12]) (by kernel_rfl) (by simp) (AllReadyH.cons rfl (fun K hK => ?_) (AllReadyH.cons rfl (fun K hK => ?_) AllReadyH.nil))
          · have hy6 := YS6.out
            have hz4 := ZS4.out
            refine step_pushE w4_ (by rfl) _ _ (by rfl) w6_.heap.size w4_.heap.size A4 c4 B x WD.heap.size (by rfl) R4_4.out (by rfl) E6_4.out.2 (by omega) (by have := ZS6.out; have := ZS4.out; omega) ?_
            intro A7 c7 w7_ lo7 hi7 hr7 hd7 hw9
            have ZS7 := Lib.hid hw9.size
            have hzz : w4_.heap.size ≤ w7_.heap.size := hw9.size
            have hlo9 : WD.heap.size ≤ w6_.heap.size := by have := ZS6.out; omega
            have HBI_7 := Lib.hid (HBI_4.out.within hw9 (by omega))
            have HBR_7 := Lib.hid (HBR_4.out.within hw9 (by omega))
            have HKX_7 := Lib.hid (HKX_4.out.within hw9 (by omega))
            have BW_7 := Lib.hid (within_on BW_4.out hw9 BW_4.out.size (by omega))
            have hd8 : WD.heap.size ≤ lo7 := by have := ZS6.out; have := ZS4.out; omega
            have HD8 := Lib.hid hd8
            have R7_7 := Lib.hid (show OwnRW w7_ lo7 hi7 A7 c7 (B ++ [x]) from hr7)
            have R7H := Lib.hid (show hi7 ≤ w7_.heap.size from hr7.1)
            clear hr7 hd7 hd8 hlo9 hy6 hz4 hzz
            clear hw9
            refine hK.out _ _ HKX_7.out.2 (fun hHeld => ?_)
            clear hK K
            refine wpAnyH_ready (rs := [8, 12]) (by kernel_rfl) (by simp) (AllReadyH.cons rfl (fun K hK => ?_) (AllReadyH.cons rfl (fun K hK => ?_) AllReadyH.nil))
            · go_simp
              go_at_call 134
              have hns := newSet_yes p k c l (B ++ [x]) A A7 cap c7 _ _ _ HBR_7.out.at R7_7.out.ints.reads hn (by simp; omega) HSET.out HRNG.out
              rw [List.length_append, List.length_singleton] at hns
              refine hns.mono ?_
              rintro e w8_ ⟨b, rfl, hset, hbge, hb8⟩
              have hw9 := within_of hb8
              have ZS8 := Lib.hid hb8.size
              have HBG := Lib.hid hbge
              have HBI_8 := Lib.hid (HBI_7.out.within hw9 (by omega))
              have HBR_8 := Lib.hid (HBR_7.out.within hw9 (by omega))
              have HKX_8 := Lib.hid (HKX_7.out.within hw9 (by omega))
              have BW_8 := Lib.hid (within_on BW_7.out hw9 BW_7.out.size (by omega))
              have SM_8 := Lib.hid hset
              have HBL8 := Lib.hid hset.lt
              clear hset hbge hb8 hns
              clear hw9
              refine hK.out _ _ HKX_8.out.2 (fun hHeld => ?_)
              clear hK K
              refine wpAnyH_take (i := 9) (v := .tuple #[.agg #[.int .i64 p, .slice A l.length cap, .int .i64 k, .int .i64 c, .map (some b)], .bool true]) rfl (by kernel_rfl) (by kernel_rfl) (by kernel_rfl) (fun _ _ _ h => h) (Or.inl ⟨by kernel_rfl, fun w hSw => by (try dsimp only at hSw); go_simp; all_goals first | omega | exact IntWalk.i64_in _ (by omega)⟩) (by assumption) ?_
              refine wpAnyH_take (i := 10) (v := .agg #[.int .i64 p, .slice A l.length cap, .int .i64 k, .int .i64 c, .map (some b)]) rfl (by kernel_rfl) (by kernel_rfl) (by kernel_rfl) (fun _ _ _ h => h) (Or.inl ⟨by kernel_rfl, fun w hSw => by (try dsimp only at hSw); go_simp; all_goals first | omega | exact IntWalk.i64_in _ (by omega)⟩) (by assumption) ?_
              refine wpAnyH_take (i := 11) (v := .bool true) rfl (by kernel_rfl) (by kernel_rfl) (by kernel_rfl) (fun _ _ _ h => h) (Or.inl ⟨by kernel_rfl, fun w hSw => by (try dsimp only at hSw); go_simp; all_goals first | omega | exact IntWalk.i64_in _ (by omega)⟩) (by assumption) ?_
              refine wpAnyH_ready (rs := [12]) (by kernel_rfl) (by simp) (AllReadyH.cons rfl (fun K hK => ?_) AllReadyH.nil)
              have hb12 := new_below w8_ (.cells #[.int .i64 0, .slice none 0 0, .int .i64 0, .int .i64 0, .map none] 128)
              have hw9 := within_of hb12
              have ZS12 := Lib.hid hb12.size
              have YS12 := Lib.hid (show (w8_.alloc (.cells #[.int .i64 0, .slice none 0 0, .int .i64 0, .int .i64 0, .map none] 128)).heap.size = w8_.heap.size + 1 by simp)
              have hcb := cel5_new w8_ (.int .i64 0) (.slice none 0 0) (.int .i64 0) (.int .i64 0) (.map none) 128
              have HBI_12 := Lib.hid (HBI_8.out.within hw9 (by omega))
              have HBR_12 := Lib.hid (HBR_8.out.within hw9 (by omega))
              have HKX_12 := Lib.hid (HKX_8.out.within hw9 (by omega))
              have SM_12 := Lib.hid (SM_8.out.within hw9 (by omega))
              have BW_12 := Lib.hid (within_on BW_8.out hw9 BW_8.out.size (by omega))
              have CB_12 := Lib.hid hcb
              clear hb12 hcb
              go_simp
              generalize (w8_.alloc (.cells #[.int .i64 0, .slice none 0 0, .int .i64 0, .int .i64 0, .map none] 128)) = w12_ at *
              clear hw9
              refine hK.out _ _ HKX_12.out.2 (fun hHeld => ?_)
              clear hK K
              refine wpAnyH_ready (rs := [13]) (by kernel_rfl) (by simp) (AllReadyH.cons rfl (fun K hK => ?_) AllReadyH.nil)
              have q0 := CB_12.out.cells.1
              have q1 := CB_12.out.cells.2.1
              have q2 := CB_12.out.cells.2.2.1
              have q3 := CB_12.out.cells.2.2.2.1
              have q4 := CB_12.out.cells.2.2.2.2
              have f0 := CB_12.out.frozen.1
              have f1 := CB_12.out.frozen.2.1
              have f2 := CB_12.out.frozen.2.2.1
              have f3 := CB_12.out.frozen.2.2.2.1
              have f4 := CB_12.out.frozen.2.2.2.2
              have hr := ret5 CB_12.out (.int .i64 p) (.slice A l.length cap) (.int .i64 k) (.int .i64 c) (.map (some b))
              have hw9 := hr.2
              have hbx9 : WD.heap.size ≤ w8_.heap.size := by have := ZS6.out; have := ZS4.out; have := ZS7.out; have := ZS8.out; omega
              have hbb := HBG.out
              have hbl8 := HBL8.out
              have hne : b ≠ w8_.heap.size := by have := YS12.out; have := ZS6.out; have := ZS4.out; have := ZS7.out; have := ZS8.out; have := ZS12.out; omega
              have HNE := Lib.hid (And.intro hbx9 hne)
              have HBI_13 := Lib.hid (HBI_12.out.within hw9 (by omega))
              have HBR_13 := Lib.hid (HBR_12.out.within hw9 (by omega))
              have HKX_13 := Lib.hid (HKX_12.out.within hw9 (by omega))
              have SM_13 := Lib.hid (SM_12.out.within hw9 (by omega))
              have BW_13 := Lib.hid (within_on BW_12.out hw9 BW_12.out.size (by omega))
              have CB_13 := Lib.hid hr.1
              clear hr hbx9 hne hbb hbl8
              go_simp
              clear q0 q1 q2 q3 q4 f0 f1 f2 f3 f4
              clear hw9
              refine hK.out _ _ HKX_13.out.2 (fun hHeld => ?_)
              clear hK K
              refine wpAnyH_ready (rs := [14]) (by kernel_rfl) (by simp) (AllReadyH.cons rfl (fun K hK => ?_) AllReadyH.nil)
              go_simp
              refine hK.out _ _ HKX_13.out.2 (fun hHeld => ?_)
              clear hK K
              refine wpAnyH_done (by kernel_rfl) ?_ _
              go_wp2_with fail
              go_meet
              case rel => (have hh1 := HD0.out.size; have hh2 := HNE.out.1; have hh3 := HBG.out; have hh4 := BW_13.out.size; have := ZS4.out; have := ZS6.out; have := ZS7.out; have := ZS8.out; have := ZS12.out; exact ⟨b, w8_.heap.size, rfl, rfl, CB_13.out, (by have h := SM_13.out; simpa using h), below_on HD0.out BW_13.out HD0.out.size, by omega, by omega, HNE.out.2⟩)
            · have hb12 := new_below w7_ (.cells #[.int .i64 0, .slice none 0 0, .int .i64 0, .int .i64 0, .map none] 128)
              have hw9 := within_of hb12
              have ZS12 := Lib.hid hb12.size
              have YS12 := Lib.hid (show (w7_.alloc (.cells #[.int .i64 0, .slice none 0 0, .int .i64 0, .int .i64 0, .map none] 128)).heap.size = w7_.heap.size + 1 by simp)
              have hcb := cel5_new w7_ (.int .i64 0) (.slice none 0 0) (.int .i64 0) (.int .i64 0) (.map none) 128
              have HBI_12 := Lib.hid (HBI_7.out.within hw9 (by omega))
              have HBR_12 := Lib.hid (HBR_7.out.within hw9 (by omega))
              have HKX_12 := Lib.hid (HKX_7.out.within hw9 (by omega))
              have R7_12 := Lib.hid (R7_7.out.within hw9 (by omega))
              have BW_12 := Lib.hid (within_on BW_7.out hw9 BW_7.out.size (by omega))
              have CB_12 := Lib.hid hcb
              clear hb12 hcb
              go_simp
              generalize (w7_.alloc (.cells #[.int .i64 0, .slice none 0 0, .int .i64 0, .int .i64 0, .map none] 128)) = w12_ at *
              clear hw9
              refine hK.out _ _ HKX_12.out.2 (fun hHeld => ?_)
              clear hK K
              refine wpAnyH_ready (rs := [8]) (by kernel_rfl) (by simp) (AllReadyH.cons rfl (fun K hK => ?_) AllReadyH.nil)
              go_simp
              go_at_call 134
              have hns := newSet_yes p k c l (B ++ [x]) A A7 cap c7 _ _ _ HBR_12.out.at R7_12.out.ints.reads hn (by simp; omega) HSET.out HRNG.out
              rw [List.length_append, List.length_singleton] at hns
              refine hns.mono ?_
              rintro e w8_ ⟨b, rfl, hset, hbge, hb8⟩
              have hw9 := within_of hb8
              have ZS8 := Lib.hid hb8.size
              have HBG := Lib.hid hbge
              have HBI_8 := Lib.hid (HBI_12.out.within hw9 (by omega))
              have HBR_8 := Lib.hid (HBR_12.out.within hw9 (by omega))
              have HKX_8 := Lib.hid (HKX_12.out.within hw9 (by omega))
              have CB_8 := Lib.hid (CB_12.out.within hw9 (by have := YS12.out; have := ZS6.out; have := ZS4.out; have := ZS7.out; have := ZS12.out; omega))
              have BW_8 := Lib.hid (within_on BW_12.out hw9 BW_12.out.size (by omega))
              have SM_8 := Lib.hid hset
              have HBL8 := Lib.hid hset.lt
              clear hset hbge hb8 hns
              clear hw9
              refine hK.out _ _ HKX_8.out.2 (fun hHeld => ?_)
              clear hK K
              refine wpAnyH_take (i := 9) (v := .tuple #[.agg #[.int .i64 p, .slice A l.length cap, .int .i64 k, .int .i64 c, .map (some b)], .bool true]) rfl (by kernel_rfl) (by kernel_rfl) (by kernel_rfl) (fun _ _ _ h => h) (Or.inl ⟨by kernel_rfl, fun w hSw => by (try dsimp only at hSw); go_simp; all_goals first | omega | exact IntWalk.i64_in _ (by omega)⟩) (by assumption) ?_
              refine wpAnyH_take (i := 10) (v := .agg #[.int .i64 p, .slice A l.length cap, .int .i64 k, .int .i64 c, .map (some b)]) rfl (by kernel_rfl) (by kernel_rfl) (by kernel_rfl) (fun _ _ _ h => h) (Or.inl ⟨by kernel_rfl, fun w hSw => by (try dsimp only at hSw); go_simp; all_goals first | omega | exact IntWalk.i64_in _ (by omega)⟩) (by assumption) ?_
              refine wpAnyH_take (i := 11) (v := .bool true) rfl (by kernel_rfl) (by kernel_rfl) (by kernel_rfl) (fun _ _ _ h => h) (Or.inl ⟨by kernel_rfl, fun w hSw => by (try dsimp only at hSw); go_simp; all_goals first | omega | exact IntWalk.i64_in _ (by omega)⟩) (by assumption) ?_
              refine wpAnyH_ready (rs := [13]) (by kernel_rfl) (by simp) (AllReadyH.cons rfl (fun K hK => ?_) AllReadyH.nil)
              have q0 := CB_8.out.cells.1
              have q1 := CB_8.out.cells.2.1
              have q2 := CB_8.out.cells.2.2.1
              have q3 := CB_8.out.cells.2.2.2.1
              have q4 := CB_8.out.cells.2.2.2.2
              have f0 := CB_8.out.frozen.1
              have f1 := CB_8.out.frozen.2.1
              have f2 := CB_8.out.frozen.2.2.1
              have f3 := CB_8.out.frozen.2.2.2.1
              have f4 := CB_8.out.frozen.2.2.2.2
              have hr := ret5 CB_8.out (.int .i64 p) (.slice A l.length cap) (.int .i64 k) (.int .i64 c) (.map (some b))
              have hw9 := hr.2
              have hbx9 : WD.heap.size ≤ w7_.heap.size := by have := ZS6.out; have := ZS4.out; have := ZS7.out; omega
              have hbb := HBG.out
              have hbl8 := HBL8.out
              have hne : b ≠ w7_.heap.size := by have := YS12.out; have := ZS6.out; have := ZS4.out; have := ZS7.out; have := ZS12.out; have := ZS8.out; omega
              have HNE := Lib.hid (And.intro hbx9 hne)
              have HBI_13 := Lib.hid (HBI_8.out.within hw9 (by omega))
              have HBR_13 := Lib.hid (HBR_8.out.within hw9 (by omega))
              have HKX_13 := Lib.hid (HKX_8.out.within hw9 (by omega))
              have SM_13 := Lib.hid (SM_8.out.within hw9 (by omega))
              have BW_13 := Lib.hid (within_on BW_8.out hw9 BW_8.out.size (by omega))
              have CB_13 := Lib.hid hr.1
              clear hr hbx9 hne hbb hbl8
              go_simp
              clear q0 q1 q2 q3 q4 f0 f1 f2 f3 f4
              clear hw9
              refine hK.out _ _ HKX_13.out.2 (fun hHeld => ?_)
              clear hK K
              refine wpAnyH_ready (rs := [14]) (by kernel_rfl) (by simp) (AllReadyH.cons rfl (fun K hK => ?_) AllReadyH.nil)
              go_simp
              refine hK.out _ _ HKX_13.out.2 (fun hHeld => ?_)
              clear hK K
              refine wpAnyH_done (by kernel_rfl) ?_ _
              go_wp2_with fail
              go_meet
              case rel => (have hh1 := HD0.out.size; have hh2 := HNE.out.1; have hh3 := HBG.out; have hh4 := BW_13.out.size; have := ZS4.out; have := ZS6.out; have := ZS7.out; have := ZS8.out; have := ZS12.out; exact ⟨b, w7_.heap.size, rfl, rfl, CB_13.out, (by have h := SM_13.out; simpa using h), below_on HD0.out BW_13.out HD0.out.size, by omega, by omega, HNE.out.2⟩)
          · have hb12 := new_below w4_ (.cells #[.int .i64 0, .slice none 0 0, .int .i64 0, .int .i64 0, .map none] 128)
            have hw9 := within_of hb12
            have ZS12 := Lib.hid hb12.size
            have YS12 := Lib.hid (show (w4_.alloc (.cells #[.int .i64 0, .slice none 0 0, .int .i64 0, .int .i64 0, .map none] 128)).heap.size = w4_.heap.size + 1 by simp)
            have hcb := cel5_new w4_ (.int .i64 0) (.slice none 0 0) (.int .i64 0) (.int .i64 0) (.map none) 128
            have HBI_12 := Lib.hid (HBI_4.out.within hw9 (by omega))
            have HBR_12 := Lib.hid (HBR_4.out.within hw9 (by omega))
            have HKX_12 := Lib.hid (HKX_4.out.within hw9 (by omega))
            have R4_12 := Lib.hid (R4_4.out.within hw9 (by omega))
            have E6_12 := Lib.hid (E6_4.out.within hw9 (by omega))
            have BW_12 := Lib.hid (within_on BW_4.out hw9 BW_4.out.size (by omega))
            have CB_12 := Lib.hid hcb
            clear hb12 hcb
            go_simp
            generalize (w4_.alloc (.cells #[.int .i64 0, .slice none 0 0, .int .i64 0, .int .i64 0, .map none] 128)) = w12_ at *
            clear hw9
            refine hK.out _ _ HKX_12.out.2 (fun hHeld => ?_)
            clear hK K
            refine wpAnyH_ready (rs := [7]) (by kernel_rfl) (by simp) (AllReadyH.cons rfl (fun K hK => ?_) AllReadyH.nil)
            have hy6 := YS6.out
            have hz4 := ZS4.out
            refine step_pushE w12_ (by rfl) _ _ (by rfl) w6_.heap.size w4_.heap.size A4 c4 B x WD.heap.size (by rfl) R4_12.out (by rfl) E6_12.out.2 (by omega) (by have := ZS6.out; have := ZS4.out; have := ZS12.out; omega) ?_
            intro A7 c7 w7_ lo7 hi7 hr7 hd7 hw9
            have ZS7 := Lib.hid hw9.size
            have hzz : w12_.heap.size ≤ w7_.heap.size := hw9.size
            have hlo9 : WD.heap.size ≤ w6_.heap.size := by have := ZS6.out; omega
            have HBI_7 := Lib.hid (HBI_12.out.within hw9 (by omega))
            have HBR_7 := Lib.hid (HBR_12.out.within hw9 (by omega))
            have HKX_7 := Lib.hid (HKX_12.out.within hw9 (by omega))
            have CB_7 := Lib.hid (CB_12.out.within hw9 (by have := YS12.out; have := ZS6.out; have := ZS4.out; have := ZS12.out; omega))
            have BW_7 := Lib.hid (within_on BW_12.out hw9 BW_12.out.size (by omega))
            have hd8 : WD.heap.size ≤ lo7 := by have := ZS6.out; have := ZS4.out; have := ZS12.out; omega
            have HD8 := Lib.hid hd8
            have R7_7 := Lib.hid (show OwnRW w7_ lo7 hi7 A7 c7 (B ++ [x]) from hr7)
            have R7H := Lib.hid (show hi7 ≤ w7_.heap.size from hr7.1)
            clear hr7 hd7 hd8 hlo9 hy6 hz4 hzz
            clear hw9
            refine hK.out _ _ HKX_7.out.2 (fun hHeld => ?_)
            clear hK K
            refine wpAnyH_ready (rs := [8]) (by kernel_rfl) (by simp) (AllReadyH.cons rfl (fun K hK => ?_) AllReadyH.nil)
            go_simp
            go_at_call 134
            have hns := newSet_yes p k c l (B ++ [x]) A A7 cap c7 _ _ _ HBR_7.out.at R7_7.out.ints.reads hn (by simp; omega) HSET.out HRNG.out
            rw [List.length_append, List.length_singleton] at hns
            refine hns.mono ?_
            rintro e w8_ ⟨b, rfl, hset, hbge, hb8⟩
            have hw9 := within_of hb8
            have ZS8 := Lib.hid hb8.size
            have HBG := Lib.hid hbge
            have HBI_8 := Lib.hid (HBI_7.out.within hw9 (by omega))
            have HBR_8 := Lib.hid (HBR_7.out.within hw9 (by omega))
            have HKX_8 := Lib.hid (HKX_7.out.within hw9 (by omega))
            have CB_8 := Lib.hid (CB_7.out.within hw9 (by have := YS12.out; have := ZS6.out; have := ZS4.out; have := ZS12.out; have := ZS7.out; omega))
            have BW_8 := Lib.hid (within_on BW_7.out hw9 BW_7.out.size (by omega))
            have SM_8 := Lib.hid hset
            have HBL8 := Lib.hid hset.lt
            clear hset hbge hb8 hns
            clear hw9
            refine hK.out _ _ HKX_8.out.2 (fun hHeld => ?_)
            clear hK K
            refine wpAnyH_take (i := 9) (v := .tuple #[.agg #[.int .i64 p, .slice A l.length cap, .int .i64 k, .int .i64 c, .map (some b)], .bool true]) rfl (by kernel_rfl) (by kernel_rfl) (by kernel_rfl) (fun _ _ _ h => h) (Or.inl ⟨by kernel_rfl, fun w hSw => by (try dsimp only at hSw); go_simp; all_goals first | omega | exact IntWalk.i64_in _ (by omega)⟩) (by assumption) ?_
            refine wpAnyH_take (i := 10) (v := .agg #[.int .i64 p, .slice A l.length cap, .int .i64 k, .int .i64 c, .map (some b)]) rfl (by kernel_rfl) (by kernel_rfl) (by kernel_rfl) (fun _ _ _ h => h) (Or.inl ⟨by kernel_rfl, fun w hSw => by (try dsimp only at hSw); go_simp; all_goals first | omega | exact IntWalk.i64_in _ (by omega)⟩) (by assumption) ?_
            refine wpAnyH_take (i := 11) (v := .bool true) rfl (by kernel_rfl) (by kernel_rfl) (by kernel_rfl) (fun _ _ _ h => h) (Or.inl ⟨by kernel_rfl, fun w hSw => by (try dsimp only at hSw); go_simp; all_goals first | omega | exact IntWalk.i64_in _ (by omega)⟩) (by assumption) ?_
            refine wpAnyH_ready (rs := [13]) (by kernel_rfl) (by simp) (AllReadyH.cons rfl (fun K hK => ?_) AllReadyH.nil)
            have q0 := CB_8.out.cells.1
            have q1 := CB_8.out.cells.2.1
            have q2 := CB_8.out.cells.2.2.1
            have q3 := CB_8.out.cells.2.2.2.1
            have q4 := CB_8.out.cells.2.2.2.2
            have f0 := CB_8.out.frozen.1
            have f1 := CB_8.out.frozen.2.1
            have f2 := CB_8.out.frozen.2.2.1
            have f3 := CB_8.out.frozen.2.2.2.1
            have f4 := CB_8.out.frozen.2.2.2.2
            have hr := ret5 CB_8.out (.int .i64 p) (.slice A l.length cap) (.int .i64 k) (.int .i64 c) (.map (some b))
            have hw9 := hr.2
            have hbx9 : WD.heap.size ≤ w4_.heap.size := by have := ZS6.out; have := ZS4.out; omega
            have hbb := HBG.out
            have hbl8 := HBL8.out
            have hne : b ≠ w4_.heap.size := by have := YS12.out; have := ZS6.out; have := ZS4.out; have := ZS12.out; have := ZS7.out; have := ZS8.out; omega
            have HNE := Lib.hid (And.intro hbx9 hne)
            have HBI_13 := Lib.hid (HBI_8.out.within hw9 (by omega))
            have HBR_13 := Lib.hid (HBR_8.out.within hw9 (by omega))
            have HKX_13 := Lib.hid (HKX_8.out.within hw9 (by omega))
            have SM_13 := Lib.hid (SM_8.out.within hw9 (by omega))
            have BW_13 := Lib.hid (within_on BW_8.out hw9 BW_8.out.size (by omega))
            have CB_13 := Lib.hid hr.1
            clear hr hbx9 hne hbb hbl8
            go_simp
            clear q0 q1 q2 q3 q4 f0 f1 f2 f3 f4
            clear hw9
            refine hK.out _ _ HKX_13.out.2 (fun hHeld => ?_)
            clear hK K
            refine wpAnyH_ready (rs := [14]) (by kernel_rfl) (by simp) (AllReadyH.cons rfl (fun K hK => ?_) AllReadyH.nil)
            go_simp
            refine hK.out _ _ HKX_13.out.2 (fun hHeld => ?_)
            clear hK K
            refine wpAnyH_done (by kernel_rfl) ?_ _
            go_wp2_with fail
            go_meet
            case rel => (have hh1 := HD0.out.size; have hh2 := HNE.out.1; have hh3 := HBG.out; have hh4 := BW_13.out.size; have := ZS4.out; have := ZS6.out; have := ZS7.out; have := ZS8.out; have := ZS12.out; exact ⟨b, w4_.heap.size, rfl, rfl, CB_13.out, (by have h := SM_13.out; simpa using h), below_on HD0.out BW_13.out HD0.out.size, by omega, by omega, HNE.out.2⟩)
        · have hb12 := new_below w6_ (.cells #[.int .i64 0, .slice none 0 0, .int .i64 0, .int .i64 0, .map none] 128)
          have hw9 := within_of hb12
          have ZS12 := Lib.hid hb12.size
          have YS12 := Lib.hid (show (w6_.alloc (.cells #[.int .i64 0, .slice none 0 0, .int .i64 0, .int .i64 0, .map none] 128)).heap.size = w6_.heap.size + 1 by simp)
          have hcb := cel5_new w6_ (.int .i64 0) (.slice none 0 0) (.int .i64 0) (.int .i64 0) (.map none) 128
          have HBI_12 := Lib.hid (HBI_6.out.within hw9 (by omega))
          have HBR_12 := Lib.hid (HBR_6.out.within hw9 (by omega))
          have HKX_12 := Lib.hid (HKX_6.out.within hw9 (by omega))
          have E6_12 := Lib.hid (E6_6.out.within hw9 (by omega))
          have BW_12 := Lib.hid (within_on BW_6.out hw9 BW_6.out.size (by omega))
          have CB_12 := Lib.hid hcb
          clear hb12 hcb
          go_simp
          generalize (w6_.alloc (.cells #[.int .i64 0, .slice none 0 0, .int .i64 0, .int .i64 0, .map none] 128)) = w12_ at *
          clear hw9
          refine hK.out _ _ HKX_12.out.2 (fun hHeld => ?_)
          clear hK K
          refine wpAnyH_ready (rs := [4]) (by kernel_rfl) (by simp) (AllReadyH.cons rfl (fun K hK => ?_) AllReadyH.nil)
          go_simp
          go_at_call 146
          refine (slCloneR B AZ cZ _ _ _ HBI_12.out (by omega)).mono ?_
          rintro e w4_ ⟨A4, c4, rfl, hr4, hb4⟩
          have hw9 := within_of hb4
          have ZS4 := Lib.hid hb4.size
          have HBI_4 := Lib.hid (HBI_12.out.within hw9 (by omega))
          have HBR_4 := Lib.hid (HBR_12.out.within hw9 (by omega))
          have HKX_4 := Lib.hid (HKX_12.out.within hw9 (by omega))
          have E6_4 := Lib.hid (E6_12.out.within hw9 (by omega))
          have CB_4 := Lib.hid (CB_12.out.within hw9 (by have := YS12.out; have := ZS6.out; have := ZS12.out; omega))
          have BW_4 := Lib.hid (within_on BW_12.out hw9 BW_12.out.size (by omega))
          have R4_4 := Lib.hid (show OwnRW w4_ w12_.heap.size w4_.heap.size A4 c4 B from hr4)
          clear hr4 hb4
          clear hw9
          refine hK.out _ _ HKX_4.out.2 (fun hHeld => ?_)
          clear hK K
          refine wpAnyH_ready (rs := [7]) (by kernel_rfl) (by simp) (AllReadyH.cons rfl (fun K hK => ?_) AllReadyH.nil)
          have hy6 := YS6.out
          have hz4 := ZS4.out
          refine step_pushE w4_ (by rfl) _ _ (by rfl) w12_.heap.size w4_.heap.size A4 c4 B x WD.heap.size (by rfl) R4_4.out (by rfl) E6_4.out.2 (by omega) (by have := ZS6.out; have := ZS12.out; have := ZS4.out; omega) ?_
          intro A7 c7 w7_ lo7 hi7 hr7 hd7 hw9
          have ZS7 := Lib.hid hw9.size
          have hzz : w4_.heap.size ≤ w7_.heap.size := hw9.size
          have hlo9 : WD.heap.size ≤ w12_.heap.size := by have := ZS6.out; have := ZS12.out; omega
          have HBI_7 := Lib.hid (HBI_4.out.within hw9 (by omega))
          have HBR_7 := Lib.hid (HBR_4.out.within hw9 (by omega))
          have HKX_7 := Lib.hid (HKX_4.out.within hw9 (by omega))
          have CB_7 := Lib.hid (CB_4.out.within hw9 (by have := YS12.out; have := ZS6.out; have := ZS12.out; have := ZS4.out; omega))
          have BW_7 := Lib.hid (within_on BW_4.out hw9 BW_4.out.size (by omega))
          have hd8 : WD.heap.size ≤ lo7 := by have := ZS6.out; have := ZS12.out; have := ZS4.out; omega
          have HD8 := Lib.hid hd8
          have R7_7 := Lib.hid (show OwnRW w7_ lo7 hi7 A7 c7 (B ++ [x]) from hr7)
          have R7H := Lib.hid (show hi7 ≤ w7_.heap.size from hr7.1)
          clear hr7 hd7 hd8 hlo9 hy6 hz4 hzz
          clear hw9
          refine hK.out _ _ HKX_7.out.2 (fun hHeld => ?_)
          clear hK K
          refine wpAnyH_ready (rs := [8]) (by kernel_rfl) (by simp) (AllReadyH.cons rfl (fun K hK => ?_) AllReadyH.nil)
          go_simp
          go_at_call 134
          have hns := newSet_yes p k c l (B ++ [x]) A A7 cap c7 _ _ _ HBR_7.out.at R7_7.out.ints.reads hn (by simp; omega) HSET.out HRNG.out
          rw [List.length_append, List.length_singleton] at hns
          refine hns.mono ?_
          rintro e w8_ ⟨b, rfl, hset, hbge, hb8⟩
          have hw9 := within_of hb8
          have ZS8 := Lib.hid hb8.size
          have HBG := Lib.hid hbge
          have HBI_8 := Lib.hid (HBI_7.out.within hw9 (by omega))
          have HBR_8 := Lib.hid (HBR_7.out.within hw9 (by omega))
          have HKX_8 := Lib.hid (HKX_7.out.within hw9 (by omega))
          have CB_8 := Lib.hid (CB_7.out.within hw9 (by have := YS12.out; have := ZS6.out; have := ZS12.out; have := ZS4.out; have := ZS7.out; omega))
          have BW_8 := Lib.hid (within_on BW_7.out hw9 BW_7.out.size (by omega))
          have SM_8 := Lib.hid hset
          have HBL8 := Lib.hid hset.lt
          clear hset hbge hb8 hns
          clear hw9
          refine hK.out _ _ HKX_8.out.2 (fun hHeld => ?_)
          clear hK K
          refine wpAnyH_take (i := 9) (v := .tuple #[.agg #[.int .i64 p, .slice A l.length cap, .int .i64 k, .int .i64 c, .map (some b)], .bool true]) rfl (by kernel_rfl) (by kernel_rfl) (by kernel_rfl) (fun _ _ _ h => h) (Or.inl ⟨by kernel_rfl, fun w hSw => by (try dsimp only at hSw); go_simp; all_goals first | omega | exact IntWalk.i64_in _ (by omega)⟩) (by assumption) ?_
          refine wpAnyH_take (i := 10) (v := .agg #[.int .i64 p, .slice A l.length cap, .int .i64 k, .int .i64 c, .map (some b)]) rfl (by kernel_rfl) (by kernel_rfl) (by kernel_rfl) (fun _ _ _ h => h) (Or.inl ⟨by kernel_rfl, fun w hSw => by (try dsimp only at hSw); go_simp; all_goals first | omega | exact IntWalk.i64_in _ (by omega)⟩) (by assumption) ?_
          refine wpAnyH_take (i := 11) (v := .bool true) rfl (by kernel_rfl) (by kernel_rfl) (by kernel_rfl) (fun _ _ _ h => h) (Or.inl ⟨by kernel_rfl, fun w hSw => by (try dsimp only at hSw); go_simp; all_goals first | omega | exact IntWalk.i64_in _ (by omega)⟩) (by assumption) ?_
          refine wpAnyH_ready (rs := [13]) (by kernel_rfl) (by simp) (AllReadyH.cons rfl (fun K hK => ?_) AllReadyH.nil)
          have q0 := CB_8.out.cells.1
          have q1 := CB_8.out.cells.2.1
          have q2 := CB_8.out.cells.2.2.1
          have q3 := CB_8.out.cells.2.2.2.1
          have q4 := CB_8.out.cells.2.2.2.2
          have f0 := CB_8.out.frozen.1
          have f1 := CB_8.out.frozen.2.1
          have f2 := CB_8.out.frozen.2.2.1
          have f3 := CB_8.out.frozen.2.2.2.1
          have f4 := CB_8.out.frozen.2.2.2.2
          have hr := ret5 CB_8.out (.int .i64 p) (.slice A l.length cap) (.int .i64 k) (.int .i64 c) (.map (some b))
          have hw9 := hr.2
          have hbx9 : WD.heap.size ≤ w6_.heap.size := by have := ZS6.out; omega
          have hbb := HBG.out
          have hbl8 := HBL8.out
          have hne : b ≠ w6_.heap.size := by have := YS12.out; have := ZS6.out; have := ZS12.out; have := ZS4.out; have := ZS7.out; have := ZS8.out; omega
          have HNE := Lib.hid (And.intro hbx9 hne)
          have HBI_13 := Lib.hid (HBI_8.out.within hw9 (by omega))
          have HBR_13 := Lib.hid (HBR_8.out.within hw9 (by omega))
          have HKX_13 := Lib.hid (HKX_8.out.within hw9 (by omega))
          have SM_13 := Lib.hid (SM_8.out.within hw9 (by omega))
          have BW_13 := Lib.hid (within_on BW_8.out hw9 BW_8.out.size (by omega))
          have CB_13 := Lib.hid hr.1
          clear hr hbx9 hne hbb hbl8
          go_simp
          clear q0 q1 q2 q3 q4 f0 f1 f2 f3 f4
          clear hw9
          refine hK.out _ _ HKX_13.out.2 (fun hHeld => ?_)
          clear hK K
          refine wpAnyH_ready (rs := [14]) (by kernel_rfl) (by simp) (AllReadyH.cons rfl (fun K hK => ?_) AllReadyH.nil)
          go_simp
          refine hK.out _ _ HKX_13.out.2 (fun hHeld => ?_)
          clear hK K
          refine wpAnyH_done (by kernel_rfl) ?_ _
          go_wp2_with fail
          go_meet
          case rel => (have hh1 := HD0.out.size; have hh2 := HNE.out.1; have hh3 := HBG.out; have hh4 := BW_13.out.size; have := ZS4.out; have := ZS6.out; have := ZS7.out; have := ZS8.out; have := ZS12.out; exact ⟨b, w6_.heap.size, rfl, rfl, CB_13.out, (by have h := SM_13.out; simpa using h), below_on HD0.out BW_13.out HD0.out.size, by omega, by omega, HNE.out.2⟩)
      · have hb12 := new_below WD (.cells #[.int .i64 0, .slice none 0 0, .int .i64 0, .int .i64 0, .map none] 128)
        have hw9 := within_of hb12
        have ZS12 := Lib.hid hb12.size
        have YS12 := Lib.hid (show (WD.alloc (.cells #[.int .i64 0, .slice none 0 0, .int .i64 0, .int .i64 0, .map none] 128)).heap.size = WD.heap.size + 1 by simp)
        have hcb := cel5_new WD (.int .i64 0) (.slice none 0 0) (.int .i64 0) (.int .i64 0) (.map none) 128
        have HBI_12 := Lib.hid (HBI.out.within hw9 (by omega))
        have HBR_12 := Lib.hid (HBR.out.within hw9 (by omega))
        have HKX_12 := Lib.hid (HKX.out.within hw9 (by omega))
        have BW_12 := Lib.hid (within_on BW.out hw9 BW.out.size (by omega))
        have CB_12 := Lib.hid hcb
        clear hb12 hcb
        go_simp
        generalize (WD.alloc (.cells #[.int .i64 0, .slice none 0 0, .int .i64 0, .int .i64 0, .map none] 128)) = w12_ at *
        clear hw9
        refine hK.out _ _ HKX_12.out.2 (fun hHeld => ?_)
        clear hK K
        refine wpAnyH_ready (rs := [4, 6]) (by kernel_rfl) (by simp) (AllReadyH.cons rfl (fun K hK => ?_) (AllReadyH.cons rfl (fun K hK => ?_) AllReadyH.nil))
        · go_simp
          go_at_call 146
          refine (slCloneR B AZ cZ _ _ _ HBI_12.out (by omega)).mono ?_
          rintro e w4_ ⟨A4, c4, rfl, hr4, hb4⟩
          have hw9 := within_of hb4
          have ZS4 := Lib.hid hb4.size
          have HBI_4 := Lib.hid (HBI_12.out.within hw9 (by omega))
          have HBR_4 := Lib.hid (HBR_12.out.within hw9 (by omega))
          have HKX_4 := Lib.hid (HKX_12.out.within hw9 (by omega))
          have CB_4 := Lib.hid (CB_12.out.within hw9 (by have := YS12.out; have := ZS12.out; omega))
          have BW_4 := Lib.hid (within_on BW_12.out hw9 BW_12.out.size (by omega))
          have R4_4 := Lib.hid (show OwnRW w4_ w12_.heap.size w4_.heap.size A4 c4 B from hr4)
          clear hr4 hb4
          clear hw9
          refine hK.out _ _ HKX_4.out.2 (fun hHeld => ?_)
          clear hK K
          refine wpAnyH_ready (rs := [6]) (by kernel_rfl) (by simp) (AllReadyH.cons rfl (fun K hK => ?_) AllReadyH.nil)
          have hb6 := new_below w4_ (.cells #[.int .i64 x] 3)
          have hw9 := within_of hb6
          have ZS6 := Lib.hid hb6.size
          have YS6 := Lib.hid (show (w4_.alloc (.cells #[.int .i64 x] 3)).heap.size = w4_.heap.size + 1 by simp)
          have hec : (w4_.alloc (.cells #[.int .i64 x] 3)).cell? ⟨w4_.heap.size, 0, none⟩ = some (.int .i64 x) := by rw [World.cell?_alloc_at _ _ _ _ rfl]; rfl
          have HBI_6 := Lib.hid (HBI_4.out.within hw9 (by omega))
          have HBR_6 := Lib.hid (HBR_4.out.within hw9 (by omega))
          have HKX_6 := Lib.hid (HKX_4.out.within hw9 (by omega))
          have R4_6 := Lib.hid (R4_4.out.within hw9 (by omega))
          have CB_6 := Lib.hid (CB_4.out.within hw9 (by have := YS12.out; have := ZS12.out; have := ZS4.out; omega))
          have BW_6 := Lib.hid (within_on BW_4.out hw9 BW_4.out.size (by omega))
          have E6_6 := Lib.hid (show CellW (w4_.alloc (.cells #[.int .i64 x] 3)) w4_.heap.size x from ⟨by simp, hec⟩)
          clear hb6 hec
          go_simp
          generalize (w4_.alloc (.cells #[.int .i64 x] 3)) = w6_ at *
          clear hw9
          refine hK.out _ _ HKX_6.out.2 (fun hHeld => ?_)
          clear hK K
          refine wpAnyH_ready (rs := [7]) (by kernel_rfl) (by simp) (AllReadyH.cons rfl (fun K hK => ?_) AllReadyH.nil)
          have hy6 := YS6.out
          have hz4 := ZS4.out
          refine step_pushE w6_ (by rfl) _ _ (by rfl) w12_.heap.size w4_.heap.size A4 c4 B x w4_.heap.size (by rfl) R4_6.out (by rfl) E6_6.out.2 (by omega) (by have := ZS12.out; have := ZS4.out; have := ZS6.out; omega) ?_
          intro A7 c7 w7_ lo7 hi7 hr7 hd7 hw9
          have ZS7 := Lib.hid hw9.size
          have hzz : w6_.heap.size ≤ w7_.heap.size := hw9.size
          have hlo9 : WD.heap.size ≤ w12_.heap.size := by have := ZS12.out; omega
          have HBI_7 := Lib.hid (HBI_6.out.within hw9 (by omega))
          have HBR_7 := Lib.hid (HBR_6.out.within hw9 (by omega))
          have HKX_7 := Lib.hid (HKX_6.out.within hw9 (by omega))
          have CB_7 := Lib.hid (CB_6.out.within hw9 (by have := YS12.out; have := ZS12.out; have := ZS4.out; have := ZS6.out; omega))
          have BW_7 := Lib.hid (within_on BW_6.out hw9 BW_6.out.size (by omega))
          have hd8 : WD.heap.size ≤ lo7 := by have := ZS12.out; have := ZS4.out; have := ZS6.out; omega
          have HD8 := Lib.hid hd8
          have R7_7 := Lib.hid (show OwnRW w7_ lo7 hi7 A7 c7 (B ++ [x]) from hr7)
          have R7H := Lib.hid (show hi7 ≤ w7_.heap.size from hr7.1)
          clear hr7 hd7 hd8 hlo9 hy6 hz4 hzz
          clear hw9
          refine hK.out _ _ HKX_7.out.2 (fun hHeld => ?_)
          clear hK K
          refine wpAnyH_ready (rs := [8]) (by kernel_rfl) (by simp) (AllReadyH.cons rfl (fun K hK => ?_) AllReadyH.nil)
          go_simp
          go_at_call 134
          have hns := newSet_yes p k c l (B ++ [x]) A A7 cap c7 _ _ _ HBR_7.out.at R7_7.out.ints.reads hn (by simp; omega) HSET.out HRNG.out
          rw [List.length_append, List.length_singleton] at hns
          refine hns.mono ?_
          rintro e w8_ ⟨b, rfl, hset, hbge, hb8⟩
          have hw9 := within_of hb8
          have ZS8 := Lib.hid hb8.size
          have HBG := Lib.hid hbge
          have HBI_8 := Lib.hid (HBI_7.out.within hw9 (by omega))
          have HBR_8 := Lib.hid (HBR_7.out.within hw9 (by omega))
          have HKX_8 := Lib.hid (HKX_7.out.within hw9 (by omega))
          have CB_8 := Lib.hid (CB_7.out.within hw9 (by have := YS12.out; have := ZS12.out; have := ZS4.out; have := ZS6.out; have := ZS7.out; omega))
          have BW_8 := Lib.hid (within_on BW_7.out hw9 BW_7.out.size (by omega))
          have SM_8 := Lib.hid hset
          have HBL8 := Lib.hid hset.lt
          clear hset hbge hb8 hns
          clear hw9
          refine hK.out _ _ HKX_8.out.2 (fun hHeld => ?_)
          clear hK K
          refine wpAnyH_take (i := 9) (v := .tuple #[.agg #[.int .i64 p, .slice A l.length cap, .int .i64 k, .int .i64 c, .map (some b)], .bool true]) rfl (by kernel_rfl) (by kernel_rfl) (by kernel_rfl) (fun _ _ _ h => h) (Or.inl ⟨by kernel_rfl, fun w hSw => by (try dsimp only at hSw); go_simp; all_goals first | omega | exact IntWalk.i64_in _ (by omega)⟩) (by assumption) ?_
          refine wpAnyH_take (i := 10) (v := .agg #[.int .i64 p, .slice A l.length cap, .int .i64 k, .int .i64 c, .map (some b)]) rfl (by kernel_rfl) (by kernel_rfl) (by kernel_rfl) (fun _ _ _ h => h) (Or.inl ⟨by kernel_rfl, fun w hSw => by (try dsimp only at hSw); go_simp; all_goals first | omega | exact IntWalk.i64_in _ (by omega)⟩) (by assumption) ?_
          refine wpAnyH_take (i := 11) (v := .bool true) rfl (by kernel_rfl) (by kernel_rfl) (by kernel_rfl) (fun _ _ _ h => h) (Or.inl ⟨by kernel_rfl, fun w hSw => by (try dsimp only at hSw); go_simp; all_goals first | omega | exact IntWalk.i64_in _ (by omega)⟩) (by assumption) ?_
          refine wpAnyH_ready (rs := [13]) (by kernel_rfl) (by simp) (AllReadyH.cons rfl (fun K hK => ?_) AllReadyH.nil)
          have q0 := CB_8.out.cells.1
          have q1 := CB_8.out.cells.2.1
          have q2 := CB_8.out.cells.2.2.1
          have q3 := CB_8.out.cells.2.2.2.1
          have q4 := CB_8.out.cells.2.2.2.2
          have f0 := CB_8.out.frozen.1
          have f1 := CB_8.out.frozen.2.1
          have f2 := CB_8.out.frozen.2.2.1
          have f3 := CB_8.out.frozen.2.2.2.1
          have f4 := CB_8.out.frozen.2.2.2.2
          have hr := ret5 CB_8.out (.int .i64 p) (.slice A l.length cap) (.int .i64 k) (.int .i64 c) (.map (some b))
          have hw9 := hr.2
          have hbx9 : WD.heap.size ≤ WD.heap.size := by omega
          have hbb := HBG.out
          have hbl8 := HBL8.out
          have hne : b ≠ WD.heap.size := by have := YS12.out; have := ZS12.out; have := ZS4.out; have := ZS6.out; have := ZS7.out; have := ZS8.out; omega
          have HNE := Lib.hid (And.intro hbx9 hne)
          have HBI_13 := Lib.hid (HBI_8.out.within hw9 (by omega))
          have HBR_13 := Lib.hid (HBR_8.out.within hw9 (by omega))
          have HKX_13 := Lib.hid (HKX_8.out.within hw9 (by omega))
          have SM_13 := Lib.hid (SM_8.out.within hw9 (by omega))
          have BW_13 := Lib.hid (within_on BW_8.out hw9 BW_8.out.size (by omega))
          have CB_13 := Lib.hid hr.1
          clear hr hbx9 hne hbb hbl8
          go_simp
          clear q0 q1 q2 q3 q4 f0 f1 f2 f3 f4
          clear hw9
          refine hK.out _ _ HKX_13.out.2 (fun hHeld => ?_)
          clear hK K
          refine wpAnyH_ready (rs := [14]) (by kernel_rfl) (by simp) (AllReadyH.cons rfl (fun K hK => ?_) AllReadyH.nil)
          go_simp
          refine hK.out _ _ HKX_13.out.2 (fun hHeld => ?_)
          clear hK K
          refine wpAnyH_done (by kernel_rfl) ?_ _
          go_wp2_with fail
          go_meet
          case rel => (have hh1 := HD0.out.size; have hh2 := HNE.out.1; have hh3 := HBG.out; have hh4 := BW_13.out.size; have := ZS4.out; have := ZS6.out; have := ZS7.out; have := ZS8.out; have := ZS12.out; exact ⟨b, WD.heap.size, rfl, rfl, CB_13.out, (by have h := SM_13.out; simpa using h), below_on HD0.out BW_13.out HD0.out.size, by omega, by omega, HNE.out.2⟩)
        · have hb6 := new_below w12_ (.cells #[.int .i64 x] 3)
          have hw9 := within_of hb6
          have ZS6 := Lib.hid hb6.size
          have YS6 := Lib.hid (show (w12_.alloc (.cells #[.int .i64 x] 3)).heap.size = w12_.heap.size + 1 by simp)
          have hec : (w12_.alloc (.cells #[.int .i64 x] 3)).cell? ⟨w12_.heap.size, 0, none⟩ = some (.int .i64 x) := by rw [World.cell?_alloc_at _ _ _ _ rfl]; rfl
          have HBI_6 := Lib.hid (HBI_12.out.within hw9 (by omega))
          have HBR_6 := Lib.hid (HBR_12.out.within hw9 (by omega))
          have HKX_6 := Lib.hid (HKX_12.out.within hw9 (by omega))
          have CB_6 := Lib.hid (CB_12.out.within hw9 (by have := YS12.out; have := ZS12.out; omega))
          have BW_6 := Lib.hid (within_on BW_12.out hw9 BW_12.out.size (by omega))
          have E6_6 := Lib.hid (show CellW (w12_.alloc (.cells #[.int .i64 x] 3)) w12_.heap.size x from ⟨by simp, hec⟩)
          clear hb6 hec
          go_simp
          generalize (w12_.alloc (.cells #[.int .i64 x] 3)) = w6_ at *
          clear hw9
          refine hK.out _ _ HKX_6.out.2 (fun hHeld => ?_)
          clear hK K
          refine wpAnyH_ready (rs := [4]) (by kernel_rfl) (by simp) (AllReadyH.cons rfl (fun K hK => ?_) AllReadyH.nil)
          go_simp
          go_at_call 146
          refine (slCloneR B AZ cZ _ _ _ HBI_6.out (by omega)).mono ?_
          rintro e w4_ ⟨A4, c4, rfl, hr4, hb4⟩
          have hw9 := within_of hb4
          have ZS4 := Lib.hid hb4.size
          have HBI_4 := Lib.hid (HBI_6.out.within hw9 (by omega))
          have HBR_4 := Lib.hid (HBR_6.out.within hw9 (by omega))
          have HKX_4 := Lib.hid (HKX_6.out.within hw9 (by omega))
          have E6_4 := Lib.hid (E6_6.out.within hw9 (by omega))
          have CB_4 := Lib.hid (CB_6.out.within hw9 (by have := YS12.out; have := ZS12.out; have := ZS6.out; omega))
          have BW_4 := Lib.hid (within_on BW_6.out hw9 BW_6.out.size (by omega))
          have R4_4 := Lib.hid (show OwnRW w4_ w6_.heap.size w4_.heap.size A4 c4 B from hr4)
          clear hr4 hb4
          clear hw9
          refine hK.out _ _ HKX_4.out.2 (fun hHeld => ?_)
          clear hK K
          refine wpAnyH_ready (rs := [7]) (by kernel_rfl) (by simp) (AllReadyH.cons rfl (fun K hK => ?_) AllReadyH.nil)
          have hy6 := YS6.out
          have hz4 := ZS4.out
          refine step_pushE w4_ (by rfl) _ _ (by rfl) w6_.heap.size w4_.heap.size A4 c4 B x w12_.heap.size (by rfl) R4_4.out (by rfl) E6_4.out.2 (by omega) (by have := ZS12.out; have := ZS6.out; have := ZS4.out; omega) ?_
          intro A7 c7 w7_ lo7 hi7 hr7 hd7 hw9
          have ZS7 := Lib.hid hw9.size
          have hzz : w4_.heap.size ≤ w7_.heap.size := hw9.size
          have hlo9 : WD.heap.size ≤ w6_.heap.size := by have := ZS12.out; have := ZS6.out; omega
          have HBI_7 := Lib.hid (HBI_4.out.within hw9 (by omega))
          have HBR_7 := Lib.hid (HBR_4.out.within hw9 (by omega))
          have HKX_7 := Lib.hid (HKX_4.out.within hw9 (by omega))
          have CB_7 := Lib.hid (CB_4.out.within hw9 (by have := YS12.out; have := ZS12.out; have := ZS6.out; have := ZS4.out; omega))
          have BW_7 := Lib.hid (within_on BW_4.out hw9 BW_4.out.size (by omega))
          have hd8 : WD.heap.size ≤ lo7 := by have := ZS12.out; have := ZS6.out; have := ZS4.out; omega
          have HD8 := Lib.hid hd8
          have R7_7 := Lib.hid (show OwnRW w7_ lo7 hi7 A7 c7 (B ++ [x]) from hr7)
          have R7H := Lib.hid (show hi7 ≤ w7_.heap.size from hr7.1)
          clear hr7 hd7 hd8 hlo9 hy6 hz4 hzz
          clear hw9
          refine hK.out _ _ HKX_7.out.2 (fun hHeld => ?_)
          clear hK K
          refine wpAnyH_ready (rs := [8]) (by kernel_rfl) (by simp) (AllReadyH.cons rfl (fun K hK => ?_) AllReadyH.nil)
          go_simp
          go_at_call 134
          have hns := newSet_yes p k c l (B ++ [x]) A A7 cap c7 _ _ _ HBR_7.out.at R7_7.out.ints.reads hn (by simp; omega) HSET.out HRNG.out
          rw [List.length_append, List.length_singleton] at hns
          refine hns.mono ?_
          rintro e w8_ ⟨b, rfl, hset, hbge, hb8⟩
          have hw9 := within_of hb8
          have ZS8 := Lib.hid hb8.size
          have HBG := Lib.hid hbge
          have HBI_8 := Lib.hid (HBI_7.out.within hw9 (by omega))
          have HBR_8 := Lib.hid (HBR_7.out.within hw9 (by omega))
          have HKX_8 := Lib.hid (HKX_7.out.within hw9 (by omega))
          have CB_8 := Lib.hid (CB_7.out.within hw9 (by have := YS12.out; have := ZS12.out; have := ZS6.out; have := ZS4.out; have := ZS7.out; omega))
          have BW_8 := Lib.hid (within_on BW_7.out hw9 BW_7.out.size (by omega))
          have SM_8 := Lib.hid hset
          have HBL8 := Lib.hid hset.lt
          clear hset hbge hb8 hns
          clear hw9
          refine hK.out _ _ HKX_8.out.2 (fun hHeld => ?_)
          clear hK K
          refine wpAnyH_take (i := 9) (v := .tuple #[.agg #[.int .i64 p, .slice A l.length cap, .int .i64 k, .int .i64 c, .map (some b)], .bool true]) rfl (by kernel_rfl) (by kernel_rfl) (by kernel_rfl) (fun _ _ _ h => h) (Or.inl ⟨by kernel_rfl, fun w hSw => by (try dsimp only at hSw); go_simp; all_goals first | omega | exact IntWalk.i64_in _ (by omega)⟩) (by assumption) ?_
          refine wpAnyH_take (i := 10) (v := .agg #[.int .i64 p, .slice A l.length cap, .int .i64 k, .int .i64 c, .map (some b)]) rfl (by kernel_rfl) (by kernel_rfl) (by kernel_rfl) (fun _ _ _ h => h) (Or.inl ⟨by kernel_rfl, fun w hSw => by (try dsimp only at hSw); go_simp; all_goals first | omega | exact IntWalk.i64_in _ (by omega)⟩) (by assumption) ?_
          refine wpAnyH_take (i := 11) (v := .bool true) rfl (by kernel_rfl) (by kernel_rfl) (by kernel_rfl) (fun _ _ _ h => h) (Or.inl ⟨by kernel_rfl, fun w hSw => by (try dsimp only at hSw); go_simp; all_goals first | omega | exact IntWalk.i64_in _ (by omega)⟩) (by assumption) ?_
          refine wpAnyH_ready (rs := [13]) (by kernel_rfl) (by simp) (AllReadyH.cons rfl (fun K hK => ?_) AllReadyH.nil)
          have q0 := CB_8.out.cells.1
          have q1 := CB_8.out.cells.2.1
          have q2 := CB_8.out.cells.2.2.1
          have q3 := CB_8.out.cells.2.2.2.1
          have q4 := CB_8.out.cells.2.2.2.2
          have f0 := CB_8.out.frozen.1
          have f1 := CB_8.out.frozen.2.1
          have f2 := CB_8.out.frozen.2.2.1
          have f3 := CB_8.out.frozen.2.2.2.1
          have f4 := CB_8.out.frozen.2.2.2.2
          have hr := ret5 CB_8.out (.int .i64 p) (.slice A l.length cap) (.int .i64 k) (.int .i64 c) (.map (some b))
          have hw9 := hr.2
          have hbx9 : WD.heap.size ≤ WD.heap.size := by omega
          have hbb := HBG.out
          have hbl8 := HBL8.out
          have hne : b ≠ WD.heap.size := by have := YS12.out; have := ZS12.out; have := ZS6.out; have := ZS4.out; have := ZS7.out; have := ZS8.out; omega
          have HNE := Lib.hid (And.intro hbx9 hne)
          have HBI_13 := Lib.hid (HBI_8.out.within hw9 (by omega))
          have HBR_13 := Lib.hid (HBR_8.out.within hw9 (by omega))
          have HKX_13 := Lib.hid (HKX_8.out.within hw9 (by omega))
          have SM_13 := Lib.hid (SM_8.out.within hw9 (by omega))
          have BW_13 := Lib.hid (within_on BW_8.out hw9 BW_8.out.size (by omega))
          have CB_13 := Lib.hid hr.1
          clear hr hbx9 hne hbb hbl8
          go_simp
          clear q0 q1 q2 q3 q4 f0 f1 f2 f3 f4
          clear hw9
          refine hK.out _ _ HKX_13.out.2 (fun hHeld => ?_)
          clear hK K
          refine wpAnyH_ready (rs := [14]) (by kernel_rfl) (by simp) (AllReadyH.cons rfl (fun K hK => ?_) AllReadyH.nil)
          go_simp
          refine hK.out _ _ HKX_13.out.2 (fun hHeld => ?_)
          clear hK K
          refine wpAnyH_done (by kernel_rfl) ?_ _
          go_wp2_with fail
          go_meet
          case rel => (have hh1 := HD0.out.size; have hh2 := HNE.out.1; have hh3 := HBG.out; have hh4 := BW_13.out.size; have := ZS4.out; have := ZS6.out; have := ZS7.out; have := ZS8.out; have := ZS12.out; exact ⟨b, WD.heap.size, rfl, rfl, CB_13.out, (by have h := SM_13.out; simpa using h), below_on HD0.out BW_13.out HD0.out.size, by omega, by omega, HNE.out.2⟩)
    case rest =>
      obtain ⟨b, bx, rfl, rfl, hcb, hsm, hbe, hbg, hbxg, hne⟩ := hcut
      have HCB := Lib.hid hcb
      have HSM := Lib.hid hsm
      have HBG := Lib.hid hbg
      have hwle : w.heap.size ≤ w4.heap.size := W4.out.size
      have HWL := Lib.hid hwle
      have HW := Lib.hid (below_on W4.out hbe W4.out.size)
      have HB0 := Lib.hid (HB_4.out.within (within_low hbe) (.inl (by omega)))
      have HBI2 := Lib.hid (show IntsIn wc _ _ AZ B from by rw [← HBT.out]; exact ints_take (ZR_4.out.within (within_low hbe) (by have := ZR_4.out.1; omega)) _)
      have hzrh := ZR_4.out.1
      have hblt := HSM.out.lt
      have hcblt := HCB.out.lt
      have HBN := Lib.hid (And.intro hblt (And.intro hcblt hne))
      have hb25 : (B ++ [x]).length ≤ 25 := by simp; omega
      have HB25 := Lib.hid hb25
      clear hcb hsm hbe
      go_wp2_with fail
      have HG0 := Lib.hid (show GrowQ b wc wc (ciK p k c l x 0) none 0 wc.heap.size wc.heap.size from ⟨⟨Nat.le_refl _, .inl ⟨rfl, rfl, rfl⟩⟩, Nat.le_refl _, Nat.le_refl _, Within.refl _ _ _⟩)
      go_loopw [15, 17, 52] (fun u _ i wr => ∃ j : Nat, j ≤ B.length ∧ i = .int .i64 j ∧ ∃ Ao co lo2 hi2, u = .slice Ao (ciK p k c l x j).length co ∧ SetM wr b ((B ++ [x]).length + j) (B ++ [x]) ∧ GrowQ b wc wr (ciK p k c l x j) Ao co lo2 hi2) (fun _ _ i _ => B.length - (intOf i).toNat)
      case atStart => exact ⟨0, Nat.zero_le _, rfl, none, 0, _, _, rfl, HSM.out, HG0.out⟩
      case round =>
        obtain ⟨j, hj, rfl, Ao, co, lo2, hi2, rfl, hset, hg⟩ := hrel
        have HS1 := Lib.hid hset
        have HG := Lib.hid hg
        have hne9 := HBN.out
        have HBR2 := Lib.hid (HB0.out.within hg.wi (.inl (by have := HBG.out; have := HWL.out; omega)))
        have HCB2 := HCB.out.within hg.wi (by omega)
        obtain ⟨c0, c1, c2, c3, c4⟩ := HCB2.cells
        have hcl := ciK_len p k c l x j
        have HCL := Lib.hid hcl
        have hzi := HBI2.out.within hg.wi (.inl (by have := HBG.out; omega))
        clear hset hg hcl HCB2 hne9
        by_cases hlt : j < B.length
        · have hji : (j : Int) < (B.length : Int) := by omega
          obtain ⟨zb, zo, rfl, hzc⟩ := row_at hzi (by omega)
          have hz := hzc j hlt
          have hwf := HWFB.out j hlt
          have HINJ := Lib.hid (HIN.out j hlt)
          have HOUTJ := Lib.hid (HOUT.out j hlt)
          obtain ⟨z, hzd⟩ : ∃ z, B.getD j 0 = z := ⟨_, rfl⟩
          rw [hzd] at hz hwf HINJ HOUTJ
          have HWFZ := Lib.hid hwf.1
          have HMEM := Lib.hid (show z ∈ B ++ [x] from List.mem_append_left _ hwf.2)
          have hie := HIND.out z hwf.2
          have HNN := Lib.hid (show (B ++ [x]).length + j + 1 ≤ 1048576 from by have := HB25.out; omega)
          obtain ⟨r2, hr2⟩ : ∃ r2, rankSV p k c l (woL (B ++ [x]) z) = r2 := ⟨_, rfl⟩
          rw [hr2] at hie
          have HR2 := Lib.hid (show rankSV p k c l ((B ++ [x]).filter fun y => !decide (y = z)) = r2 from hr2)
          clear hzd hzc hzi hwf hr2
          by_cases c9 : r2 = (B.length : Int)
          · have HN := Lib.hid (HINJ.out (hie.trans (decide_eq_true c9)))
            have d9 : (r2 == (B.length : Int)) = true := by simpa using c9
            clear c9 hie
            go_wp2_with (first
              | (at_builtin; refine wpList_pushR _ rfl _ _ rfl lo2 hi2 Ao co (ciK p k c l x j) z rfl HG5.out.row _ (by first | rfl | (simp only [World.size_setCell]; rfl)) (by have := HCL.out; omega) HG5.out.le ?_; intro A6 c6 w16 lo6 hi6 hr6 hor6 hw6; have HS6 := Lib.hid (HS5.out.within hw6 (.inl (by have := HG5.out.ge; have := HBN.out.1; omega))); have HG6 := Lib.hid (HG5.out.push hr6 hor6 hw6); clear hr6 hor6 hw6)
              | (go_at_call 142; refine (rankWo p k c l A cap b ((B ++ [x]).length + j) w.heap.size (B ++ [x]) z _ HBR2.out (Nat.le_trans HWL.out HBG.out) HS1.out hn HNN.out HWFZ.out HMEM.out).mono ?_; rintro e w5 ⟨rfl, hset, hwi⟩; rw [HR2.out]; have HS5 := Lib.hid hset; have HG5 := Lib.hid (HG.out.map hwi HBN.out.1); clear hset hwi))
            go_roundw
            case rel => exact ⟨j + 1, by omega, by go_num, A6, c6, lo6, hi6, by rw [HN.out]; simp, HS6.out, by rw [HN.out]; exact HG6.out⟩
            case measure => simp [intOf]; omega
          · have HN := Lib.hid (HOUTJ.out (hie.trans (decide_eq_false c9)))
            have d9 : (r2 == (B.length : Int)) = false := by simpa using c9
            clear c9 hie
            go_wp2_with (go_at_call 142; refine (rankWo p k c l A cap b ((B ++ [x]).length + j) w.heap.size (B ++ [x]) z _ HBR2.out (Nat.le_trans HWL.out HBG.out) HS1.out hn HNN.out HWFZ.out HMEM.out).mono ?_; rintro e w5 ⟨rfl, hset, hwi⟩; rw [HR2.out]; have HS5 := Lib.hid hset; have HG5 := Lib.hid (HG.out.map hwi HBN.out.1); clear hset hwi)
            go_roundw
            case rel => exact ⟨j + 1, by omega, by go_num, Ao, co, lo2, hi2, by rw [HN.out], HS5.out, by rw [HN.out]; exact HG5.out⟩
            case measure => simp [intOf]; omega
        · obtain rfl : j = B.length := by omega
          go_wp2_with (at_builtin; refine wpList_pushR _ rfl _ _ rfl lo2 hi2 Ao co (ciK p k c l x B.length) x rfl HG.out.row _ (by first | rfl | (simp only [World.size_setCell]; rfl)) (by have := HCL.out; omega) HG.out.le ?_; intro A6 c6 w16 lo6 hi6 hr6 hor6 hw6; have HG6 := Lib.hid (HG.out.push hr6 hor6 hw6); clear hr6 hor6 hw6)
          go_ret2
          rw [HVAL.out]
          have hws := HW.out.size
          exact ⟨A6, c6, by simp, HG6.out.row.ints.widen (Nat.le_trans hws HG6.out.ge) HG6.out.row.1 (Nat.le_refl _), within_on HW.out HG6.out.wi hws (.inl (Nat.le_trans HWL.out HBG.out))⟩
end Go.Proofs.Ytdkpmaahinbhlaa
