/- What impl.Graph.takeBack answers for a step of the first kind. No condition. -/
import Derived.Test.YtdkpmaahinbhlaaFzTkbW
namespace Go.Proofs.Ytdkpmaahinbhlaa
open Go.RowKit

/-- What takeBack answers: a step and the graph before it, or no step. -/
def TbR (V : World) (p : Int) (A : Option Addr) (cap : Nat) (l : List (Int × Int)) (r : Option (Stp × List (Int × Int))) (e : Ending) (w' : World) : Prop :=
  match r with
  | some x => ∃ A' c', e = .returned (.tuple #[.agg #[.int .i64 x.1.1, .int .i64 x.1.2.1, .int .i64 x.1.2.2.1, .int .i64 x.1.2.2.2.1, .int .i64 x.1.2.2.2.2], .agg #[.int .i64 p, .slice A' x.2.length c'], .bool true]) ∧ DrI V w' A' x.2 ∧ Below V.heap.size V w'
  | none => e = .returned (.tuple #[.agg #[.int .i64 0, .int .i64 0, .int .i64 0, .int .i64 0, .int .i64 0], .agg #[.int .i64 p, .slice A l.length cap], .bool false]) ∧ Below V.heap.size V w'

set_option maxHeartbeats 8000000 in
set_option maxRecDepth 100000 in
theorem takeBack1_c (p v : Int) (l : List (Int × Int)) (A : Option Addr) (cap : Nat) (w : World) (hl : BarsAt w w.heap.size A l) (hg : IsG p l) (hv : 0 ≤ v ∧ v < p) (h0 : 0 < l.length) (r : Option (Stp × List (Int × Int))) (hr0 : undo2 v l = r) :
    Calls Try.prog 168 #[.agg #[.int .i64 p, .slice A l.length cap], .int .i64 1, .int .i64 v] w (TbR w p A cap l r) := by
  have hlen := hg.2.1
  have hn : l.length ≤ 1048576 := by omega
  have HI0 := Lib.hid (tkI_new w p A cap l hl)
  have HNC := Lib.hid (fun (W : World) (h : TkZ w W p A cap l) => neighbours_c p v l A cap W h.at hg hv)
  have HFC := Lib.hid (fun (W : World) (h : TkZ w W p A cap l) => freed_c p v l A cap W h.at hn h0)
  have HR0 := Lib.hid hr0
  clear hl hr0
  go_enter Try.func168, Try.ntmps168
  go_wp2_with fail
  generalize (((w.alloc (.cells #[.int .i64 p, .slice A l.length cap] 26)).alloc (.cells #[.int .i64 0, .int .i64 0, .int .i64 0, .int .i64 0, .int .i64 0] 155)).alloc (.cells #[.int .i64 0, .slice none 0 0] 26)) = w1 at *
  have hdr : Below w1.heap.size w1 w1.drew := (Below.refl _ _).drew
  have HT0 := Lib.hid (HI0.out.below hdr)
  clear hdr HI0
  go_cut [9, 10] from 16 to 22 (fun b1 b2 wx => BoxT w p A cap l v b1 b2 wx)
  case first =>
    refine wp_region_held_drew (S := (fun W' : World => W'.cell? ⟨w.heap.size, 0, none⟩ = some (.int .i64 p) ∧ W'.cell? ⟨w.heap.size, 1, none⟩ = some (.slice A l.length cap))) (by kernel_rfl) ?_ (fun hHeld => ?_)
    · exact ⟨HT0.out.gr.cells.1, HT0.out.gr.cells.2.1⟩
    generalize w1.drew = WD at *
    refine wpAnyH_take (i := 0) (v := .agg #[.int .i64 p, .slice A l.length cap]) rfl (by kernel_rfl) (by kernel_rfl) (by kernel_rfl) (fun _ _ _ h => h) (Or.inl ⟨by kernel_rfl, fun w hSw => by (try dsimp only at hSw); go_simp; all_goals first | omega | exact IntWalk.i64_in _ (by omega)⟩) (by assumption) ?_
    refine wpAnyH_take (i := 1) (v := .int .i64 v) rfl (by kernel_rfl) (by kernel_rfl) (by kernel_rfl) (fun _ _ _ h => h) (Or.inl ⟨by kernel_rfl, fun w hSw => by (try dsimp only at hSw); go_simp; all_goals first | omega | exact IntWalk.i64_in _ (by omega)⟩) (by assumption) ?_
    refine wpAnyH_take (i := 3) (v := .agg #[.int .i64 p, .slice A l.length cap]) rfl (by kernel_rfl) (by kernel_rfl) (by kernel_rfl) (fun _ _ _ h => h) (Or.inl ⟨by kernel_rfl, fun w hSw => by (try dsimp only at hSw); go_simp; all_goals first | omega | exact IntWalk.i64_in _ (by omega)⟩) (by assumption) ?_
    refine wpAnyH_take (i := 4) (v := .int .i64 v) rfl (by kernel_rfl) (by kernel_rfl) (by kernel_rfl) (fun _ _ _ h => h) (Or.inl ⟨by kernel_rfl, fun w hSw => by (try dsimp only at hSw); go_simp; all_goals first | omega | exact IntWalk.i64_in _ (by omega)⟩) (by assumption) ?_
    refine wpAnyH_ready (rs := [2, 6]) (by kernel_rfl) (by simp) (AllReadyH.cons rfl (fun K hK => ?_) (AllReadyH.cons rfl (fun K hK => ?_) AllReadyH.nil))
    · go_simp
      go_at_call 209
      refine (HNC.out _ HT0.out).mono ?_
      rintro e w_1 ⟨An, cn, rfl, ho, hb⟩
      have HT1 := Lib.hid (HT0.out.below hb)
      have HN1 := Lib.hid ho.reads
      have HNL := Lib.hid HT0.out.lt
      clear ho hb
      refine hK.out _ _ ⟨HT1.out.gr.cells.1, HT1.out.gr.cells.2.1⟩ (fun hHeld => ?_)
      clear hK K
      refine wpAnyH_ready (rs := [5, 6]) (by kernel_rfl) (by simp) (AllReadyH.cons rfl (fun K hK => ?_) (AllReadyH.cons rfl (fun K hK => ?_) AllReadyH.nil))
      · go_simp
        go_at_call 210
        refine (HFC.out _ HT1.out).mono ?_
        rintro e w_2 ⟨Ad, cd, rfl, ho, hb⟩
        have HT2 := Lib.hid (HT1.out.below hb)
        have HN2 := Lib.hid (HN1.out.within (within_of hb) (.inr (Nat.zero_le _)))
        have HD2 := Lib.hid ho.bars
        have HDL := Lib.hid HT1.out.lt
        clear ho hb
        refine hK.out _ _ ⟨HT2.out.gr.cells.1, HT2.out.gr.cells.2.1⟩ (fun hHeld => ?_)
        clear hK K
        refine wpAnyH_ready (rs := [6]) (by kernel_rfl) (by simp) (AllReadyH.cons rfl (fun K hK => ?_) AllReadyH.nil)
        have hb := new_below w_2 (.cells #[.int .i64 0, .slice none 0 0] 26)
        have HT3 := Lib.hid (HT2.out.below hb)
        have HN3 := Lib.hid (HN2.out.within (within_of hb) (.inr (Nat.zero_le _)))
        have HD3 := Lib.hid (HD2.out.within (within_of hb) (.inr (Nat.zero_le _)))
        have HX3 := Lib.hid (cel2_new w_2 (.int .i64 0) (.slice none 0 0) 26)
        have HBG := Lib.hid HT2.out.lt
        clear hb
        go_simp
        generalize (w_2.alloc (.cells #[.int .i64 0, .slice none 0 0] 26)) = w_3 at *
        obtain ⟨b, hbe⟩ : ∃ b, w_2.heap.size = b := ⟨_, rfl⟩
        rw [hbe] at HX3 HBG ⊢
        have HN9 := Lib.hid (Nat.le_trans HN2.out.1 (Nat.le_of_eq hbe))
        have HD9 := Lib.hid (Nat.le_trans HD2.out.1 (Nat.le_of_eq hbe))
        clear hbe
        refine hK.out _ _ ⟨HT3.out.gr.cells.1, HT3.out.gr.cells.2.1⟩ (fun hHeld => ?_)
        clear hK K
        refine wpAnyH_ready (rs := [7]) (by kernel_rfl) (by simp) (AllReadyH.cons rfl (fun K hK => ?_) AllReadyH.nil)
        go_simp
        refine hK.out _ _ ⟨HT3.out.gr.cells.1, HT3.out.gr.cells.2.1⟩ (fun hHeld => ?_)
        clear hK K
        refine wpAnyH_ready (rs := [8]) (by kernel_rfl) (by simp) (AllReadyH.cons rfl (fun K hK => ?_) AllReadyH.nil)
        obtain ⟨q0, q1, q2, q3⟩ := HX3.out.cells
        have HBT := Lib.hid (boxT_in HT3.out HX3.out HBG.out HN3.out HNL.out (.inl HN9.out) HD3.out HDL.out (.inl HD9.out) (cn := cn) (cd := cd))
        have HT4 := Lib.hid (HT3.out.by (ret2 HX3.out (.int .i64 p) (.slice Ad (offI v l).length cd)).2 HBG.out)
        go_simp
        clear q0 q1 q2 q3
        generalize ((w_3.setCell ⟨b, 0, none⟩ (.int .i64 p)).setCell ⟨b, 1, none⟩ (.slice Ad (offI v l).length cd)) = w_4 at *
        refine hK.out _ _ ⟨HT4.out.gr.cells.1, HT4.out.gr.cells.2.1⟩ (fun hHeld => ?_)
        clear hK K
        refine wpAnyH_done (by kernel_rfl) ?_ _
        clear hHeld
        go_wp2_with fail
        go_meet
        case rel => exact HBT.out
      · have hb := new_below w_1 (.cells #[.int .i64 0, .slice none 0 0] 26)
        have HT2 := Lib.hid (HT1.out.below hb)
        have HN2 := Lib.hid (HN1.out.within (within_of hb) (.inr (Nat.zero_le _)))
        have HX2 := Lib.hid (cel2_new w_1 (.int .i64 0) (.slice none 0 0) 26)
        have HBG := Lib.hid HT1.out.lt
        clear hb
        go_simp
        generalize (w_1.alloc (.cells #[.int .i64 0, .slice none 0 0] 26)) = w_2 at *
        obtain ⟨b, hbe⟩ : ∃ b, w_1.heap.size = b := ⟨_, rfl⟩
        rw [hbe] at HX2 HBG ⊢
        have HN9 := Lib.hid (Nat.le_trans HN1.out.1 (Nat.le_of_eq hbe))
        clear hbe
        refine hK.out _ _ ⟨HT2.out.gr.cells.1, HT2.out.gr.cells.2.1⟩ (fun hHeld => ?_)
        clear hK K
        refine wpAnyH_ready (rs := [5]) (by kernel_rfl) (by simp) (AllReadyH.cons rfl (fun K hK => ?_) AllReadyH.nil)
        go_simp
        go_at_call 210
        refine (HFC.out _ HT2.out).mono ?_
        rintro e w_3 ⟨Ad, cd, rfl, ho, hb⟩
        have HT3 := Lib.hid (HT2.out.below hb)
        have HN3 := Lib.hid (HN2.out.within (within_of hb) (.inr (Nat.zero_le _)))
        have HX3 := Lib.hid (HX2.out.kept hb)
        have HD3 := Lib.hid ho.bars
        have HDL := Lib.hid HT2.out.lt
        have HDB := Lib.hid (show b + 1 ≤ w_2.heap.size from HX2.out.lt)
        clear ho hb
        refine hK.out _ _ ⟨HT3.out.gr.cells.1, HT3.out.gr.cells.2.1⟩ (fun hHeld => ?_)
        clear hK K
        refine wpAnyH_ready (rs := [7]) (by kernel_rfl) (by simp) (AllReadyH.cons rfl (fun K hK => ?_) AllReadyH.nil)
        go_simp
        refine hK.out _ _ ⟨HT3.out.gr.cells.1, HT3.out.gr.cells.2.1⟩ (fun hHeld => ?_)
        clear hK K
        refine wpAnyH_ready (rs := [8]) (by kernel_rfl) (by simp) (AllReadyH.cons rfl (fun K hK => ?_) AllReadyH.nil)
        obtain ⟨q0, q1, q2, q3⟩ := HX3.out.cells
        have HBT := Lib.hid (boxT_in HT3.out HX3.out HBG.out HN3.out HNL.out (.inl HN9.out) HD3.out HDL.out (.inr HDB.out) (cn := cn) (cd := cd))
        have HT4 := Lib.hid (HT3.out.by (ret2 HX3.out (.int .i64 p) (.slice Ad (offI v l).length cd)).2 HBG.out)
        go_simp
        clear q0 q1 q2 q3
        generalize ((w_3.setCell ⟨b, 0, none⟩ (.int .i64 p)).setCell ⟨b, 1, none⟩ (.slice Ad (offI v l).length cd)) = w_4 at *
        refine hK.out _ _ ⟨HT4.out.gr.cells.1, HT4.out.gr.cells.2.1⟩ (fun hHeld => ?_)
        clear hK K
        refine wpAnyH_done (by kernel_rfl) ?_ _
        clear hHeld
        go_wp2_with fail
        go_meet
        case rel => exact HBT.out
    · have hb := new_below WD (.cells #[.int .i64 0, .slice none 0 0] 26)
      have HT1 := Lib.hid (HT0.out.below hb)
      have HX1 := Lib.hid (cel2_new WD (.int .i64 0) (.slice none 0 0) 26)
      have HBG := Lib.hid HT0.out.lt
      clear hb
      go_simp
      generalize (WD.alloc (.cells #[.int .i64 0, .slice none 0 0] 26)) = w_1 at *
      obtain ⟨b, hbe⟩ : ∃ b, WD.heap.size = b := ⟨_, rfl⟩
      rw [hbe] at HX1 HBG ⊢
      clear hbe
      refine hK.out _ _ ⟨HT1.out.gr.cells.1, HT1.out.gr.cells.2.1⟩ (fun hHeld => ?_)
      clear hK K
      refine wpAnyH_ready (rs := [2]) (by kernel_rfl) (by simp) (AllReadyH.cons rfl (fun K hK => ?_) AllReadyH.nil)
      go_simp
      go_at_call 209
      refine (HNC.out _ HT1.out).mono ?_
      rintro e w_2 ⟨An, cn, rfl, ho, hb⟩
      have HT2 := Lib.hid (HT1.out.below hb)
      have HX2 := Lib.hid (HX1.out.kept hb)
      have HN2 := Lib.hid ho.reads
      have HNL := Lib.hid HT1.out.lt
      have HNB := Lib.hid (show b + 1 ≤ w_1.heap.size from HX1.out.lt)
      clear ho hb
      refine hK.out _ _ ⟨HT2.out.gr.cells.1, HT2.out.gr.cells.2.1⟩ (fun hHeld => ?_)
      clear hK K
      refine wpAnyH_ready (rs := [5]) (by kernel_rfl) (by simp) (AllReadyH.cons rfl (fun K hK => ?_) AllReadyH.nil)
      go_simp
      go_at_call 210
      refine (HFC.out _ HT2.out).mono ?_
      rintro e w_3 ⟨Ad, cd, rfl, ho, hb⟩
      have HT3 := Lib.hid (HT2.out.below hb)
      have HN3 := Lib.hid (HN2.out.within (within_of hb) (.inr (Nat.zero_le _)))
      have HX3 := Lib.hid (HX2.out.kept hb)
      have HD3 := Lib.hid ho.bars
      have HDL := Lib.hid HT2.out.lt
      have HDB := Lib.hid (show b + 1 ≤ w_2.heap.size from HX2.out.lt)
      clear ho hb
      refine hK.out _ _ ⟨HT3.out.gr.cells.1, HT3.out.gr.cells.2.1⟩ (fun hHeld => ?_)
      clear hK K
      refine wpAnyH_ready (rs := [7]) (by kernel_rfl) (by simp) (AllReadyH.cons rfl (fun K hK => ?_) AllReadyH.nil)
      go_simp
      refine hK.out _ _ ⟨HT3.out.gr.cells.1, HT3.out.gr.cells.2.1⟩ (fun hHeld => ?_)
      clear hK K
      refine wpAnyH_ready (rs := [8]) (by kernel_rfl) (by simp) (AllReadyH.cons rfl (fun K hK => ?_) AllReadyH.nil)
      obtain ⟨q0, q1, q2, q3⟩ := HX3.out.cells
      have HBT := Lib.hid (boxT_in HT3.out HX3.out HBG.out HN3.out HNL.out (.inr HNB.out) HD3.out HDL.out (.inr HDB.out) (cn := cn) (cd := cd))
      have HT4 := Lib.hid (HT3.out.by (ret2 HX3.out (.int .i64 p) (.slice Ad (offI v l).length cd)).2 HBG.out)
      go_simp
      clear q0 q1 q2 q3
      generalize ((w_3.setCell ⟨b, 0, none⟩ (.int .i64 p)).setCell ⟨b, 1, none⟩ (.slice Ad (offI v l).length cd)) = w_4 at *
      refine hK.out _ _ ⟨HT4.out.gr.cells.1, HT4.out.gr.cells.2.1⟩ (fun hHeld => ?_)
      clear hK K
      refine wpAnyH_done (by kernel_rfl) ?_ _
      clear hHeld
      go_wp2_with fail
      go_meet
      case rel => exact HBT.out
  case rest =>
    obtain ⟨An, cn, b, Ad, cd, rfl, rfl, ht, hn5, hb, hx, hd⟩ := hcut
    have HTc := Lib.hid ht
    have HNc := Lib.hid hn5
    have HBG := Lib.hid hb
    have HXc := Lib.hid hx
    have HDc := Lib.hid hd
    clear ht hn5 hb hx hd
    by_cases c : (nearL v l).length = 2
    · obtain ⟨a, d, hns⟩ := two_of c
      have hr : r = some ((1, v, a, d, 0), offI v l) := by
        rw [← HR0.out]
        unfold undo2
        rw [hns]
        rfl
      subst hr
      rw [hns] at HNc ⊢
      obtain ⟨g, off, rfl⟩ := HNc.out.addr (by simp)
      rw [show ([a, d] : List Int).length = 2 from rfl]
      clear c hns
      go_wp2_with fail
      have hdr : Below wc.heap.size wc wc.drew := (Below.refl _ _).drew
      have HTd := Lib.hid (HTc.out.below hdr)
      have HXd := Lib.hid (HXc.out.kept hdr)
      have HNd := Lib.hid (HNc.out.below hdr)
      have HDd := Lib.hid (HDc.out.below hdr)
      clear hdr
      refine wp_region_held_drew (S := (fun W' : World => W'.cell? ⟨b, 0, none⟩ = some (.int .i64 p) ∧ W'.cell? ⟨b, 1, none⟩ = some (.slice Ad (offI v l).length cd) ∧ W'.cell? ⟨g, off, none⟩ = some (.int .i64 a) ∧ W'.cell? ⟨g, off + 1, none⟩ = some (.int .i64 d))) (by kernel_rfl) ?_ (fun hHeld => ?_)
      · exact ⟨HXd.out.cells.1, HXd.out.cells.2.1, HNd.out.cell (k := 0) (by simp), HNd.out.cell (k := 1) (by simp)⟩
      generalize wc.drew = wd at *
      refine wpAnyH_take (i := 0) (v := .int .i64 1) rfl (by kernel_rfl) (by kernel_rfl) (by kernel_rfl) (fun _ _ _ h => h) (Or.inl ⟨by kernel_rfl, fun w hSw => by (try dsimp only at hSw); go_simp; all_goals first | omega | exact IntWalk.i64_in _ (by omega)⟩) (by assumption) ?_
      try simp only [Act.put, List.getElem_toArray, List.getElem_cons_zero, List.setIfInBounds_toArray, List.set_cons_zero, List.set_cons_succ]
      refine wpAnyH_take (i := 1) (v := .int .i64 v) rfl (by kernel_rfl) (by kernel_rfl) (by kernel_rfl) (fun _ _ _ h => h) (Or.inl ⟨by kernel_rfl, fun w hSw => by (try dsimp only at hSw); go_simp; all_goals first | omega | exact IntWalk.i64_in _ (by omega)⟩) (by assumption) ?_
      try simp only [Act.put, List.getElem_toArray, List.getElem_cons_zero, List.getElem_cons_succ, List.setIfInBounds_toArray, List.set_cons_zero, List.set_cons_succ]
      refine wpAnyH_take (i := 2) (v := .slice (some ⟨g, off, none⟩) 2 cn) rfl (by kernel_rfl) (by kernel_rfl) (by kernel_rfl) (fun _ _ _ h => h) (Or.inl ⟨by kernel_rfl, fun w hSw => by (try dsimp only at hSw); go_simp; all_goals first | omega | exact IntWalk.i64_in _ (by omega)⟩) (by assumption) ?_
      try simp only [Act.put, List.getElem_toArray, List.getElem_cons_zero, List.getElem_cons_succ, List.setIfInBounds_toArray, List.set_cons_zero, List.set_cons_succ]
      refine wpAnyH_take (i := 3) (v := .pointer (some ⟨g, off, none⟩)) rfl (by kernel_rfl) (by kernel_rfl) (by kernel_rfl) (fun _ _ _ h => h) (Or.inl ⟨by kernel_rfl, fun w hSw => by (try dsimp only at hSw); go_simp; all_goals first | omega | exact IntWalk.i64_in _ (by omega)⟩) (by assumption) ?_
      try simp only [Act.put, List.getElem_toArray, List.getElem_cons_zero, List.getElem_cons_succ, List.setIfInBounds_toArray, List.set_cons_zero, List.set_cons_succ]
      refine wpAnyH_take (i := 4) (v := .int .i64 a) rfl (by kernel_rfl) (by kernel_rfl) (by kernel_rfl) (fun _ _ _ h => h) (Or.inl ⟨by kernel_rfl, fun w hSw => by (try dsimp only at hSw); go_simp; all_goals first | omega | exact IntWalk.i64_in _ (by omega)⟩) (by assumption) ?_
      try simp only [Act.put, List.getElem_toArray, List.getElem_cons_zero, List.getElem_cons_succ, List.setIfInBounds_toArray, List.set_cons_zero, List.set_cons_succ]
      refine wpAnyH_take (i := 5) (v := .slice (some ⟨g, off, none⟩) 2 cn) rfl (by kernel_rfl) (by kernel_rfl) (by kernel_rfl) (fun _ _ _ h => h) (Or.inl ⟨by kernel_rfl, fun w hSw => by (try dsimp only at hSw); go_simp; all_goals first | omega | exact IntWalk.i64_in _ (by omega)⟩) (by assumption) ?_
      try simp only [Act.put, List.getElem_toArray, List.getElem_cons_zero, List.getElem_cons_succ, List.setIfInBounds_toArray, List.set_cons_zero, List.set_cons_succ]
      refine wpAnyH_take (i := 6) (v := .pointer (some ⟨g, off + 1, none⟩)) rfl (by kernel_rfl) (by kernel_rfl) (by kernel_rfl) (fun _ _ _ h => h) (Or.inl ⟨by kernel_rfl, fun w hSw => by (try dsimp only at hSw); go_simp; all_goals first | omega | exact IntWalk.i64_in _ (by omega)⟩) (by assumption) ?_
      try simp only [Act.put, List.getElem_toArray, List.getElem_cons_zero, List.getElem_cons_succ, List.setIfInBounds_toArray, List.set_cons_zero, List.set_cons_succ]
      refine wpAnyH_take (i := 7) (v := .int .i64 d) rfl (by kernel_rfl) (by kernel_rfl) (by kernel_rfl) (fun _ _ _ h => h) (Or.inl ⟨by kernel_rfl, fun w hSw => by (try dsimp only at hSw); go_simp; all_goals first | omega | exact IntWalk.i64_in _ (by omega)⟩) (by assumption) ?_
      try simp only [Act.put, List.getElem_toArray, List.getElem_cons_zero, List.getElem_cons_succ, List.setIfInBounds_toArray, List.set_cons_zero, List.set_cons_succ]
      refine wpAnyH_take (i := 8) (v := .agg #[.int .i64 1, .int .i64 v, .int .i64 a, .int .i64 d, .int .i64 0]) rfl (by kernel_rfl) (by kernel_rfl) (by kernel_rfl) (fun _ _ _ h => h) (Or.inl ⟨by kernel_rfl, fun w hSw => by (try dsimp only at hSw); go_simp; all_goals first | omega | exact IntWalk.i64_in _ (by omega)⟩) (by assumption) ?_
      try simp only [Act.put, List.getElem_toArray, List.getElem_cons_zero, List.getElem_cons_succ, List.setIfInBounds_toArray, List.set_cons_zero, List.set_cons_succ]
      refine wpAnyH_take (i := 9) (v := .agg #[.int .i64 p, .slice Ad (offI v l).length cd]) rfl (by kernel_rfl) (by kernel_rfl) (by kernel_rfl) (fun _ _ _ h => h) (Or.inl ⟨by kernel_rfl, fun w hSw => by (try dsimp only at hSw); go_simp; all_goals first | omega | exact IntWalk.i64_in _ (by omega)⟩) (by assumption) ?_
      try simp only [Act.put, List.getElem_toArray, List.getElem_cons_zero, List.getElem_cons_succ, List.setIfInBounds_toArray, List.set_cons_zero, List.set_cons_succ]
      refine wpAnyH_ready (rs := [10]) (by kernel_rfl) (by simp) (AllReadyH.cons rfl (fun K hK => ?_) AllReadyH.nil)
      obtain ⟨⟨q0, q1, q2, q3, q4⟩, q5, q6, q7, q8, q9⟩ := And.intro HTd.out.r3.cells HTd.out.r3.froz
      obtain ⟨hs1, hs2⟩ := HTd.out.set3 (.int .i64 1) (.int .i64 v) (.int .i64 a) (.int .i64 d) (.int .i64 0)
      have HTe := Lib.hid hs1
      have HXe := Lib.hid (HXd.out.within hs2 (.inr HBG.out))
      have HNe := Lib.hid (HNd.out.set hs2)
      have HDe := Lib.hid (HDd.out.set hs2)
      clear hs1 hs2
      go_simp
      clear q0 q1 q2 q3 q4 q5 q6 q7 q8 q9
      generalize (((((wd.setCell ⟨w.heap.size + 1, 0, none⟩ (.int .i64 1)).setCell ⟨w.heap.size + 1, 1, none⟩ (.int .i64 v)).setCell ⟨w.heap.size + 1, 2, none⟩ (.int .i64 a)).setCell ⟨w.heap.size + 1, 3, none⟩ (.int .i64 d)).setCell ⟨w.heap.size + 1, 4, none⟩ (.int .i64 0)) = we at *
      refine hK.out _ _ ⟨HXe.out.cells.1, HXe.out.cells.2.1, HNe.out.cell (k := 0) (by simp), HNe.out.cell (k := 1) (by simp)⟩ (fun hHeld => ?_)
      clear hK K
      try simp only [Act.put, List.getElem_toArray, List.getElem_cons_zero, List.getElem_cons_succ, List.setIfInBounds_toArray, List.set_cons_zero, List.set_cons_succ]
      refine wpAnyH_ready (rs := [11]) (by kernel_rfl) (by simp) (AllReadyH.cons rfl (fun K hK => ?_) AllReadyH.nil)
      obtain ⟨q0, q1, q2, q3⟩ := HTe.out.r2.cells
      obtain ⟨hs1, hs2⟩ := HTe.out.set2 (.int .i64 p) (.slice Ad (offI v l).length cd)
      have HTf := Lib.hid hs1
      have HXf := Lib.hid (HXe.out.within hs2 (.inr HBG.out))
      have HNf := Lib.hid (HNe.out.set hs2)
      have HDf := Lib.hid (HDe.out.set hs2)
      clear hs1 hs2
      go_simp
      clear q0 q1 q2 q3
      generalize ((we.setCell ⟨w.heap.size + 2, 0, none⟩ (.int .i64 p)).setCell ⟨w.heap.size + 2, 1, none⟩ (.slice Ad (offI v l).length cd)) = wf at *
      refine hK.out _ _ ⟨HXf.out.cells.1, HXf.out.cells.2.1, HNf.out.cell (k := 0) (by simp), HNf.out.cell (k := 1) (by simp)⟩ (fun hHeld => ?_)
      clear hK K
      try simp only [Act.put, List.getElem_toArray, List.getElem_cons_zero, List.getElem_cons_succ, List.setIfInBounds_toArray, List.set_cons_zero, List.set_cons_succ]
      refine wpAnyH_ready (rs := [12]) (by kernel_rfl) (by simp) (AllReadyH.cons rfl (fun K hK => ?_) AllReadyH.nil)
      go_simp
      refine hK.out _ _ ⟨HXf.out.cells.1, HXf.out.cells.2.1, HNf.out.cell (k := 0) (by simp), HNf.out.cell (k := 1) (by simp)⟩ (fun hHeld => ?_)
      clear hK K
      try simp only [Act.put, List.getElem_toArray, List.getElem_cons_zero, List.getElem_cons_succ, List.setIfInBounds_toArray, List.set_cons_zero, List.set_cons_succ]
      refine wpAnyH_done (by kernel_rfl) ?_ _
      clear hHeld
      obtain ⟨q0, q1, _, _⟩ := HTf.out.r2.cells
      obtain ⟨q2, q3, q4, q5, q6⟩ := HTf.out.r3.cells
      go_wp2_with fail
      refine bodyPost_ret (v := .tuple #[.agg #[.int .i64 1, .int .i64 v, .int .i64 a, .int .i64 d, .int .i64 0], .agg #[.int .i64 p, .slice Ad (offI v l).length cd], .bool true]) ?_ rfl ⟨Ad, cd, rfl, HDf.out, HTf.out.bel⟩
      simp [results, Try.results168, go_sem, q0, q1, q2, q3, q4, q5, q6]
    · have hr : r = none := by
        rw [← HR0.out]
        unfold undo2
        rw [if_neg c]
      subst hr
      have hne : ¬ (((nearL v l).length : Int) = 2) := by omega
      clear c
      go_wp2_with fail
      have hdr : Below wc.heap.size wc wc.drew := (Below.refl _ _).drew
      have HTd := Lib.hid (HTc.out.below hdr)
      clear hdr
      refine wp_region_held_drew (S := (fun W' : World => W'.cell? ⟨w.heap.size, 0, none⟩ = some (.int .i64 p) ∧ W'.cell? ⟨w.heap.size, 1, none⟩ = some (.slice A l.length cap))) (by kernel_rfl) ?_ (fun hHeld => ?_)
      · exact ⟨HTd.out.gr.cells.1, HTd.out.gr.cells.2.1⟩
      generalize wc.drew = wd at *
      refine wpAnyH_take (i := 0) (v := .agg #[.int .i64 0, .int .i64 0, .int .i64 0, .int .i64 0, .int .i64 0]) rfl (by kernel_rfl) (by kernel_rfl) (by kernel_rfl) (fun _ _ _ h => h) (Or.inl ⟨by kernel_rfl, fun w hSw => by (try dsimp only at hSw); go_simp; all_goals first | omega | exact IntWalk.i64_in _ (by omega)⟩) (by assumption) ?_
      refine wpAnyH_take (i := 1) (v := .agg #[.int .i64 p, .slice A l.length cap]) rfl (by kernel_rfl) (by kernel_rfl) (by kernel_rfl) (fun _ _ _ h => h) (Or.inl ⟨by kernel_rfl, fun w hSw => by (try dsimp only at hSw); go_simp; all_goals first | omega | exact IntWalk.i64_in _ (by omega)⟩) (by assumption) ?_
      refine wpAnyH_ready (rs := [2]) (by kernel_rfl) (by simp) (AllReadyH.cons rfl (fun K hK => ?_) AllReadyH.nil)
      obtain ⟨⟨q0, q1, q2, q3, q4⟩, q5, q6, q7, q8, q9⟩ := And.intro HTd.out.r3.cells HTd.out.r3.froz
      obtain ⟨hs1, hs2⟩ := HTd.out.set3 (.int .i64 0) (.int .i64 0) (.int .i64 0) (.int .i64 0) (.int .i64 0)
      have HTe := Lib.hid hs1
      clear hs1 hs2
      go_simp
      clear q0 q1 q2 q3 q4 q5 q6 q7 q8 q9
      generalize (((((wd.setCell ⟨w.heap.size + 1, 0, none⟩ (.int .i64 0)).setCell ⟨w.heap.size + 1, 1, none⟩ (.int .i64 0)).setCell ⟨w.heap.size + 1, 2, none⟩ (.int .i64 0)).setCell ⟨w.heap.size + 1, 3, none⟩ (.int .i64 0)).setCell ⟨w.heap.size + 1, 4, none⟩ (.int .i64 0)) = we at *
      refine hK.out _ _ ⟨HTe.out.gr.cells.1, HTe.out.gr.cells.2.1⟩ (fun hHeld => ?_)
      clear hK K
      refine wpAnyH_ready (rs := [3]) (by kernel_rfl) (by simp) (AllReadyH.cons rfl (fun K hK => ?_) AllReadyH.nil)
      obtain ⟨q0, q1, q2, q3⟩ := HTe.out.r2.cells
      obtain ⟨hs1, hs2⟩ := HTe.out.set2 (.int .i64 p) (.slice A l.length cap)
      have HTf := Lib.hid hs1
      clear hs1 hs2
      go_simp
      clear q0 q1 q2 q3
      generalize ((we.setCell ⟨w.heap.size + 2, 0, none⟩ (.int .i64 p)).setCell ⟨w.heap.size + 2, 1, none⟩ (.slice A l.length cap)) = wf at *
      refine hK.out _ _ ⟨HTf.out.gr.cells.1, HTf.out.gr.cells.2.1⟩ (fun hHeld => ?_)
      clear hK K
      refine wpAnyH_ready (rs := [4]) (by kernel_rfl) (by simp) (AllReadyH.cons rfl (fun K hK => ?_) AllReadyH.nil)
      go_simp
      refine hK.out _ _ ⟨HTf.out.gr.cells.1, HTf.out.gr.cells.2.1⟩ (fun hHeld => ?_)
      clear hK K
      refine wpAnyH_done (by kernel_rfl) ?_ _
      clear hHeld
      obtain ⟨q0, q1, _, _⟩ := HTf.out.r2.cells
      obtain ⟨q2, q3, q4, q5, q6⟩ := HTf.out.r3.cells
      go_wp2_with fail
      refine bodyPost_ret (v := .tuple #[.agg #[.int .i64 0, .int .i64 0, .int .i64 0, .int .i64 0, .int .i64 0], .agg #[.int .i64 p, .slice A l.length cap], .bool false]) ?_ rfl ⟨rfl, HTf.out.bel⟩
      simp [results, Try.results168, go_sem, q0, q1, q2, q3, q4, q5, q6]
end Go.Proofs.Ytdkpmaahinbhlaa
