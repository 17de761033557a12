/- What impl.Graph.takeBack answers for a step of the second kind. No condition. -/
import Derived.Test.YtdkpmaahinbhlaaFzTkbI
import Derived.Test.YtdkpmaahinbhlaaFzSparse
namespace Go.Proofs.Ytdkpmaahinbhlaa
open Go.RowKit

theorem one_int (w : World) (x : Int) : IntsIn (w.alloc (.cells #[.int .i64 x] 3)) w.heap.size (w.heap.size + 1) (some ⟨w.heap.size, 0, none⟩) [x] :=
  ⟨by simp, fun _ => ⟨w.heap.size, 0, rfl, Nat.le_refl _, Nat.lt_succ_self _, fun k hk => by
    obtain rfl : k = 0 := by simpa using hk
    rw [World.cell?_alloc_at _ _ _ _ rfl]; rfl⟩⟩
set_option maxHeartbeats 8000000 in
set_option maxRecDepth 100000 in
theorem takeBack2_c (p v : Int) (l : List (Int × Int)) (A : Option Addr) (cap : Nat) (w : World) (hl : BarsAt w w.heap.size A l) (hg : IsG p l) (hv : 0 ≤ v ∧ v < p) (h0 : 0 < l.length) (r : Option (Stp × List (Int × Int))) (h3 : ∀ a b c, nearL v l = [a, b, c] → ((0 ≤ a ∧ a < p) ∧ (0 ≤ b ∧ b < p) ∧ (0 ≤ c ∧ c < p)) ∧ a ≠ b ∧ b ≠ c ∧ c ≠ a) (hr0 : undo3 p v l = r) :
    Calls Try.prog 168 #[.agg #[.int .i64 p, .slice A l.length cap], .int .i64 2, .int .i64 v] w (TbR w p A cap l r) := by
  have hlen := hg.2.1
  have hn : l.length ≤ 1048576 := by omega
  have HI0 := Lib.hid (tkI_new w p A cap l hl)
  have HNC := Lib.hid (fun (W : World) (h : TkZ w W p A cap l) => neighbours_c p v l A cap W h.at hg hv)
  have HFC := Lib.hid (fun (W : World) (h : TkZ w W p A cap l) => freed_c p v l A cap W h.at hn h0)
  have HR0 := Lib.hid hr0
  have H3 := Lib.hid h3
  have HG := Lib.hid hg
  clear hl hr0 h3
  go_enter Try.func168, Try.ntmps168
  go_wp2_with fail
  generalize (((w.alloc (.cells #[.int .i64 p, .slice A l.length cap] 26)).alloc (.cells #[.int .i64 0, .int .i64 0, .int .i64 0, .int .i64 0, .int .i64 0] 155)).alloc (.cells #[.int .i64 0, .slice none 0 0] 26)) = w1 at *
  have hdr : Below w1.heap.size w1 w1.drew := (Below.refl _ _).drew
  have HT0 := Lib.hid (HI0.out.below hdr)
  clear hdr HI0
  go_cut [9, 10] from 16 to 22 (fun b1 b2 wx => BoxT w p A cap l v b1 b2 wx)
  case first =>
    refine wp_region_held_drew (S := (fun W' : World => W'.cell? ⟨w.heap.size, 0, none⟩ = some (.int .i64 p) ∧ W'.cell? ⟨w.heap.size, 1, none⟩ = some (.slice A l.length cap))) (by kernel_rfl) ?_ (fun hHeld => ?_)
    · exact ⟨HT0.out.gr.cells.1, HT0.out.gr.cells.2.1⟩
    generalize w1.drew = WD at *
    refine wpAnyH_take (i := 0) (v := .agg #[.int .i64 p, .slice A l.length cap]) rfl (by kernel_rfl) (by kernel_rfl) (by kernel_rfl) (fun _ _ _ h => h) (Or.inl ⟨by kernel_rfl, fun w hSw => by (try dsimp only at hSw); go_simp; all_goals first | omega | exact IntWalk.i64_in _ (by omega)⟩) (by assumption) ?_
    refine wpAnyH_take (i := 1) (v := .int .i64 v) rfl (by kernel_rfl) (by kernel_rfl) (by kernel_rfl) (fun _ _ _ h => h) (Or.inl ⟨by kernel_rfl, fun w hSw => by (try dsimp only at hSw); go_simp; all_goals first | omega | exact IntWalk.i64_in _ (by omega)⟩) (by assumption) ?_
    refine wpAnyH_take (i := 3) (v := .agg #[.int .i64 p, .slice A l.length cap]) rfl (by kernel_rfl) (by kernel_rfl) (by kernel_rfl) (fun _ _ _ h => h) (Or.inl ⟨by kernel_rfl, fun w hSw => by (try dsimp only at hSw); go_simp; all_goals first | omega | exact IntWalk.i64_in _ (by omega)⟩) (by assumption) ?_
    refine wpAnyH_take (i := 4) (v := .int .i64 v) rfl (by kernel_rfl) (by kernel_rfl) (by kernel_rfl) (fun _ _ _ h => h) (Or.inl ⟨by kernel_rfl, fun w hSw => by (try dsimp only at hSw); go_simp; all_goals first | omega | exact IntWalk.i64_in _ (by omega)⟩) (by assumption) ?_
    refine wpAnyH_ready (rs := [2, 6]) (by kernel_rfl) (by simp) (AllReadyH.cons rfl (fun K hK => ?_) (AllReadyH.cons rfl (fun K hK => ?_) AllReadyH.nil))
    · go_simp
      go_at_call 209
      refine (HNC.out _ HT0.out).mono ?_
      rintro e w_1 ⟨An, cn, rfl, ho, hb⟩
      have HT1 := Lib.hid (HT0.out.below hb)
      have HN1 := Lib.hid ho.reads
      have HNL := Lib.hid HT0.out.lt
      clear ho hb
      refine hK.out _ _ ⟨HT1.out.gr.cells.1, HT1.out.gr.cells.2.1⟩ (fun hHeld => ?_)
      clear hK K
      refine wpAnyH_ready (rs := [5, 6]) (by kernel_rfl) (by simp) (AllReadyH.cons rfl (fun K hK => ?_) (AllReadyH.cons rfl (fun K hK => ?_) AllReadyH.nil))
      · go_simp
        go_at_call 210
        refine (HFC.out _ HT1.out).mono ?_
        rintro e w_2 ⟨Ad, cd, rfl, ho, hb⟩
        have HT2 := Lib.hid (HT1.out.below hb)
        have HN2 := Lib.hid (HN1.out.within (within_of hb) (.inr (Nat.zero_le _)))
        have HD2 := Lib.hid ho.bars
        have HDL := Lib.hid HT1.out.lt
        clear ho hb
        refine hK.out _ _ ⟨HT2.out.gr.cells.1, HT2.out.gr.cells.2.1⟩ (fun hHeld => ?_)
        clear hK K
        refine wpAnyH_ready (rs := [6]) (by kernel_rfl) (by simp) (AllReadyH.cons rfl (fun K hK => ?_) AllReadyH.nil)
        have hb := new_below w_2 (.cells #[.int .i64 0, .slice none 0 0] 26)
        have HT3 := Lib.hid (HT2.out.below hb)
        have HN3 := Lib.hid (HN2.out.within (within_of hb) (.inr (Nat.zero_le _)))
        have HD3 := Lib.hid (HD2.out.within (within_of hb) (.inr (Nat.zero_le _)))
        have HX3 := Lib.hid (cel2_new w_2 (.int .i64 0) (.slice none 0 0) 26)
        have HBG := Lib.hid HT2.out.lt
        clear hb
        go_simp
        generalize (w_2.alloc (.cells #[.int .i64 0, .slice none 0 0] 26)) = w_3 at *
        obtain ⟨b, hbe⟩ : ∃ b, w_2.heap.size = b := ⟨_, rfl⟩
        rw [hbe] at HX3 HBG ⊢
        have HN9 := Lib.hid (Nat.le_trans HN2.out.1 (Nat.le_of_eq hbe))
        have HD9 := Lib.hid (Nat.le_trans HD2.out.1 (Nat.le_of_eq hbe))
        clear hbe
        refine hK.out _ _ ⟨HT3.out.gr.cells.1, HT3.out.gr.cells.2.1⟩ (fun hHeld => ?_)
        clear hK K
        refine wpAnyH_ready (rs := [7]) (by kernel_rfl) (by simp) (AllReadyH.cons rfl (fun K hK => ?_) AllReadyH.nil)
        go_simp
        refine hK.out _ _ ⟨HT3.out.gr.cells.1, HT3.out.gr.cells.2.1⟩ (fun hHeld => ?_)
        clear hK K
        refine wpAnyH_ready (rs := [8]) (by kernel_rfl) (by simp) (AllReadyH.cons rfl (fun K hK => ?_) AllReadyH.nil)
        obtain ⟨q0, q1, q2, q3⟩ := HX3.out.cells
        have HBT := Lib.hid (boxT_in HT3.out HX3.out HBG.out HN3.out HNL.out (.inl HN9.out) HD3.out HDL.out (.inl HD9.out) (cn := cn) (cd := cd))
        have HT4 := Lib.hid (HT3.out.by (ret2 HX3.out (.int .i64 p) (.slice Ad (offI v l).length cd)).2 HBG.out)
        go_simp
        clear q0 q1 q2 q3
        generalize ((w_3.setCell ⟨b, 0, none⟩ (.int .i64 p)).setCell ⟨b, 1, none⟩ (.slice Ad (offI v l).length cd)) = w_4 at *
        refine hK.out _ _ ⟨HT4.out.gr.cells.1, HT4.out.gr.cells.2.1⟩ (fun hHeld => ?_)
        clear hK K
        refine wpAnyH_done (by kernel_rfl) ?_ _
        clear hHeld
        go_wp2_with fail
        go_meet
        case rel => exact HBT.out
      · have hb := new_below w_1 (.cells #[.int .i64 0, .slice none 0 0] 26)
        have HT2 := Lib.hid (HT1.out.below hb)
        have HN2 := Lib.hid (HN1.out.within (within_of hb) (.inr (Nat.zero_le _)))
        have HX2 := Lib.hid (cel2_new w_1 (.int .i64 0) (.slice none 0 0) 26)
        have HBG := Lib.hid HT1.out.lt
        clear hb
        go_simp
        generalize (w_1.alloc (.cells #[.int .i64 0, .slice none 0 0] 26)) = w_2 at *
        obtain ⟨b, hbe⟩ : ∃ b, w_1.heap.size = b := ⟨_, rfl⟩
        rw [hbe] at HX2 HBG ⊢
        have HN9 := Lib.hid (Nat.le_trans HN1.out.1 (Nat.le_of_eq hbe))
        clear hbe
        refine hK.out _ _ ⟨HT2.out.gr.cells.1, HT2.out.gr.cells.2.1⟩ (fun hHeld => ?_)
        clear hK K
        refine wpAnyH_ready (rs := [5]) (by kernel_rfl) (by simp) (AllReadyH.cons rfl (fun K hK => ?_) AllReadyH.nil)
        go_simp
        go_at_call 210
        refine (HFC.out _ HT2.out).mono ?_
        rintro e w_3 ⟨Ad, cd, rfl, ho, hb⟩
        have HT3 := Lib.hid (HT2.out.below hb)
        have HN3 := Lib.hid (HN2.out.within (within_of hb) (.inr (Nat.zero_le _)))
        have HX3 := Lib.hid (HX2.out.kept hb)
        have HD3 := Lib.hid ho.bars
        have HDL := Lib.hid HT2.out.lt
        have HDB := Lib.hid (show b + 1 ≤ w_2.heap.size from HX2.out.lt)
        clear ho hb
        refine hK.out _ _ ⟨HT3.out.gr.cells.1, HT3.out.gr.cells.2.1⟩ (fun hHeld => ?_)
        clear hK K
        refine wpAnyH_ready (rs := [7]) (by kernel_rfl) (by simp) (AllReadyH.cons rfl (fun K hK => ?_) AllReadyH.nil)
        go_simp
        refine hK.out _ _ ⟨HT3.out.gr.cells.1, HT3.out.gr.cells.2.1⟩ (fun hHeld => ?_)
        clear hK K
        refine wpAnyH_ready (rs := [8]) (by kernel_rfl) (by simp) (AllReadyH.cons rfl (fun K hK => ?_) AllReadyH.nil)
        obtain ⟨q0, q1, q2, q3⟩ := HX3.out.cells
        have HBT := Lib.hid (boxT_in HT3.out HX3.out HBG.out HN3.out HNL.out (.inl HN9.out) HD3.out HDL.out (.inr HDB.out) (cn := cn) (cd := cd))
        have HT4 := Lib.hid (HT3.out.by (ret2 HX3.out (.int .i64 p) (.slice Ad (offI v l).length cd)).2 HBG.out)
        go_simp
        clear q0 q1 q2 q3
        generalize ((w_3.setCell ⟨b, 0, none⟩ (.int .i64 p)).setCell ⟨b, 1, none⟩ (.slice Ad (offI v l).length cd)) = w_4 at *
        refine hK.out _ _ ⟨HT4.out.gr.cells.1, HT4.out.gr.cells.2.1⟩ (fun hHeld => ?_)
        clear hK K
        refine wpAnyH_done (by kernel_rfl) ?_ _
        clear hHeld
        go_wp2_with fail
        go_meet
        case rel => exact HBT.out
    · have hb := new_below WD (.cells #[.int .i64 0, .slice none 0 0] 26)
      have HT1 := Lib.hid (HT0.out.below hb)
      have HX1 := Lib.hid (cel2_new WD (.int .i64 0) (.slice none 0 0) 26)
      have HBG := Lib.hid HT0.out.lt
      clear hb
      go_simp
      generalize (WD.alloc (.cells #[.int .i64 0, .slice none 0 0] 26)) = w_1 at *
      obtain ⟨b, hbe⟩ : ∃ b, WD.heap.size = b := ⟨_, rfl⟩
      rw [hbe] at HX1 HBG ⊢
      clear hbe
      refine hK.out _ _ ⟨HT1.out.gr.cells.1, HT1.out.gr.cells.2.1⟩ (fun hHeld => ?_)
      clear hK K
      refine wpAnyH_ready (rs := [2]) (by kernel_rfl) (by simp) (AllReadyH.cons rfl (fun K hK => ?_) AllReadyH.nil)
      go_simp
      go_at_call 209
      refine (HNC.out _ HT1.out).mono ?_
      rintro e w_2 ⟨An, cn, rfl, ho, hb⟩
      have HT2 := Lib.hid (HT1.out.below hb)
      have HX2 := Lib.hid (HX1.out.kept hb)
      have HN2 := Lib.hid ho.reads
      have HNL := Lib.hid HT1.out.lt
      have HNB := Lib.hid (show b + 1 ≤ w_1.heap.size from HX1.out.lt)
      clear ho hb
      refine hK.out _ _ ⟨HT2.out.gr.cells.1, HT2.out.gr.cells.2.1⟩ (fun hHeld => ?_)
      clear hK K
      refine wpAnyH_ready (rs := [5]) (by kernel_rfl) (by simp) (AllReadyH.cons rfl (fun K hK => ?_) AllReadyH.nil)
      go_simp
      go_at_call 210
      refine (HFC.out _ HT2.out).mono ?_
      rintro e w_3 ⟨Ad, cd, rfl, ho, hb⟩
      have HT3 := Lib.hid (HT2.out.below hb)
      have HN3 := Lib.hid (HN2.out.within (within_of hb) (.inr (Nat.zero_le _)))
      have HX3 := Lib.hid (HX2.out.kept hb)
      have HD3 := Lib.hid ho.bars
      have HDL := Lib.hid HT2.out.lt
      have HDB := Lib.hid (show b + 1 ≤ w_2.heap.size from HX2.out.lt)
      clear ho hb
      refine hK.out _ _ ⟨HT3.out.gr.cells.1, HT3.out.gr.cells.2.1⟩ (fun hHeld => ?_)
      clear hK K
      refine wpAnyH_ready (rs := [7]) (by kernel_rfl) (by simp) (AllReadyH.cons rfl (fun K hK => ?_) AllReadyH.nil)
      go_simp
      refine hK.out _ _ ⟨HT3.out.gr.cells.1, HT3.out.gr.cells.2.1⟩ (fun hHeld => ?_)
      clear hK K
      refine wpAnyH_ready (rs := [8]) (by kernel_rfl) (by simp) (AllReadyH.cons rfl (fun K hK => ?_) AllReadyH.nil)
      obtain ⟨q0, q1, q2, q3⟩ := HX3.out.cells
      have HBT := Lib.hid (boxT_in HT3.out HX3.out HBG.out HN3.out HNL.out (.inr HNB.out) HD3.out HDL.out (.inr HDB.out) (cn := cn) (cd := cd))
      have HT4 := Lib.hid (HT3.out.by (ret2 HX3.out (.int .i64 p) (.slice Ad (offI v l).length cd)).2 HBG.out)
      go_simp
      clear q0 q1 q2 q3
      generalize ((w_3.setCell ⟨b, 0, none⟩ (.int .i64 p)).setCell ⟨b, 1, none⟩ (.slice Ad (offI v l).length cd)) = w_4 at *
      refine hK.out _ _ ⟨HT4.out.gr.cells.1, HT4.out.gr.cells.2.1⟩ (fun hHeld => ?_)
      clear hK K
      refine wpAnyH_done (by kernel_rfl) ?_ _
      clear hHeld
      go_wp2_with fail
      go_meet
      case rel => exact HBT.out
  case rest =>
    obtain ⟨An, cn, b, Ad, cd, rfl, rfl, ht, hn5, hb, hx, hd⟩ := hcut
    have HTc := Lib.hid ht
    have HNc := Lib.hid hn5
    have HBG := Lib.hid hb
    have HXc := Lib.hid hx
    have HDc := Lib.hid hd
    clear ht hn5 hb hx hd
    by_cases c : (nearL v l).length = 3
    · obtain ⟨x0, x1, x2, hns⟩ := three_of c
      have hnt := H3.out _ _ _ hns
      have hof := off_less c
      have OFL := Lib.hid hof
      have hr3 : fstN (undo3i p v l) 3 = r := by
        rw [← HR0.out]
        unfold undo3
        rw [if_pos c]
      have HR3 := Lib.hid hr3
      have HNS := Lib.hid hns
      rw [hns] at HNc ⊢
      obtain ⟨g, off, rfl⟩ := HNc.out.addr (by simp)
      rw [show ([x0, x1, x2] : List Int).length = 3 from rfl]
      clear c hns hr3 hof
      go_wp2_with fail
      go_loopw [50] (fun i wr => ∃ k : Nat, k ≤ 3 ∧ i = .int .i64 k ∧ fstN (undo3i p v l) k = none ∧ TkZ w wr p A cap l ∧ NrI w wr (some ⟨g, off, none⟩) [x0, x1, x2] ∧ Cel2 wr b 26 (.int .i64 p) (.slice Ad (offI v l).length cd) ∧ DrI w wr Ad (offI v l)) (fun i _ => 3 - (intOf i).toNat)
      case atStart => exact ⟨0, by omega, rfl, rfl, HTc.out, HNc.out, HXc.out, HDc.out⟩
      case round =>
        clear HTc HNc HXc HDc
        obtain ⟨k, hk, rfl, hfk, ht, hn5, hx, hd⟩ := hrel
        have HTc := Lib.hid ht
        have HNc := Lib.hid hn5
        have HXc := Lib.hid hx
        have HDc := Lib.hid hd
        have HFK := Lib.hid hfk
        clear ht hn5 hx hd hfk
        by_cases hk3 : k < 3
        · have c0 := HNc.out.cell (k := 0) (by simp)
          have c1 := HNc.out.cell (k := 1) (by simp)
          have c2 := HNc.out.cell (k := 2) (by simp)
          simp only [List.getD_cons_zero, List.getD_cons_succ, Nat.add_zero] at c0 c1 c2
          obtain rfl | rfl | rfl : k = 0 ∨ k = 1 ∨ k = 2 := by omega
          · skip
            have hz : ((0 : Nat) : Int) = 0 := rfl
            rw [hz]
            clear hz
            obtain ⟨L, hL⟩ : ∃ L, insU (brS x0 x1) (offI v l) = L := ⟨_, rfl⟩
            have hjL : join3 v l 0 = L := by unfold join3; rw [HNS.out]; exact hL
            have hLl : L.length ≤ 1048576 := by rw [← hL, insU_len]; have := offI_len v l; omega
            have hj1 : joinL x0 (offI v l) [x1] [x1].length = L := hL
            have hjc := fun (W : World) (zb : Nat) (lo hi : Nat) (h : BarsAt W W.heap.size Ad (offI v l)) (hz : IntsIn W lo hi (some ⟨zb, 0, none⟩) [x1]) => joined_c p x0 (offI v l) Ad cd [x1] zb lo hi W h (isG_off HG.out) (by omega) (fun j hj => by have hj0 : j = 0 := (by simpa using hj); subst hj0; exact ⟨by show 0 ≤ x1 ∧ x1 < p; omega, by show x0 ≠ x1; omega⟩) (by have := OFL.out; show (offI v l).length + 1 ≤ 24; omega) (by simp) hz
            simp only [hj1] at hjc
            have HJC := Lib.hid hjc
            clear hj1 hjc
            have HLL := Lib.hid hLl
            have HJL := Lib.hid hjL
            clear hLl hjL hL
            go_wp2_with fail
            have hdr : Below wr.heap.size wr wr.drew := (Below.refl _ _).drew
            have HTd := Lib.hid (HTc.out.below hdr)
            have HNd := Lib.hid (HNc.out.below hdr)
            have HXd := Lib.hid (HXc.out.kept hdr)
            have HDd := Lib.hid (HDc.out.below hdr)
            clear hdr c0 c1 c2 HTc HNc HXc HDc
            refine wp_region_held_drew (S := (fun W' : World => W'.cell? ⟨g, off + 1, none⟩ = some (.int .i64 x1) ∧ W'.cell? ⟨g, off + 2, none⟩ = some (.int .i64 x2))) (by kernel_rfl) ?_ (fun hHeld => ?_)
            · exact ⟨HNd.out.cell (k := 1) (by simp), HNd.out.cell (k := 2) (by simp)⟩
            generalize wr.drew = wd at *
            refine wpAnyH_take (i := 0) (v := .slice (some ⟨g, off, none⟩) 3 cn) rfl (by kernel_rfl) (by kernel_rfl) (by kernel_rfl) (fun _ _ _ h => h) (Or.inl ⟨by kernel_rfl, fun w hSw => by (try dsimp only at hSw); go_simp; all_goals first | omega | exact IntWalk.i64_in _ (by omega)⟩) (by assumption) ?_
            try simp only [Act.put, List.getElem_toArray, List.getElem_cons_zero, List.setIfInBounds_toArray, List.set_cons_zero, List.set_cons_succ]
            refine wpAnyH_take (i := 1) (v := .int .i64 0) rfl (by kernel_rfl) (by kernel_rfl) (by kernel_rfl) (fun _ _ _ h => h) (Or.inl ⟨by kernel_rfl, fun w hSw => by (try dsimp only at hSw); go_simp; all_goals first | omega | exact IntWalk.i64_in _ (by omega)⟩) (by assumption) ?_
            try simp only [Act.put, List.getElem_toArray, List.getElem_cons_zero, List.getElem_cons_succ, List.setIfInBounds_toArray, List.set_cons_zero, List.set_cons_succ]
            refine wpAnyH_take (i := 2) (v := .int .i64 1) rfl (by kernel_rfl) (by kernel_rfl) (by kernel_rfl) (fun _ _ _ h => h) (Or.inl ⟨by kernel_rfl, fun w hSw => by (try dsimp only at hSw); go_simp; all_goals first | omega | exact IntWalk.i64_in _ (by omega)⟩) (by assumption) ?_
            try simp only [Act.put, List.getElem_toArray, List.getElem_cons_zero, List.getElem_cons_succ, List.setIfInBounds_toArray, List.set_cons_zero, List.set_cons_succ]
            refine wpAnyH_take (i := 3) (v := .int .i64 1) rfl (by kernel_rfl) (by kernel_rfl) (by kernel_rfl) (fun _ _ _ h => h) (Or.inl ⟨by kernel_rfl, fun w hSw => by (try dsimp only at hSw); go_simp; all_goals first | omega | exact IntWalk.i64_in _ (by omega)⟩) (by assumption) ?_
            try simp only [Act.put, List.getElem_toArray, List.getElem_cons_zero, List.getElem_cons_succ, List.setIfInBounds_toArray, List.set_cons_zero, List.set_cons_succ]
            refine wpAnyH_take (i := 4) (v := .pointer (some ⟨g, off + 1, none⟩)) rfl (by kernel_rfl) (by kernel_rfl) (by kernel_rfl) (fun _ _ _ h => h) (Or.inl ⟨by kernel_rfl, fun w hSw => by (try dsimp only at hSw); go_simp; all_goals first | omega | exact IntWalk.i64_in _ (by omega)⟩) (by assumption) ?_
            try simp only [Act.put, List.getElem_toArray, List.getElem_cons_zero, List.getElem_cons_succ, List.setIfInBounds_toArray, List.set_cons_zero, List.set_cons_succ]
            refine wpAnyH_take (i := 5) (v := .int .i64 x1) rfl (by kernel_rfl) (by kernel_rfl) (by kernel_rfl) (fun _ _ _ h => h) (Or.inl ⟨by kernel_rfl, fun w hSw => by (try dsimp only at hSw); go_simp; all_goals first | omega | exact IntWalk.i64_in _ (by omega)⟩) (by assumption) ?_
            try simp only [Act.put, List.getElem_toArray, List.getElem_cons_zero, List.getElem_cons_succ, List.setIfInBounds_toArray, List.set_cons_zero, List.set_cons_succ]
            refine wpAnyH_take (i := 6) (v := .slice (some ⟨g, off, none⟩) 3 cn) rfl (by kernel_rfl) (by kernel_rfl) (by kernel_rfl) (fun _ _ _ h => h) (Or.inl ⟨by kernel_rfl, fun w hSw => by (try dsimp only at hSw); go_simp; all_goals first | omega | exact IntWalk.i64_in _ (by omega)⟩) (by assumption) ?_
            try simp only [Act.put, List.getElem_toArray, List.getElem_cons_zero, List.getElem_cons_succ, List.setIfInBounds_toArray, List.set_cons_zero, List.set_cons_succ]
            refine wpAnyH_take (i := 7) (v := .int .i64 0) rfl (by kernel_rfl) (by kernel_rfl) (by kernel_rfl) (fun _ _ _ h => h) (Or.inl ⟨by kernel_rfl, fun w hSw => by (try dsimp only at hSw); go_simp; all_goals first | omega | exact IntWalk.i64_in _ (by omega)⟩) (by assumption) ?_
            try simp only [Act.put, List.getElem_toArray, List.getElem_cons_zero, List.getElem_cons_succ, List.setIfInBounds_toArray, List.set_cons_zero, List.set_cons_succ]
            refine wpAnyH_take (i := 8) (v := .int .i64 2) rfl (by kernel_rfl) (by kernel_rfl) (by kernel_rfl) (fun _ _ _ h => h) (Or.inl ⟨by kernel_rfl, fun w hSw => by (try dsimp only at hSw); go_simp; all_goals first | omega | exact IntWalk.i64_in _ (by omega)⟩) (by assumption) ?_
            try simp only [Act.put, List.getElem_toArray, List.getElem_cons_zero, List.getElem_cons_succ, List.setIfInBounds_toArray, List.set_cons_zero, List.set_cons_succ]
            refine wpAnyH_take (i := 9) (v := .int .i64 2) rfl (by kernel_rfl) (by kernel_rfl) (by kernel_rfl) (fun _ _ _ h => h) (Or.inl ⟨by kernel_rfl, fun w hSw => by (try dsimp only at hSw); go_simp; all_goals first | omega | exact IntWalk.i64_in _ (by omega)⟩) (by assumption) ?_
            try simp only [Act.put, List.getElem_toArray, List.getElem_cons_zero, List.getElem_cons_succ, List.setIfInBounds_toArray, List.set_cons_zero, List.set_cons_succ]
            refine wpAnyH_take (i := 10) (v := .pointer (some ⟨g, off + 2, none⟩)) rfl (by kernel_rfl) (by kernel_rfl) (by kernel_rfl) (fun _ _ _ h => h) (Or.inl ⟨by kernel_rfl, fun w hSw => by (try dsimp only at hSw); go_simp; all_goals first | omega | exact IntWalk.i64_in _ (by omega)⟩) (by assumption) ?_
            try simp only [Act.put, List.getElem_toArray, List.getElem_cons_zero, List.getElem_cons_succ, List.setIfInBounds_toArray, List.set_cons_zero, List.set_cons_succ]
            refine wpAnyH_take (i := 11) (v := .int .i64 x2) rfl (by kernel_rfl) (by kernel_rfl) (by kernel_rfl) (fun _ _ _ h => h) (Or.inl ⟨by kernel_rfl, fun w hSw => by (try dsimp only at hSw); go_simp; all_goals first | omega | exact IntWalk.i64_in _ (by omega)⟩) (by assumption) ?_
            try simp only [Act.put, List.getElem_toArray, List.getElem_cons_zero, List.getElem_cons_succ, List.setIfInBounds_toArray, List.set_cons_zero, List.set_cons_succ]
            refine wpAnyH_ready (rs := [12]) (by kernel_rfl) (by simp) (AllReadyH.cons rfl (fun K hK => ?_) AllReadyH.nil)
            go_simp
            refine hK.out _ _ ⟨HNd.out.cell (k := 1) (by simp), HNd.out.cell (k := 2) (by simp)⟩ (fun hHeld => ?_)
            clear hK K
            try simp only [Act.put, List.getElem_toArray, List.getElem_cons_zero, List.getElem_cons_succ, List.setIfInBounds_toArray, List.set_cons_zero, List.set_cons_succ]
            refine wpAnyH_ready (rs := [13]) (by kernel_rfl) (by simp) (AllReadyH.cons rfl (fun K hK => ?_) AllReadyH.nil)
            go_simp
            refine hK.out _ _ ⟨HNd.out.cell (k := 1) (by simp), HNd.out.cell (k := 2) (by simp)⟩ (fun hHeld => ?_)
            clear hK K
            try simp only [Act.put, List.getElem_toArray, List.getElem_cons_zero, List.getElem_cons_succ, List.setIfInBounds_toArray, List.set_cons_zero, List.set_cons_succ]
            refine wpAnyH_done (by kernel_rfl) ?_ _
            clear hHeld
            obtain ⟨q0, q1, _, _⟩ := HXd.out.cells
            by_cases hs : sparseB p 2 3 L = true
            · have hr : r = some ((2, v, min x0 x1, max x0 x1, x2), L) := by
                rw [← HR3.out]
                refine fstN_first HFK.out ?_ 3 (by omega)
                unfold undo3i
                rw [HJL.out, if_pos hs, HNS.out]
                rfl
              subst hr
              go_wp2_with (first
                | (go_at_call 211; have hb4 := new_below wd (.cells #[.int .i64 x1] 3); refine (HJC.out _ _ _ _ (HDd.out.below hb4).at (one_int wd x1)).mono ?_; rintro e w8 ⟨Ae, ce, rfl, ho, hb⟩; have HT8 := Lib.hid ((HTd.out.below hb4).below hb); have HN8 := Lib.hid ((HNd.out.below hb4).below hb); have HX8 := Lib.hid ((HXd.out.kept hb4).kept hb); have HD8 := Lib.hid ((HDd.out.below hb4).below hb); have HJ8 := Lib.hid (drI_own (HTd.out.below hb4).lt ho); clear ho hb hb4)
                | (go_at_call 212; have hb9 := new_below w8 (.cells #[.int .i64 p, .slice Ae L.length ce] 26); have hj9 := HJ8.out.below hb9; refine (implSparse p 2 3 L Ae ce _ hj9.at HLL.out).mono ?_; rintro e wA ⟨rfl, hb⟩; have HTc := Lib.hid ((HT8.out.below hb9).below hb); have HNc := Lib.hid ((HN8.out.below hb9).below hb); have HXc := Lib.hid ((HX8.out.kept hb9).kept hb); have HDc := Lib.hid ((HD8.out.below hb9).below hb); have HJc := Lib.hid (hj9.below hb); have HBc := Lib.hid ((cel2_new w8 (.int .i64 p) (.slice Ae L.length ce) 26).kept hb); have HGE := Lib.hid HT8.out.lt; clear hb hb9 hj9; simp only [hs]))
              clear q0 q1 HT8 HN8 HX8 HD8 HJ8 HJC
              generalize w8.heap.size = xj at *
              have hdr : Below wA.heap.size wA wA.drew := (Below.refl _ _).drew
              have HTd := Lib.hid (HTc.out.below hdr)
              have HBd := Lib.hid (HBc.out.kept hdr)
              have HJd := Lib.hid (HJc.out.below hdr)
              clear hdr
              clear HTc HNc HXc HDc HBc HJc
              refine wp_region_held_drew (S := (fun W' : World => W'.cell? ⟨xj, 0, none⟩ = some (.int .i64 p) ∧ W'.cell? ⟨xj, 1, none⟩ = some (.slice Ae L.length ce))) (by kernel_rfl) ?_ (fun hHeld => ?_)
              · exact ⟨HBd.out.cells.1, HBd.out.cells.2.1⟩
              generalize wA.drew = wd at *
              refine wpAnyH_take (i := 0) (v := .int .i64 2) rfl (by kernel_rfl) (by kernel_rfl) (by kernel_rfl) (fun _ _ _ h => h) (Or.inl ⟨by kernel_rfl, fun w hSw => by (try dsimp only at hSw); go_simp; all_goals first | omega | exact IntWalk.i64_in _ (by omega)⟩) (by assumption) ?_
              try simp only [Act.put, List.getElem_toArray, List.getElem_cons_zero, List.getElem_toArray, List.getElem_cons_zero, List.setIfInBounds_toArray, List.set_cons_zero, List.set_cons_succ]
              refine wpAnyH_take (i := 1) (v := .int .i64 v) rfl (by kernel_rfl) (by kernel_rfl) (by kernel_rfl) (fun _ _ _ h => h) (Or.inl ⟨by kernel_rfl, fun w hSw => by (try dsimp only at hSw); go_simp; all_goals first | omega | exact IntWalk.i64_in _ (by omega)⟩) (by assumption) ?_
              try simp only [Act.put, List.getElem_toArray, List.getElem_cons_zero, List.getElem_cons_succ, List.getElem_toArray, List.getElem_cons_zero, List.getElem_cons_succ, List.setIfInBounds_toArray, List.set_cons_zero, List.set_cons_succ]
              refine wpAnyH_take (i := 2) (v := .int .i64 x0) rfl (by kernel_rfl) (by kernel_rfl) (by kernel_rfl) (fun _ _ _ h => h) (Or.inl ⟨by kernel_rfl, fun w hSw => by (try dsimp only at hSw); go_simp; all_goals first | omega | exact IntWalk.i64_in _ (by omega)⟩) (by assumption) ?_
              try simp only [Act.put, List.getElem_toArray, List.getElem_cons_zero, List.getElem_cons_succ, List.getElem_toArray, List.getElem_cons_zero, List.getElem_cons_succ, List.setIfInBounds_toArray, List.set_cons_zero, List.set_cons_succ]
              refine wpAnyH_take (i := 3) (v := .int .i64 x1) rfl (by kernel_rfl) (by kernel_rfl) (by kernel_rfl) (fun _ _ _ h => h) (Or.inl ⟨by kernel_rfl, fun w hSw => by (try dsimp only at hSw); go_simp; all_goals first | omega | exact IntWalk.i64_in _ (by omega)⟩) (by assumption) ?_
              try simp only [Act.put, List.getElem_toArray, List.getElem_cons_zero, List.getElem_cons_succ, List.getElem_toArray, List.getElem_cons_zero, List.getElem_cons_succ, List.setIfInBounds_toArray, List.set_cons_zero, List.set_cons_succ]
              refine wpAnyH_take (i := 4) (v := .int .i64 (min x0 x1)) rfl (by kernel_rfl) (by kernel_rfl) (by kernel_rfl) (fun _ _ _ h => h) (Or.inl ⟨by kernel_rfl, fun w hSw => by (try dsimp only at hSw); go_simp; all_goals first | omega | exact IntWalk.i64_in _ (by omega)⟩) (by assumption) ?_
              try simp only [Act.put, List.getElem_toArray, List.getElem_cons_zero, List.getElem_cons_succ, List.getElem_toArray, List.getElem_cons_zero, List.getElem_cons_succ, List.setIfInBounds_toArray, List.set_cons_zero, List.set_cons_succ]
              refine wpAnyH_take (i := 5) (v := .int .i64 x0) rfl (by kernel_rfl) (by kernel_rfl) (by kernel_rfl) (fun _ _ _ h => h) (Or.inl ⟨by kernel_rfl, fun w hSw => by (try dsimp only at hSw); go_simp; all_goals first | omega | exact IntWalk.i64_in _ (by omega)⟩) (by assumption) ?_
              try simp only [Act.put, List.getElem_toArray, List.getElem_cons_zero, List.getElem_cons_succ, List.getElem_toArray, List.getElem_cons_zero, List.getElem_cons_succ, List.setIfInBounds_toArray, List.set_cons_zero, List.set_cons_succ]
              refine wpAnyH_take (i := 6) (v := .int .i64 x1) rfl (by kernel_rfl) (by kernel_rfl) (by kernel_rfl) (fun _ _ _ h => h) (Or.inl ⟨by kernel_rfl, fun w hSw => by (try dsimp only at hSw); go_simp; all_goals first | omega | exact IntWalk.i64_in _ (by omega)⟩) (by assumption) ?_
              try simp only [Act.put, List.getElem_toArray, List.getElem_cons_zero, List.getElem_cons_succ, List.getElem_toArray, List.getElem_cons_zero, List.getElem_cons_succ, List.setIfInBounds_toArray, List.set_cons_zero, List.set_cons_succ]
              refine wpAnyH_take (i := 7) (v := .int .i64 (max x0 x1)) rfl (by kernel_rfl) (by kernel_rfl) (by kernel_rfl) (fun _ _ _ h => h) (Or.inl ⟨by kernel_rfl, fun w hSw => by (try dsimp only at hSw); go_simp; all_goals first | omega | exact IntWalk.i64_in _ (by omega)⟩) (by assumption) ?_
              try simp only [Act.put, List.getElem_toArray, List.getElem_cons_zero, List.getElem_cons_succ, List.getElem_toArray, List.getElem_cons_zero, List.getElem_cons_succ, List.setIfInBounds_toArray, List.set_cons_zero, List.set_cons_succ]
              refine wpAnyH_take (i := 8) (v := .int .i64 x2) rfl (by kernel_rfl) (by kernel_rfl) (by kernel_rfl) (fun _ _ _ h => h) (Or.inl ⟨by kernel_rfl, fun w hSw => by (try dsimp only at hSw); go_simp; all_goals first | omega | exact IntWalk.i64_in _ (by omega)⟩) (by assumption) ?_
              try simp only [Act.put, List.getElem_toArray, List.getElem_cons_zero, List.getElem_cons_succ, List.getElem_toArray, List.getElem_cons_zero, List.getElem_cons_succ, List.setIfInBounds_toArray, List.set_cons_zero, List.set_cons_succ]
              refine wpAnyH_take (i := 9) (v := .agg #[.int .i64 2, .int .i64 v, .int .i64 (min x0 x1), .int .i64 (max x0 x1), .int .i64 x2]) rfl (by kernel_rfl) (by kernel_rfl) (by kernel_rfl) (fun _ _ _ h => h) (Or.inl ⟨by kernel_rfl, fun w hSw => by (try dsimp only at hSw); go_simp; all_goals first | omega | exact IntWalk.i64_in _ (by omega)⟩) (by assumption) ?_
              try simp only [Act.put, List.getElem_toArray, List.getElem_cons_zero, List.getElem_cons_succ, List.getElem_toArray, List.getElem_cons_zero, List.getElem_cons_succ, List.setIfInBounds_toArray, List.set_cons_zero, List.set_cons_succ]
              refine wpAnyH_take (i := 10) (v := .agg #[.int .i64 p, .slice Ae L.length ce]) rfl (by kernel_rfl) (by kernel_rfl) (by kernel_rfl) (fun _ _ _ h => h) (Or.inl ⟨by kernel_rfl, fun w hSw => by (try dsimp only at hSw); go_simp; all_goals first | omega | exact IntWalk.i64_in _ (by omega)⟩) (by assumption) ?_
              try simp only [Act.put, List.getElem_toArray, List.getElem_cons_zero, List.getElem_cons_succ, List.getElem_toArray, List.getElem_cons_zero, List.getElem_cons_succ, List.setIfInBounds_toArray, List.set_cons_zero, List.set_cons_succ]
              refine wpAnyH_ready (rs := [11]) (by kernel_rfl) (by simp) (AllReadyH.cons rfl (fun K hK => ?_) AllReadyH.nil)
              obtain ⟨⟨q0, q1, q2, q3, q4⟩, q5, q6, q7, q8, q9⟩ := And.intro HTd.out.r3.cells HTd.out.r3.froz
              obtain ⟨hs1, hs2⟩ := HTd.out.set3 (.int .i64 2) (.int .i64 v) (.int .i64 (min x0 x1)) (.int .i64 (max x0 x1)) (.int .i64 x2)
              have HTe := Lib.hid hs1
              have HBe := Lib.hid (HBd.out.within hs2 (.inr HGE.out))
              have HJe := Lib.hid (HJd.out.set hs2)
              clear hs1 hs2
              go_simp
              clear q0 q1 q2 q3 q4 q5 q6 q7 q8 q9
              generalize (((((wd.setCell ⟨w.heap.size + 1, 0, none⟩ (.int .i64 2)).setCell ⟨w.heap.size + 1, 1, none⟩ (.int .i64 v)).setCell ⟨w.heap.size + 1, 2, none⟩ (.int .i64 (min x0 x1))).setCell ⟨w.heap.size + 1, 3, none⟩ (.int .i64 (max x0 x1))).setCell ⟨w.heap.size + 1, 4, none⟩ (.int .i64 x2)) = we at *
              refine hK.out _ _ ⟨HBe.out.cells.1, HBe.out.cells.2.1⟩ (fun hHeld => ?_)
              clear hK K
              try simp only [Act.put, List.getElem_toArray, List.getElem_cons_zero, List.getElem_cons_succ, List.getElem_toArray, List.getElem_cons_zero, List.getElem_cons_succ, List.setIfInBounds_toArray, List.set_cons_zero, List.set_cons_succ]
              refine wpAnyH_ready (rs := [12]) (by kernel_rfl) (by simp) (AllReadyH.cons rfl (fun K hK => ?_) AllReadyH.nil)
              obtain ⟨q0, q1, q2, q3⟩ := HTe.out.r2.cells
              obtain ⟨hs1, hs2⟩ := HTe.out.set2 (.int .i64 p) (.slice Ae L.length ce)
              have HTf := Lib.hid hs1
              have HBf := Lib.hid (HBe.out.within hs2 (.inr HGE.out))
              have HJf := Lib.hid (HJe.out.set hs2)
              clear hs1 hs2
              go_simp
              clear q0 q1 q2 q3
              generalize ((we.setCell ⟨w.heap.size + 2, 0, none⟩ (.int .i64 p)).setCell ⟨w.heap.size + 2, 1, none⟩ (.slice Ae L.length ce)) = wf at *
              refine hK.out _ _ ⟨HBf.out.cells.1, HBf.out.cells.2.1⟩ (fun hHeld => ?_)
              clear hK K
              try simp only [Act.put, List.getElem_toArray, List.getElem_cons_zero, List.getElem_cons_succ, List.getElem_toArray, List.getElem_cons_zero, List.getElem_cons_succ, List.setIfInBounds_toArray, List.set_cons_zero, List.set_cons_succ]
              refine wpAnyH_ready (rs := [13]) (by kernel_rfl) (by simp) (AllReadyH.cons rfl (fun K hK => ?_) AllReadyH.nil)
              go_simp
              refine hK.out _ _ ⟨HBf.out.cells.1, HBf.out.cells.2.1⟩ (fun hHeld => ?_)
              clear hK K
              try simp only [Act.put, List.getElem_toArray, List.getElem_cons_zero, List.getElem_cons_succ, List.getElem_toArray, List.getElem_cons_zero, List.getElem_cons_succ, List.setIfInBounds_toArray, List.set_cons_zero, List.set_cons_succ]
              refine wpAnyH_done (by kernel_rfl) ?_ _
              clear hHeld
              obtain ⟨q0, q1, _, _⟩ := HTf.out.r2.cells
              obtain ⟨q2, q3, q4, q5, q6⟩ := HTf.out.r3.cells
              go_wp2_with fail
              refine bodyPost_ret (v := .tuple #[.agg #[.int .i64 2, .int .i64 v, .int .i64 (min x0 x1), .int .i64 (max x0 x1), .int .i64 x2], .agg #[.int .i64 p, .slice Ae L.length ce], .bool true]) ?_ rfl ⟨Ae, ce, rfl, HJf.out, HTf.out.bel⟩
              simp [results, Try.results168, go_sem, q0, q1, q2, q3, q4, q5, q6]
            · have hs : sparseB p 2 3 L = false := by simpa using hs
              have HFK1 := Lib.hid (fstN_miss HFK.out (by unfold undo3i; rw [HJL.out, if_neg (by rw [hs]; simp)]))
              go_wp2_with (first
                | (go_at_call 211; have hb4 := new_below wd (.cells #[.int .i64 x1] 3); refine (HJC.out _ _ _ _ (HDd.out.below hb4).at (one_int wd x1)).mono ?_; rintro e w8 ⟨Ae, ce, rfl, ho, hb⟩; have HT8 := Lib.hid ((HTd.out.below hb4).below hb); have HN8 := Lib.hid ((HNd.out.below hb4).below hb); have HX8 := Lib.hid ((HXd.out.kept hb4).kept hb); have HD8 := Lib.hid ((HDd.out.below hb4).below hb); have HJ8 := Lib.hid (drI_own (HTd.out.below hb4).lt ho); clear ho hb hb4)
                | (go_at_call 212; have hb9 := new_below w8 (.cells #[.int .i64 p, .slice Ae L.length ce] 26); have hj9 := HJ8.out.below hb9; refine (implSparse p 2 3 L Ae ce _ hj9.at HLL.out).mono ?_; rintro e wA ⟨rfl, hb⟩; have HTc := Lib.hid ((HT8.out.below hb9).below hb); have HNc := Lib.hid ((HN8.out.below hb9).below hb); have HXc := Lib.hid ((HX8.out.kept hb9).kept hb); have HDc := Lib.hid ((HD8.out.below hb9).below hb); have HJc := Lib.hid (hj9.below hb); have HBc := Lib.hid ((cel2_new w8 (.int .i64 p) (.slice Ae L.length ce) 26).kept hb); have HGE := Lib.hid HT8.out.lt; clear hb hb9 hj9; simp only [hs]))
              go_roundw
              case rel => exact ⟨1, by omega, by go_num, HFK1.out, HTc.out, HNc.out, HXc.out, HDc.out⟩
              case measure => simp [intOf]
          · skip
            have hz : ((1 : Nat) : Int) = 1 := rfl
            rw [hz]
            clear hz
            obtain ⟨L, hL⟩ : ∃ L, insU (brS x1 x2) (offI v l) = L := ⟨_, rfl⟩
            have hjL : join3 v l 1 = L := by unfold join3; rw [HNS.out]; exact hL
            have hLl : L.length ≤ 1048576 := by rw [← hL, insU_len]; have := offI_len v l; omega
            have hj1 : joinL x1 (offI v l) [x2] [x2].length = L := hL
            have hjc := fun (W : World) (zb : Nat) (lo hi : Nat) (h : BarsAt W W.heap.size Ad (offI v l)) (hz : IntsIn W lo hi (some ⟨zb, 0, none⟩) [x2]) => joined_c p x1 (offI v l) Ad cd [x2] zb lo hi W h (isG_off HG.out) (by omega) (fun j hj => by have hj0 : j = 0 := (by simpa using hj); subst hj0; exact ⟨by show 0 ≤ x2 ∧ x2 < p; omega, by show x1 ≠ x2; omega⟩) (by have := OFL.out; show (offI v l).length + 1 ≤ 24; omega) (by simp) hz
            simp only [hj1] at hjc
            have HJC := Lib.hid hjc
            clear hj1 hjc
            have HLL := Lib.hid hLl
            have HJL := Lib.hid hjL
            clear hLl hjL hL
            go_wp2_with fail
            have hdr : Below wr.heap.size wr wr.drew := (Below.refl _ _).drew
            have HTd := Lib.hid (HTc.out.below hdr)
            have HNd := Lib.hid (HNc.out.below hdr)
            have HXd := Lib.hid (HXc.out.kept hdr)
            have HDd := Lib.hid (HDc.out.below hdr)
            clear hdr c0 c1 c2 HTc HNc HXc HDc
            refine wp_region_held_drew (S := (fun W' : World => W'.cell? ⟨g, off + 2, none⟩ = some (.int .i64 x2) ∧ W'.cell? ⟨g, off, none⟩ = some (.int .i64 x0))) (by kernel_rfl) ?_ (fun hHeld => ?_)
            · exact ⟨HNd.out.cell (k := 2) (by simp), HNd.out.cell (k := 0) (by simp)⟩
            generalize wr.drew = wd at *
            refine wpAnyH_take (i := 0) (v := .slice (some ⟨g, off, none⟩) 3 cn) rfl (by kernel_rfl) (by kernel_rfl) (by kernel_rfl) (fun _ _ _ h => h) (Or.inl ⟨by kernel_rfl, fun w hSw => by (try dsimp only at hSw); go_simp; all_goals first | omega | exact IntWalk.i64_in _ (by omega)⟩) (by assumption) ?_
            try simp only [Act.put, List.getElem_toArray, List.getElem_cons_zero, List.setIfInBounds_toArray, List.set_cons_zero, List.set_cons_succ]
            refine wpAnyH_take (i := 1) (v := .int .i64 1) rfl (by kernel_rfl) (by kernel_rfl) (by kernel_rfl) (fun _ _ _ h => h) (Or.inl ⟨by kernel_rfl, fun w hSw => by (try dsimp only at hSw); go_simp; all_goals first | omega | exact IntWalk.i64_in _ (by omega)⟩) (by assumption) ?_
            try simp only [Act.put, List.getElem_toArray, List.getElem_cons_zero, List.getElem_cons_succ, List.setIfInBounds_toArray, List.set_cons_zero, List.set_cons_succ]
            refine wpAnyH_take (i := 2) (v := .int .i64 2) rfl (by kernel_rfl) (by kernel_rfl) (by kernel_rfl) (fun _ _ _ h => h) (Or.inl ⟨by kernel_rfl, fun w hSw => by (try dsimp only at hSw); go_simp; all_goals first | omega | exact IntWalk.i64_in _ (by omega)⟩) (by assumption) ?_
            try simp only [Act.put, List.getElem_toArray, List.getElem_cons_zero, List.getElem_cons_succ, List.setIfInBounds_toArray, List.set_cons_zero, List.set_cons_succ]
            refine wpAnyH_take (i := 3) (v := .int .i64 2) rfl (by kernel_rfl) (by kernel_rfl) (by kernel_rfl) (fun _ _ _ h => h) (Or.inl ⟨by kernel_rfl, fun w hSw => by (try dsimp only at hSw); go_simp; all_goals first | omega | exact IntWalk.i64_in _ (by omega)⟩) (by assumption) ?_
            try simp only [Act.put, List.getElem_toArray, List.getElem_cons_zero, List.getElem_cons_succ, List.setIfInBounds_toArray, List.set_cons_zero, List.set_cons_succ]
            refine wpAnyH_take (i := 4) (v := .pointer (some ⟨g, off + 2, none⟩)) rfl (by kernel_rfl) (by kernel_rfl) (by kernel_rfl) (fun _ _ _ h => h) (Or.inl ⟨by kernel_rfl, fun w hSw => by (try dsimp only at hSw); go_simp; all_goals first | omega | exact IntWalk.i64_in _ (by omega)⟩) (by assumption) ?_
            try simp only [Act.put, List.getElem_toArray, List.getElem_cons_zero, List.getElem_cons_succ, List.setIfInBounds_toArray, List.set_cons_zero, List.set_cons_succ]
            refine wpAnyH_take (i := 5) (v := .int .i64 x2) rfl (by kernel_rfl) (by kernel_rfl) (by kernel_rfl) (fun _ _ _ h => h) (Or.inl ⟨by kernel_rfl, fun w hSw => by (try dsimp only at hSw); go_simp; all_goals first | omega | exact IntWalk.i64_in _ (by omega)⟩) (by assumption) ?_
            try simp only [Act.put, List.getElem_toArray, List.getElem_cons_zero, List.getElem_cons_succ, List.setIfInBounds_toArray, List.set_cons_zero, List.set_cons_succ]
            refine wpAnyH_take (i := 6) (v := .slice (some ⟨g, off, none⟩) 3 cn) rfl (by kernel_rfl) (by kernel_rfl) (by kernel_rfl) (fun _ _ _ h => h) (Or.inl ⟨by kernel_rfl, fun w hSw => by (try dsimp only at hSw); go_simp; all_goals first | omega | exact IntWalk.i64_in _ (by omega)⟩) (by assumption) ?_
            try simp only [Act.put, List.getElem_toArray, List.getElem_cons_zero, List.getElem_cons_succ, List.setIfInBounds_toArray, List.set_cons_zero, List.set_cons_succ]
            refine wpAnyH_take (i := 7) (v := .int .i64 1) rfl (by kernel_rfl) (by kernel_rfl) (by kernel_rfl) (fun _ _ _ h => h) (Or.inl ⟨by kernel_rfl, fun w hSw => by (try dsimp only at hSw); go_simp; all_goals first | omega | exact IntWalk.i64_in _ (by omega)⟩) (by assumption) ?_
            try simp only [Act.put, List.getElem_toArray, List.getElem_cons_zero, List.getElem_cons_succ, List.setIfInBounds_toArray, List.set_cons_zero, List.set_cons_succ]
            refine wpAnyH_take (i := 8) (v := .int .i64 3) rfl (by kernel_rfl) (by kernel_rfl) (by kernel_rfl) (fun _ _ _ h => h) (Or.inl ⟨by kernel_rfl, fun w hSw => by (try dsimp only at hSw); go_simp; all_goals first | omega | exact IntWalk.i64_in _ (by omega)⟩) (by assumption) ?_
            try simp only [Act.put, List.getElem_toArray, List.getElem_cons_zero, List.getElem_cons_succ, List.setIfInBounds_toArray, List.set_cons_zero, List.set_cons_succ]
            refine wpAnyH_take (i := 9) (v := .int .i64 0) rfl (by kernel_rfl) (by kernel_rfl) (by kernel_rfl) (fun _ _ _ h => h) (Or.inl ⟨by kernel_rfl, fun w hSw => by (try dsimp only at hSw); go_simp; all_goals first | omega | exact IntWalk.i64_in _ (by omega)⟩) (by assumption) ?_
            try simp only [Act.put, List.getElem_toArray, List.getElem_cons_zero, List.getElem_cons_succ, List.setIfInBounds_toArray, List.set_cons_zero, List.set_cons_succ]
            refine wpAnyH_take (i := 10) (v := .pointer (some ⟨g, off, none⟩)) rfl (by kernel_rfl) (by kernel_rfl) (by kernel_rfl) (fun _ _ _ h => h) (Or.inl ⟨by kernel_rfl, fun w hSw => by (try dsimp only at hSw); go_simp; all_goals first | omega | exact IntWalk.i64_in _ (by omega)⟩) (by assumption) ?_
            try simp only [Act.put, List.getElem_toArray, List.getElem_cons_zero, List.getElem_cons_succ, List.setIfInBounds_toArray, List.set_cons_zero, List.set_cons_succ]
            refine wpAnyH_take (i := 11) (v := .int .i64 x0) rfl (by kernel_rfl) (by kernel_rfl) (by kernel_rfl) (fun _ _ _ h => h) (Or.inl ⟨by kernel_rfl, fun w hSw => by (try dsimp only at hSw); go_simp; all_goals first | omega | exact IntWalk.i64_in _ (by omega)⟩) (by assumption) ?_
            try simp only [Act.put, List.getElem_toArray, List.getElem_cons_zero, List.getElem_cons_succ, List.setIfInBounds_toArray, List.set_cons_zero, List.set_cons_succ]
            refine wpAnyH_ready (rs := [12]) (by kernel_rfl) (by simp) (AllReadyH.cons rfl (fun K hK => ?_) AllReadyH.nil)
            go_simp
            refine hK.out _ _ ⟨HNd.out.cell (k := 2) (by simp), HNd.out.cell (k := 0) (by simp)⟩ (fun hHeld => ?_)
            clear hK K
            try simp only [Act.put, List.getElem_toArray, List.getElem_cons_zero, List.getElem_cons_succ, List.setIfInBounds_toArray, List.set_cons_zero, List.set_cons_succ]
            refine wpAnyH_ready (rs := [13]) (by kernel_rfl) (by simp) (AllReadyH.cons rfl (fun K hK => ?_) AllReadyH.nil)
            go_simp
            refine hK.out _ _ ⟨HNd.out.cell (k := 2) (by simp), HNd.out.cell (k := 0) (by simp)⟩ (fun hHeld => ?_)
            clear hK K
            try simp only [Act.put, List.getElem_toArray, List.getElem_cons_zero, List.getElem_cons_succ, List.setIfInBounds_toArray, List.set_cons_zero, List.set_cons_succ]
            refine wpAnyH_done (by kernel_rfl) ?_ _
            clear hHeld
            obtain ⟨q0, q1, _, _⟩ := HXd.out.cells
            by_cases hs : sparseB p 2 3 L = true
            · have hr : r = some ((2, v, min x1 x2, max x1 x2, x0), L) := by
                rw [← HR3.out]
                refine fstN_first HFK.out ?_ 3 (by omega)
                unfold undo3i
                rw [HJL.out, if_pos hs, HNS.out]
                rfl
              subst hr
              go_wp2_with (first
                | (go_at_call 211; have hb4 := new_below wd (.cells #[.int .i64 x2] 3); refine (HJC.out _ _ _ _ (HDd.out.below hb4).at (one_int wd x2)).mono ?_; rintro e w8 ⟨Ae, ce, rfl, ho, hb⟩; have HT8 := Lib.hid ((HTd.out.below hb4).below hb); have HN8 := Lib.hid ((HNd.out.below hb4).below hb); have HX8 := Lib.hid ((HXd.out.kept hb4).kept hb); have HD8 := Lib.hid ((HDd.out.below hb4).below hb); have HJ8 := Lib.hid (drI_own (HTd.out.below hb4).lt ho); clear ho hb hb4)
                | (go_at_call 212; have hb9 := new_below w8 (.cells #[.int .i64 p, .slice Ae L.length ce] 26); have hj9 := HJ8.out.below hb9; refine (implSparse p 2 3 L Ae ce _ hj9.at HLL.out).mono ?_; rintro e wA ⟨rfl, hb⟩; have HTc := Lib.hid ((HT8.out.below hb9).below hb); have HNc := Lib.hid ((HN8.out.below hb9).below hb); have HXc := Lib.hid ((HX8.out.kept hb9).kept hb); have HDc := Lib.hid ((HD8.out.below hb9).below hb); have HJc := Lib.hid (hj9.below hb); have HBc := Lib.hid ((cel2_new w8 (.int .i64 p) (.slice Ae L.length ce) 26).kept hb); have HGE := Lib.hid HT8.out.lt; clear hb hb9 hj9; simp only [hs]))
              clear q0 q1 HT8 HN8 HX8 HD8 HJ8 HJC
              generalize w8.heap.size = xj at *
              have hdr : Below wA.heap.size wA wA.drew := (Below.refl _ _).drew
              have HTd := Lib.hid (HTc.out.below hdr)
              have HBd := Lib.hid (HBc.out.kept hdr)
              have HJd := Lib.hid (HJc.out.below hdr)
              clear hdr
              clear HTc HNc HXc HDc HBc HJc
              refine wp_region_held_drew (S := (fun W' : World => W'.cell? ⟨xj, 0, none⟩ = some (.int .i64 p) ∧ W'.cell? ⟨xj, 1, none⟩ = some (.slice Ae L.length ce))) (by kernel_rfl) ?_ (fun hHeld => ?_)
              · exact ⟨HBd.out.cells.1, HBd.out.cells.2.1⟩
              generalize wA.drew = wd at *
              refine wpAnyH_take (i := 0) (v := .int .i64 2) rfl (by kernel_rfl) (by kernel_rfl) (by kernel_rfl) (fun _ _ _ h => h) (Or.inl ⟨by kernel_rfl, fun w hSw => by (try dsimp only at hSw); go_simp; all_goals first | omega | exact IntWalk.i64_in _ (by omega)⟩) (by assumption) ?_
              try simp only [Act.put, List.getElem_toArray, List.getElem_cons_zero, List.getElem_toArray, List.getElem_cons_zero, List.setIfInBounds_toArray, List.set_cons_zero, List.set_cons_succ]
              refine wpAnyH_take (i := 1) (v := .int .i64 v) rfl (by kernel_rfl) (by kernel_rfl) (by kernel_rfl) (fun _ _ _ h => h) (Or.inl ⟨by kernel_rfl, fun w hSw => by (try dsimp only at hSw); go_simp; all_goals first | omega | exact IntWalk.i64_in _ (by omega)⟩) (by assumption) ?_
              try simp only [Act.put, List.getElem_toArray, List.getElem_cons_zero, List.getElem_cons_succ, List.getElem_toArray, List.getElem_cons_zero, List.getElem_cons_succ, List.setIfInBounds_toArray, List.set_cons_zero, List.set_cons_succ]
              refine wpAnyH_take (i := 2) (v := .int .i64 x1) rfl (by kernel_rfl) (by kernel_rfl) (by kernel_rfl) (fun _ _ _ h => h) (Or.inl ⟨by kernel_rfl, fun w hSw => by (try dsimp only at hSw); go_simp; all_goals first | omega | exact IntWalk.i64_in _ (by omega)⟩) (by assumption) ?_
              try simp only [Act.put, List.getElem_toArray, List.getElem_cons_zero, List.getElem_cons_succ, List.getElem_toArray, List.getElem_cons_zero, List.getElem_cons_succ, List.setIfInBounds_toArray, List.set_cons_zero, List.set_cons_succ]
              refine wpAnyH_take (i := 3) (v := .int .i64 x2) rfl (by kernel_rfl) (by kernel_rfl) (by kernel_rfl) (fun _ _ _ h => h) (Or.inl ⟨by kernel_rfl, fun w hSw => by (try dsimp only at hSw); go_simp; all_goals first | omega | exact IntWalk.i64_in _ (by omega)⟩) (by assumption) ?_
              try simp only [Act.put, List.getElem_toArray, List.getElem_cons_zero, List.getElem_cons_succ, List.getElem_toArray, List.getElem_cons_zero, List.getElem_cons_succ, List.setIfInBounds_toArray, List.set_cons_zero, List.set_cons_succ]
              refine wpAnyH_take (i := 4) (v := .int .i64 (min x1 x2)) rfl (by kernel_rfl) (by kernel_rfl) (by kernel_rfl) (fun _ _ _ h => h) (Or.inl ⟨by kernel_rfl, fun w hSw => by (try dsimp only at hSw); go_simp; all_goals first | omega | exact IntWalk.i64_in _ (by omega)⟩) (by assumption) ?_
              try simp only [Act.put, List.getElem_toArray, List.getElem_cons_zero, List.getElem_cons_succ, List.getElem_toArray, List.getElem_cons_zero, List.getElem_cons_succ, List.setIfInBounds_toArray, List.set_cons_zero, List.set_cons_succ]
              refine wpAnyH_take (i := 5) (v := .int .i64 x1) rfl (by kernel_rfl) (by kernel_rfl) (by kernel_rfl) (fun _ _ _ h => h) (Or.inl ⟨by kernel_rfl, fun w hSw => by (try dsimp only at hSw); go_simp; all_goals first | omega | exact IntWalk.i64_in _ (by omega)⟩) (by assumption) ?_
              try simp only [Act.put, List.getElem_toArray, List.getElem_cons_zero, List.getElem_cons_succ, List.getElem_toArray, List.getElem_cons_zero, List.getElem_cons_succ, List.setIfInBounds_toArray, List.set_cons_zero, List.set_cons_succ]
              refine wpAnyH_take (i := 6) (v := .int .i64 x2) rfl (by kernel_rfl) (by kernel_rfl) (by kernel_rfl) (fun _ _ _ h => h) (Or.inl ⟨by kernel_rfl, fun w hSw => by (try dsimp only at hSw); go_simp; all_goals first | omega | exact IntWalk.i64_in _ (by omega)⟩) (by assumption) ?_
              try simp only [Act.put, List.getElem_toArray, List.getElem_cons_zero, List.getElem_cons_succ, List.getElem_toArray, List.getElem_cons_zero, List.getElem_cons_succ, List.setIfInBounds_toArray, List.set_cons_zero, List.set_cons_succ]
              refine wpAnyH_take (i := 7) (v := .int .i64 (max x1 x2)) rfl (by kernel_rfl) (by kernel_rfl) (by kernel_rfl) (fun _ _ _ h => h) (Or.inl ⟨by kernel_rfl, fun w hSw => by (try dsimp only at hSw); go_simp; all_goals first | omega | exact IntWalk.i64_in _ (by omega)⟩) (by assumption) ?_
              try simp only [Act.put, List.getElem_toArray, List.getElem_cons_zero, List.getElem_cons_succ, List.getElem_toArray, List.getElem_cons_zero, List.getElem_cons_succ, List.setIfInBounds_toArray, List.set_cons_zero, List.set_cons_succ]
              refine wpAnyH_take (i := 8) (v := .int .i64 x0) rfl (by kernel_rfl) (by kernel_rfl) (by kernel_rfl) (fun _ _ _ h => h) (Or.inl ⟨by kernel_rfl, fun w hSw => by (try dsimp only at hSw); go_simp; all_goals first | omega | exact IntWalk.i64_in _ (by omega)⟩) (by assumption) ?_
              try simp only [Act.put, List.getElem_toArray, List.getElem_cons_zero, List.getElem_cons_succ, List.getElem_toArray, List.getElem_cons_zero, List.getElem_cons_succ, List.setIfInBounds_toArray, List.set_cons_zero, List.set_cons_succ]
              refine wpAnyH_take (i := 9) (v := .agg #[.int .i64 2, .int .i64 v, .int .i64 (min x1 x2), .int .i64 (max x1 x2), .int .i64 x0]) rfl (by kernel_rfl) (by kernel_rfl) (by kernel_rfl) (fun _ _ _ h => h) (Or.inl ⟨by kernel_rfl, fun w hSw => by (try dsimp only at hSw); go_simp; all_goals first | omega | exact IntWalk.i64_in _ (by omega)⟩) (by assumption) ?_
              try simp only [Act.put, List.getElem_toArray, List.getElem_cons_zero, List.getElem_cons_succ, List.getElem_toArray, List.getElem_cons_zero, List.getElem_cons_succ, List.setIfInBounds_toArray, List.set_cons_zero, List.set_cons_succ]
              refine wpAnyH_take (i := 10) (v := .agg #[.int .i64 p, .slice Ae L.length ce]) rfl (by kernel_rfl) (by kernel_rfl) (by kernel_rfl) (fun _ _ _ h => h) (Or.inl ⟨by kernel_rfl, fun w hSw => by (try dsimp only at hSw); go_simp; all_goals first | omega | exact IntWalk.i64_in _ (by omega)⟩) (by assumption) ?_
              try simp only [Act.put, List.getElem_toArray, List.getElem_cons_zero, List.getElem_cons_succ, List.getElem_toArray, List.getElem_cons_zero, List.getElem_cons_succ, List.setIfInBounds_toArray, List.set_cons_zero, List.set_cons_succ]
              refine wpAnyH_ready (rs := [11]) (by kernel_rfl) (by simp) (AllReadyH.cons rfl (fun K hK => ?_) AllReadyH.nil)
              obtain ⟨⟨q0, q1, q2, q3, q4⟩, q5, q6, q7, q8, q9⟩ := And.intro HTd.out.r3.cells HTd.out.r3.froz
              obtain ⟨hs1, hs2⟩ := HTd.out.set3 (.int .i64 2) (.int .i64 v) (.int .i64 (min x1 x2)) (.int .i64 (max x1 x2)) (.int .i64 x0)
              have HTe := Lib.hid hs1
              have HBe := Lib.hid (HBd.out.within hs2 (.inr HGE.out))
              have HJe := Lib.hid (HJd.out.set hs2)
              clear hs1 hs2
              go_simp
              clear q0 q1 q2 q3 q4 q5 q6 q7 q8 q9
              generalize (((((wd.setCell ⟨w.heap.size + 1, 0, none⟩ (.int .i64 2)).setCell ⟨w.heap.size + 1, 1, none⟩ (.int .i64 v)).setCell ⟨w.heap.size + 1, 2, none⟩ (.int .i64 (min x1 x2))).setCell ⟨w.heap.size + 1, 3, none⟩ (.int .i64 (max x1 x2))).setCell ⟨w.heap.size + 1, 4, none⟩ (.int .i64 x0)) = we at *
              refine hK.out _ _ ⟨HBe.out.cells.1, HBe.out.cells.2.1⟩ (fun hHeld => ?_)
              clear hK K
              try simp only [Act.put, List.getElem_toArray, List.getElem_cons_zero, List.getElem_cons_succ, List.getElem_toArray, List.getElem_cons_zero, List.getElem_cons_succ, List.setIfInBounds_toArray, List.set_cons_zero, List.set_cons_succ]
              refine wpAnyH_ready (rs := [12]) (by kernel_rfl) (by simp) (AllReadyH.cons rfl (fun K hK => ?_) AllReadyH.nil)
              obtain ⟨q0, q1, q2, q3⟩ := HTe.out.r2.cells
              obtain ⟨hs1, hs2⟩ := HTe.out.set2 (.int .i64 p) (.slice Ae L.length ce)
              have HTf := Lib.hid hs1
              have HBf := Lib.hid (HBe.out.within hs2 (.inr HGE.out))
              have HJf := Lib.hid (HJe.out.set hs2)
              clear hs1 hs2
              go_simp
              clear q0 q1 q2 q3
              generalize ((we.setCell ⟨w.heap.size + 2, 0, none⟩ (.int .i64 p)).setCell ⟨w.heap.size + 2, 1, none⟩ (.slice Ae L.length ce)) = wf at *
              refine hK.out _ _ ⟨HBf.out.cells.1, HBf.out.cells.2.1⟩ (fun hHeld => ?_)
              clear hK K
              try simp only [Act.put, List.getElem_toArray, List.getElem_cons_zero, List.getElem_cons_succ, List.getElem_toArray, List.getElem_cons_zero, List.getElem_cons_succ, List.setIfInBounds_toArray, List.set_cons_zero, List.set_cons_succ]
              refine wpAnyH_ready (rs := [13]) (by kernel_rfl) (by simp) (AllReadyH.cons rfl (fun K hK => ?_) AllReadyH.nil)
              go_simp
              refine hK.out _ _ ⟨HBf.out.cells.1, HBf.out.cells.2.1⟩ (fun hHeld => ?_)
              clear hK K
              try simp only [Act.put, List.getElem_toArray, List.getElem_cons_zero, List.getElem_cons_succ, List.getElem_toArray, List.getElem_cons_zero, List.getElem_cons_succ, List.setIfInBounds_toArray, List.set_cons_zero, List.set_cons_succ]
              refine wpAnyH_done (by kernel_rfl) ?_ _
              clear hHeld
              obtain ⟨q0, q1, _, _⟩ := HTf.out.r2.cells
              obtain ⟨q2, q3, q4, q5, q6⟩ := HTf.out.r3.cells
              go_wp2_with fail
              refine bodyPost_ret (v := .tuple #[.agg #[.int .i64 2, .int .i64 v, .int .i64 (min x1 x2), .int .i64 (max x1 x2), .int .i64 x0], .agg #[.int .i64 p, .slice Ae L.length ce], .bool true]) ?_ rfl ⟨Ae, ce, rfl, HJf.out, HTf.out.bel⟩
              simp [results, Try.results168, go_sem, q0, q1, q2, q3, q4, q5, q6]
            · have hs : sparseB p 2 3 L = false := by simpa using hs
              have HFK1 := Lib.hid (fstN_miss HFK.out (by unfold undo3i; rw [HJL.out, if_neg (by rw [hs]; simp)]))
              go_wp2_with (first
                | (go_at_call 211; have hb4 := new_below wd (.cells #[.int .i64 x2] 3); refine (HJC.out _ _ _ _ (HDd.out.below hb4).at (one_int wd x2)).mono ?_; rintro e w8 ⟨Ae, ce, rfl, ho, hb⟩; have HT8 := Lib.hid ((HTd.out.below hb4).below hb); have HN8 := Lib.hid ((HNd.out.below hb4).below hb); have HX8 := Lib.hid ((HXd.out.kept hb4).kept hb); have HD8 := Lib.hid ((HDd.out.below hb4).below hb); have HJ8 := Lib.hid (drI_own (HTd.out.below hb4).lt ho); clear ho hb hb4)
                | (go_at_call 212; have hb9 := new_below w8 (.cells #[.int .i64 p, .slice Ae L.length ce] 26); have hj9 := HJ8.out.below hb9; refine (implSparse p 2 3 L Ae ce _ hj9.at HLL.out).mono ?_; rintro e wA ⟨rfl, hb⟩; have HTc := Lib.hid ((HT8.out.below hb9).below hb); have HNc := Lib.hid ((HN8.out.below hb9).below hb); have HXc := Lib.hid ((HX8.out.kept hb9).kept hb); have HDc := Lib.hid ((HD8.out.below hb9).below hb); have HJc := Lib.hid (hj9.below hb); have HBc := Lib.hid ((cel2_new w8 (.int .i64 p) (.slice Ae L.length ce) 26).kept hb); have HGE := Lib.hid HT8.out.lt; clear hb hb9 hj9; simp only [hs]))
              go_roundw
              case rel => exact ⟨2, by omega, by go_num, HFK1.out, HTc.out, HNc.out, HXc.out, HDc.out⟩
              case measure => simp [intOf]
          · skip
            have hz : ((2 : Nat) : Int) = 2 := rfl
            rw [hz]
            clear hz
            obtain ⟨L, hL⟩ : ∃ L, insU (brS x2 x0) (offI v l) = L := ⟨_, rfl⟩
            have hjL : join3 v l 2 = L := by unfold join3; rw [HNS.out]; exact hL
            have hLl : L.length ≤ 1048576 := by rw [← hL, insU_len]; have := offI_len v l; omega
            have hj1 : joinL x2 (offI v l) [x0] [x0].length = L := hL
            have hjc := fun (W : World) (zb : Nat) (lo hi : Nat) (h : BarsAt W W.heap.size Ad (offI v l)) (hz : IntsIn W lo hi (some ⟨zb, 0, none⟩) [x0]) => joined_c p x2 (offI v l) Ad cd [x0] zb lo hi W h (isG_off HG.out) (by omega) (fun j hj => by have hj0 : j = 0 := (by simpa using hj); subst hj0; exact ⟨by show 0 ≤ x0 ∧ x0 < p; omega, by show x2 ≠ x0; omega⟩) (by have := OFL.out; show (offI v l).length + 1 ≤ 24; omega) (by simp) hz
            simp only [hj1] at hjc
            have HJC := Lib.hid hjc
            clear hj1 hjc
            have HLL := Lib.hid hLl
            have HJL := Lib.hid hjL
            clear hLl hjL hL
            go_wp2_with fail
            have hdr : Below wr.heap.size wr wr.drew := (Below.refl _ _).drew
            have HTd := Lib.hid (HTc.out.below hdr)
            have HNd := Lib.hid (HNc.out.below hdr)
            have HXd := Lib.hid (HXc.out.kept hdr)
            have HDd := Lib.hid (HDc.out.below hdr)
            clear hdr c0 c1 c2 HTc HNc HXc HDc
            refine wp_region_held_drew (S := (fun W' : World => W'.cell? ⟨g, off, none⟩ = some (.int .i64 x0) ∧ W'.cell? ⟨g, off + 1, none⟩ = some (.int .i64 x1))) (by kernel_rfl) ?_ (fun hHeld => ?_)
            · exact ⟨HNd.out.cell (k := 0) (by simp), HNd.out.cell (k := 1) (by simp)⟩
            generalize wr.drew = wd at *
            refine wpAnyH_take (i := 0) (v := .slice (some ⟨g, off, none⟩) 3 cn) rfl (by kernel_rfl) (by kernel_rfl) (by kernel_rfl) (fun _ _ _ h => h) (Or.inl ⟨by kernel_rfl, fun w hSw => by (try dsimp only at hSw); go_simp; all_goals first | omega | exact IntWalk.i64_in _ (by omega)⟩) (by assumption) ?_
            try simp only [Act.put, List.getElem_toArray, List.getElem_cons_zero, List.setIfInBounds_toArray, List.set_cons_zero, List.set_cons_succ]
            refine wpAnyH_take (i := 1) (v := .int .i64 2) rfl (by kernel_rfl) (by kernel_rfl) (by kernel_rfl) (fun _ _ _ h => h) (Or.inl ⟨by kernel_rfl, fun w hSw => by (try dsimp only at hSw); go_simp; all_goals first | omega | exact IntWalk.i64_in _ (by omega)⟩) (by assumption) ?_
            try simp only [Act.put, List.getElem_toArray, List.getElem_cons_zero, List.getElem_cons_succ, List.setIfInBounds_toArray, List.set_cons_zero, List.set_cons_succ]
            refine wpAnyH_take (i := 2) (v := .int .i64 3) rfl (by kernel_rfl) (by kernel_rfl) (by kernel_rfl) (fun _ _ _ h => h) (Or.inl ⟨by kernel_rfl, fun w hSw => by (try dsimp only at hSw); go_simp; all_goals first | omega | exact IntWalk.i64_in _ (by omega)⟩) (by assumption) ?_
            try simp only [Act.put, List.getElem_toArray, List.getElem_cons_zero, List.getElem_cons_succ, List.setIfInBounds_toArray, List.set_cons_zero, List.set_cons_succ]
            refine wpAnyH_take (i := 3) (v := .int .i64 0) rfl (by kernel_rfl) (by kernel_rfl) (by kernel_rfl) (fun _ _ _ h => h) (Or.inl ⟨by kernel_rfl, fun w hSw => by (try dsimp only at hSw); go_simp; all_goals first | omega | exact IntWalk.i64_in _ (by omega)⟩) (by assumption) ?_
            try simp only [Act.put, List.getElem_toArray, List.getElem_cons_zero, List.getElem_cons_succ, List.setIfInBounds_toArray, List.set_cons_zero, List.set_cons_succ]
            refine wpAnyH_take (i := 4) (v := .pointer (some ⟨g, off, none⟩)) rfl (by kernel_rfl) (by kernel_rfl) (by kernel_rfl) (fun _ _ _ h => h) (Or.inl ⟨by kernel_rfl, fun w hSw => by (try dsimp only at hSw); go_simp; all_goals first | omega | exact IntWalk.i64_in _ (by omega)⟩) (by assumption) ?_
            try simp only [Act.put, List.getElem_toArray, List.getElem_cons_zero, List.getElem_cons_succ, List.setIfInBounds_toArray, List.set_cons_zero, List.set_cons_succ]
            refine wpAnyH_take (i := 5) (v := .int .i64 x0) rfl (by kernel_rfl) (by kernel_rfl) (by kernel_rfl) (fun _ _ _ h => h) (Or.inl ⟨by kernel_rfl, fun w hSw => by (try dsimp only at hSw); go_simp; all_goals first | omega | exact IntWalk.i64_in _ (by omega)⟩) (by assumption) ?_
            try simp only [Act.put, List.getElem_toArray, List.getElem_cons_zero, List.getElem_cons_succ, List.setIfInBounds_toArray, List.set_cons_zero, List.set_cons_succ]
            refine wpAnyH_take (i := 6) (v := .slice (some ⟨g, off, none⟩) 3 cn) rfl (by kernel_rfl) (by kernel_rfl) (by kernel_rfl) (fun _ _ _ h => h) (Or.inl ⟨by kernel_rfl, fun w hSw => by (try dsimp only at hSw); go_simp; all_goals first | omega | exact IntWalk.i64_in _ (by omega)⟩) (by assumption) ?_
            try simp only [Act.put, List.getElem_toArray, List.getElem_cons_zero, List.getElem_cons_succ, List.setIfInBounds_toArray, List.set_cons_zero, List.set_cons_succ]
            refine wpAnyH_take (i := 7) (v := .int .i64 2) rfl (by kernel_rfl) (by kernel_rfl) (by kernel_rfl) (fun _ _ _ h => h) (Or.inl ⟨by kernel_rfl, fun w hSw => by (try dsimp only at hSw); go_simp; all_goals first | omega | exact IntWalk.i64_in _ (by omega)⟩) (by assumption) ?_
            try simp only [Act.put, List.getElem_toArray, List.getElem_cons_zero, List.getElem_cons_succ, List.setIfInBounds_toArray, List.set_cons_zero, List.set_cons_succ]
            refine wpAnyH_take (i := 8) (v := .int .i64 4) rfl (by kernel_rfl) (by kernel_rfl) (by kernel_rfl) (fun _ _ _ h => h) (Or.inl ⟨by kernel_rfl, fun w hSw => by (try dsimp only at hSw); go_simp; all_goals first | omega | exact IntWalk.i64_in _ (by omega)⟩) (by assumption) ?_
            try simp only [Act.put, List.getElem_toArray, List.getElem_cons_zero, List.getElem_cons_succ, List.setIfInBounds_toArray, List.set_cons_zero, List.set_cons_succ]
            refine wpAnyH_take (i := 9) (v := .int .i64 1) rfl (by kernel_rfl) (by kernel_rfl) (by kernel_rfl) (fun _ _ _ h => h) (Or.inl ⟨by kernel_rfl, fun w hSw => by (try dsimp only at hSw); go_simp; all_goals first | omega | exact IntWalk.i64_in _ (by omega)⟩) (by assumption) ?_
            try simp only [Act.put, List.getElem_toArray, List.getElem_cons_zero, List.getElem_cons_succ, List.setIfInBounds_toArray, List.set_cons_zero, List.set_cons_succ]
            refine wpAnyH_take (i := 10) (v := .pointer (some ⟨g, off + 1, none⟩)) rfl (by kernel_rfl) (by kernel_rfl) (by kernel_rfl) (fun _ _ _ h => h) (Or.inl ⟨by kernel_rfl, fun w hSw => by (try dsimp only at hSw); go_simp; all_goals first | omega | exact IntWalk.i64_in _ (by omega)⟩) (by assumption) ?_
            try simp only [Act.put, List.getElem_toArray, List.getElem_cons_zero, List.getElem_cons_succ, List.setIfInBounds_toArray, List.set_cons_zero, List.set_cons_succ]
            refine wpAnyH_take (i := 11) (v := .int .i64 x1) rfl (by kernel_rfl) (by kernel_rfl) (by kernel_rfl) (fun _ _ _ h => h) (Or.inl ⟨by kernel_rfl, fun w hSw => by (try dsimp only at hSw); go_simp; all_goals first | omega | exact IntWalk.i64_in _ (by omega)⟩) (by assumption) ?_
            try simp only [Act.put, List.getElem_toArray, List.getElem_cons_zero, List.getElem_cons_succ, List.setIfInBounds_toArray, List.set_cons_zero, List.set_cons_succ]
            refine wpAnyH_ready (rs := [12]) (by kernel_rfl) (by simp) (AllReadyH.cons rfl (fun K hK => ?_) AllReadyH.nil)
            go_simp
            refine hK.out _ _ ⟨HNd.out.cell (k := 0) (by simp), HNd.out.cell (k := 1) (by simp)⟩ (fun hHeld => ?_)
            clear hK K
            try simp only [Act.put, List.getElem_toArray, List.getElem_cons_zero, List.getElem_cons_succ, List.setIfInBounds_toArray, List.set_cons_zero, List.set_cons_succ]
            refine wpAnyH_ready (rs := [13]) (by kernel_rfl) (by simp) (AllReadyH.cons rfl (fun K hK => ?_) AllReadyH.nil)
            go_simp
            refine hK.out _ _ ⟨HNd.out.cell (k := 0) (by simp), HNd.out.cell (k := 1) (by simp)⟩ (fun hHeld => ?_)
            clear hK K
            try simp only [Act.put, List.getElem_toArray, List.getElem_cons_zero, List.getElem_cons_succ, List.setIfInBounds_toArray, List.set_cons_zero, List.set_cons_succ]
            refine wpAnyH_done (by kernel_rfl) ?_ _
            clear hHeld
            obtain ⟨q0, q1, _, _⟩ := HXd.out.cells
            by_cases hs : sparseB p 2 3 L = true
            · have hr : r = some ((2, v, min x2 x0, max x2 x0, x1), L) := by
                rw [← HR3.out]
                refine fstN_first HFK.out ?_ 3 (by omega)
                unfold undo3i
                rw [HJL.out, if_pos hs, HNS.out]
                rfl
              subst hr
              go_wp2_with (first
                | (go_at_call 211; have hb4 := new_below wd (.cells #[.int .i64 x0] 3); refine (HJC.out _ _ _ _ (HDd.out.below hb4).at (one_int wd x0)).mono ?_; rintro e w8 ⟨Ae, ce, rfl, ho, hb⟩; have HT8 := Lib.hid ((HTd.out.below hb4).below hb); have HN8 := Lib.hid ((HNd.out.below hb4).below hb); have HX8 := Lib.hid ((HXd.out.kept hb4).kept hb); have HD8 := Lib.hid ((HDd.out.below hb4).below hb); have HJ8 := Lib.hid (drI_own (HTd.out.below hb4).lt ho); clear ho hb hb4)
                | (go_at_call 212; have hb9 := new_below w8 (.cells #[.int .i64 p, .slice Ae L.length ce] 26); have hj9 := HJ8.out.below hb9; refine (implSparse p 2 3 L Ae ce _ hj9.at HLL.out).mono ?_; rintro e wA ⟨rfl, hb⟩; have HTc := Lib.hid ((HT8.out.below hb9).below hb); have HNc := Lib.hid ((HN8.out.below hb9).below hb); have HXc := Lib.hid ((HX8.out.kept hb9).kept hb); have HDc := Lib.hid ((HD8.out.below hb9).below hb); have HJc := Lib.hid (hj9.below hb); have HBc := Lib.hid ((cel2_new w8 (.int .i64 p) (.slice Ae L.length ce) 26).kept hb); have HGE := Lib.hid HT8.out.lt; clear hb hb9 hj9; simp only [hs]))
              clear q0 q1 HT8 HN8 HX8 HD8 HJ8 HJC
              generalize w8.heap.size = xj at *
              have hdr : Below wA.heap.size wA wA.drew := (Below.refl _ _).drew
              have HTd := Lib.hid (HTc.out.below hdr)
              have HBd := Lib.hid (HBc.out.kept hdr)
              have HJd := Lib.hid (HJc.out.below hdr)
              clear hdr
              clear HTc HNc HXc HDc HBc HJc
              refine wp_region_held_drew (S := (fun W' : World => W'.cell? ⟨xj, 0, none⟩ = some (.int .i64 p) ∧ W'.cell? ⟨xj, 1, none⟩ = some (.slice Ae L.length ce))) (by kernel_rfl) ?_ (fun hHeld => ?_)
              · exact ⟨HBd.out.cells.1, HBd.out.cells.2.1⟩
              generalize wA.drew = wd at *
              refine wpAnyH_take (i := 0) (v := .int .i64 2) rfl (by kernel_rfl) (by kernel_rfl) (by kernel_rfl) (fun _ _ _ h => h) (Or.inl ⟨by kernel_rfl, fun w hSw => by (try dsimp only at hSw); go_simp; all_goals first | omega | exact IntWalk.i64_in _ (by omega)⟩) (by assumption) ?_
              try simp only [Act.put, List.getElem_toArray, List.getElem_cons_zero, List.getElem_toArray, List.getElem_cons_zero, List.setIfInBounds_toArray, List.set_cons_zero, List.set_cons_succ]
              refine wpAnyH_take (i := 1) (v := .int .i64 v) rfl (by kernel_rfl) (by kernel_rfl) (by kernel_rfl) (fun _ _ _ h => h) (Or.inl ⟨by kernel_rfl, fun w hSw => by (try dsimp only at hSw); go_simp; all_goals first | omega | exact IntWalk.i64_in _ (by omega)⟩) (by assumption) ?_
              try simp only [Act.put, List.getElem_toArray, List.getElem_cons_zero, List.getElem_cons_succ, List.getElem_toArray, List.getElem_cons_zero, List.getElem_cons_succ, List.setIfInBounds_toArray, List.set_cons_zero, List.set_cons_succ]
              refine wpAnyH_take (i := 2) (v := .int .i64 x2) rfl (by kernel_rfl) (by kernel_rfl) (by kernel_rfl) (fun _ _ _ h => h) (Or.inl ⟨by kernel_rfl, fun w hSw => by (try dsimp only at hSw); go_simp; all_goals first | omega | exact IntWalk.i64_in _ (by omega)⟩) (by assumption) ?_
              try simp only [Act.put, List.getElem_toArray, List.getElem_cons_zero, List.getElem_cons_succ, List.getElem_toArray, List.getElem_cons_zero, List.getElem_cons_succ, List.setIfInBounds_toArray, List.set_cons_zero, List.set_cons_succ]
              refine wpAnyH_take (i := 3) (v := .int .i64 x0) rfl (by kernel_rfl) (by kernel_rfl) (by kernel_rfl) (fun _ _ _ h => h) (Or.inl ⟨by kernel_rfl, fun w hSw => by (try dsimp only at hSw); go_simp; all_goals first | omega | exact IntWalk.i64_in _ (by omega)⟩) (by assumption) ?_
              try simp only [Act.put, List.getElem_toArray, List.getElem_cons_zero, List.getElem_cons_succ, List.getElem_toArray, List.getElem_cons_zero, List.getElem_cons_succ, List.setIfInBounds_toArray, List.set_cons_zero, List.set_cons_succ]
              refine wpAnyH_take (i := 4) (v := .int .i64 (min x2 x0)) rfl (by kernel_rfl) (by kernel_rfl) (by kernel_rfl) (fun _ _ _ h => h) (Or.inl ⟨by kernel_rfl, fun w hSw => by (try dsimp only at hSw); go_simp; all_goals first | omega | exact IntWalk.i64_in _ (by omega)⟩) (by assumption) ?_
              try simp only [Act.put, List.getElem_toArray, List.getElem_cons_zero, List.getElem_cons_succ, List.getElem_toArray, List.getElem_cons_zero, List.getElem_cons_succ, List.setIfInBounds_toArray, List.set_cons_zero, List.set_cons_succ]
              refine wpAnyH_take (i := 5) (v := .int .i64 x2) rfl (by kernel_rfl) (by kernel_rfl) (by kernel_rfl) (fun _ _ _ h => h) (Or.inl ⟨by kernel_rfl, fun w hSw => by (try dsimp only at hSw); go_simp; all_goals first | omega | exact IntWalk.i64_in _ (by omega)⟩) (by assumption) ?_
              try simp only [Act.put, List.getElem_toArray, List.getElem_cons_zero, List.getElem_cons_succ, List.getElem_toArray, List.getElem_cons_zero, List.getElem_cons_succ, List.setIfInBounds_toArray, List.set_cons_zero, List.set_cons_succ]
              refine wpAnyH_take (i := 6) (v := .int .i64 x0) rfl (by kernel_rfl) (by kernel_rfl) (by kernel_rfl) (fun _ _ _ h => h) (Or.inl ⟨by kernel_rfl, fun w hSw => by (try dsimp only at hSw); go_simp; all_goals first | omega | exact IntWalk.i64_in _ (by omega)⟩) (by assumption) ?_
              try simp only [Act.put, List.getElem_toArray, List.getElem_cons_zero, List.getElem_cons_succ, List.getElem_toArray, List.getElem_cons_zero, List.getElem_cons_succ, List.setIfInBounds_toArray, List.set_cons_zero, List.set_cons_succ]
              refine wpAnyH_take (i := 7) (v := .int .i64 (max x2 x0)) rfl (by kernel_rfl) (by kernel_rfl) (by kernel_rfl) (fun _ _ _ h => h) (Or.inl ⟨by kernel_rfl, fun w hSw => by (try dsimp only at hSw); go_simp; all_goals first | omega | exact IntWalk.i64_in _ (by omega)⟩) (by assumption) ?_
              try simp only [Act.put, List.getElem_toArray, List.getElem_cons_zero, List.getElem_cons_succ, List.getElem_toArray, List.getElem_cons_zero, List.getElem_cons_succ, List.setIfInBounds_toArray, List.set_cons_zero, List.set_cons_succ]
              refine wpAnyH_take (i := 8) (v := .int .i64 x1) rfl (by kernel_rfl) (by kernel_rfl) (by kernel_rfl) (fun _ _ _ h => h) (Or.inl ⟨by kernel_rfl, fun w hSw => by (try dsimp only at hSw); go_simp; all_goals first | omega | exact IntWalk.i64_in _ (by omega)⟩) (by assumption) ?_
              try simp only [Act.put, List.getElem_toArray, List.getElem_cons_zero, List.getElem_cons_succ, List.getElem_toArray, List.getElem_cons_zero, List.getElem_cons_succ, List.setIfInBounds_toArray, List.set_cons_zero, List.set_cons_succ]
              refine wpAnyH_take (i := 9) (v := .agg #[.int .i64 2, .int .i64 v, .int .i64 (min x2 x0), .int .i64 (max x2 x0), .int .i64 x1]) rfl (by kernel_rfl) (by kernel_rfl) (by kernel_rfl) (fun _ _ _ h => h) (Or.inl ⟨by kernel_rfl, fun w hSw => by (try dsimp only at hSw); go_simp; all_goals first | omega | exact IntWalk.i64_in _ (by omega)⟩) (by assumption) ?_
              try simp only [Act.put, List.getElem_toArray, List.getElem_cons_zero, List.getElem_cons_succ, List.getElem_toArray, List.getElem_cons_zero, List.getElem_cons_succ, List.setIfInBounds_toArray, List.set_cons_zero, List.set_cons_succ]
              refine wpAnyH_take (i := 10) (v := .agg #[.int .i64 p, .slice Ae L.length ce]) rfl (by kernel_rfl) (by kernel_rfl) (by kernel_rfl) (fun _ _ _ h => h) (Or.inl ⟨by kernel_rfl, fun w hSw => by (try dsimp only at hSw); go_simp; all_goals first | omega | exact IntWalk.i64_in _ (by omega)⟩) (by assumption) ?_
              try simp only [Act.put, List.getElem_toArray, List.getElem_cons_zero, List.getElem_cons_succ, List.getElem_toArray, List.getElem_cons_zero, List.getElem_cons_succ, List.setIfInBounds_toArray, List.set_cons_zero, List.set_cons_succ]
              refine wpAnyH_ready (rs := [11]) (by kernel_rfl) (by simp) (AllReadyH.cons rfl (fun K hK => ?_) AllReadyH.nil)
              obtain ⟨⟨q0, q1, q2, q3, q4⟩, q5, q6, q7, q8, q9⟩ := And.intro HTd.out.r3.cells HTd.out.r3.froz
              obtain ⟨hs1, hs2⟩ := HTd.out.set3 (.int .i64 2) (.int .i64 v) (.int .i64 (min x2 x0)) (.int .i64 (max x2 x0)) (.int .i64 x1)
              have HTe := Lib.hid hs1
              have HBe := Lib.hid (HBd.out.within hs2 (.inr HGE.out))
              have HJe := Lib.hid (HJd.out.set hs2)
              clear hs1 hs2
              go_simp
              clear q0 q1 q2 q3 q4 q5 q6 q7 q8 q9
              generalize (((((wd.setCell ⟨w.heap.size + 1, 0, none⟩ (.int .i64 2)).setCell ⟨w.heap.size + 1, 1, none⟩ (.int .i64 v)).setCell ⟨w.heap.size + 1, 2, none⟩ (.int .i64 (min x2 x0))).setCell ⟨w.heap.size + 1, 3, none⟩ (.int .i64 (max x2 x0))).setCell ⟨w.heap.size + 1, 4, none⟩ (.int .i64 x1)) = we at *
              refine hK.out _ _ ⟨HBe.out.cells.1, HBe.out.cells.2.1⟩ (fun hHeld => ?_)
              clear hK K
              try simp only [Act.put, List.getElem_toArray, List.getElem_cons_zero, List.getElem_cons_succ, List.getElem_toArray, List.getElem_cons_zero, List.getElem_cons_succ, List.setIfInBounds_toArray, List.set_cons_zero, List.set_cons_succ]
              refine wpAnyH_ready (rs := [12]) (by kernel_rfl) (by simp) (AllReadyH.cons rfl (fun K hK => ?_) AllReadyH.nil)
              obtain ⟨q0, q1, q2, q3⟩ := HTe.out.r2.cells
              obtain ⟨hs1, hs2⟩ := HTe.out.set2 (.int .i64 p) (.slice Ae L.length ce)
              have HTf := Lib.hid hs1
              have HBf := Lib.hid (HBe.out.within hs2 (.inr HGE.out))
              have HJf := Lib.hid (HJe.out.set hs2)
              clear hs1 hs2
              go_simp
              clear q0 q1 q2 q3
              generalize ((we.setCell ⟨w.heap.size + 2, 0, none⟩ (.int .i64 p)).setCell ⟨w.heap.size + 2, 1, none⟩ (.slice Ae L.length ce)) = wf at *
              refine hK.out _ _ ⟨HBf.out.cells.1, HBf.out.cells.2.1⟩ (fun hHeld => ?_)
              clear hK K
              try simp only [Act.put, List.getElem_toArray, List.getElem_cons_zero, List.getElem_cons_succ, List.getElem_toArray, List.getElem_cons_zero, List.getElem_cons_succ, List.setIfInBounds_toArray, List.set_cons_zero, List.set_cons_succ]
              refine wpAnyH_ready (rs := [13]) (by kernel_rfl) (by simp) (AllReadyH.cons rfl (fun K hK => ?_) AllReadyH.nil)
              go_simp
              refine hK.out _ _ ⟨HBf.out.cells.1, HBf.out.cells.2.1⟩ (fun hHeld => ?_)
              clear hK K
              try simp only [Act.put, List.getElem_toArray, List.getElem_cons_zero, List.getElem_cons_succ, List.getElem_toArray, List.getElem_cons_zero, List.getElem_cons_succ, List.setIfInBounds_toArray, List.set_cons_zero, List.set_cons_succ]
              refine wpAnyH_done (by kernel_rfl) ?_ _
              clear hHeld
              obtain ⟨q0, q1, _, _⟩ := HTf.out.r2.cells
              obtain ⟨q2, q3, q4, q5, q6⟩ := HTf.out.r3.cells
              go_wp2_with fail
              refine bodyPost_ret (v := .tuple #[.agg #[.int .i64 2, .int .i64 v, .int .i64 (min x2 x0), .int .i64 (max x2 x0), .int .i64 x1], .agg #[.int .i64 p, .slice Ae L.length ce], .bool true]) ?_ rfl ⟨Ae, ce, rfl, HJf.out, HTf.out.bel⟩
              simp [results, Try.results168, go_sem, q0, q1, q2, q3, q4, q5, q6]
            · have hs : sparseB p 2 3 L = false := by simpa using hs
              have HFK1 := Lib.hid (fstN_miss HFK.out (by unfold undo3i; rw [HJL.out, if_neg (by rw [hs]; simp)]))
              go_wp2_with (first
                | (go_at_call 211; have hb4 := new_below wd (.cells #[.int .i64 x0] 3); refine (HJC.out _ _ _ _ (HDd.out.below hb4).at (one_int wd x0)).mono ?_; rintro e w8 ⟨Ae, ce, rfl, ho, hb⟩; have HT8 := Lib.hid ((HTd.out.below hb4).below hb); have HN8 := Lib.hid ((HNd.out.below hb4).below hb); have HX8 := Lib.hid ((HXd.out.kept hb4).kept hb); have HD8 := Lib.hid ((HDd.out.below hb4).below hb); have HJ8 := Lib.hid (drI_own (HTd.out.below hb4).lt ho); clear ho hb hb4)
                | (go_at_call 212; have hb9 := new_below w8 (.cells #[.int .i64 p, .slice Ae L.length ce] 26); have hj9 := HJ8.out.below hb9; refine (implSparse p 2 3 L Ae ce _ hj9.at HLL.out).mono ?_; rintro e wA ⟨rfl, hb⟩; have HTc := Lib.hid ((HT8.out.below hb9).below hb); have HNc := Lib.hid ((HN8.out.below hb9).below hb); have HXc := Lib.hid ((HX8.out.kept hb9).kept hb); have HDc := Lib.hid ((HD8.out.below hb9).below hb); have HJc := Lib.hid (hj9.below hb); have HBc := Lib.hid ((cel2_new w8 (.int .i64 p) (.slice Ae L.length ce) 26).kept hb); have HGE := Lib.hid HT8.out.lt; clear hb hb9 hj9; simp only [hs]))
              go_roundw
              case rel => exact ⟨3, by omega, by go_num, HFK1.out, HTc.out, HNc.out, HXc.out, HDc.out⟩
              case measure => simp [intOf]
        · obtain rfl : k = 3 := by omega
          have hr : r = none := by rw [← HR3.out]; exact HFK.out
          subst hr
          go_wp2_with fail
          have hdr : Below wr.heap.size wr wr.drew := (Below.refl _ _).drew
          have HTd := Lib.hid (HTc.out.below hdr)
          clear hdr
          refine wp_region_held_drew (S := (fun W' : World => W'.cell? ⟨w.heap.size, 0, none⟩ = some (.int .i64 p) ∧ W'.cell? ⟨w.heap.size, 1, none⟩ = some (.slice A l.length cap))) (by kernel_rfl) ?_ (fun hHeld => ?_)
          · exact ⟨HTd.out.gr.cells.1, HTd.out.gr.cells.2.1⟩
          generalize wr.drew = wd at *
          refine wpAnyH_take (i := 0) (v := .agg #[.int .i64 0, .int .i64 0, .int .i64 0, .int .i64 0, .int .i64 0]) rfl (by kernel_rfl) (by kernel_rfl) (by kernel_rfl) (fun _ _ _ h => h) (Or.inl ⟨by kernel_rfl, fun w hSw => by (try dsimp only at hSw); go_simp; all_goals first | omega | exact IntWalk.i64_in _ (by omega)⟩) (by assumption) ?_
          refine wpAnyH_take (i := 1) (v := .agg #[.int .i64 p, .slice A l.length cap]) rfl (by kernel_rfl) (by kernel_rfl) (by kernel_rfl) (fun _ _ _ h => h) (Or.inl ⟨by kernel_rfl, fun w hSw => by (try dsimp only at hSw); go_simp; all_goals first | omega | exact IntWalk.i64_in _ (by omega)⟩) (by assumption) ?_
          refine wpAnyH_ready (rs := [2]) (by kernel_rfl) (by simp) (AllReadyH.cons rfl (fun K hK => ?_) AllReadyH.nil)
          obtain ⟨⟨q0, q1, q2, q3, q4⟩, q5, q6, q7, q8, q9⟩ := And.intro HTd.out.r3.cells HTd.out.r3.froz
          obtain ⟨hs1, hs2⟩ := HTd.out.set3 (.int .i64 0) (.int .i64 0) (.int .i64 0) (.int .i64 0) (.int .i64 0)
          have HTe := Lib.hid hs1
          clear hs1 hs2
          go_simp
          clear q0 q1 q2 q3 q4 q5 q6 q7 q8 q9
          generalize (((((wd.setCell ⟨w.heap.size + 1, 0, none⟩ (.int .i64 0)).setCell ⟨w.heap.size + 1, 1, none⟩ (.int .i64 0)).setCell ⟨w.heap.size + 1, 2, none⟩ (.int .i64 0)).setCell ⟨w.heap.size + 1, 3, none⟩ (.int .i64 0)).setCell ⟨w.heap.size + 1, 4, none⟩ (.int .i64 0)) = we at *
          refine hK.out _ _ ⟨HTe.out.gr.cells.1, HTe.out.gr.cells.2.1⟩ (fun hHeld => ?_)
          clear hK K
          refine wpAnyH_ready (rs := [3]) (by kernel_rfl) (by simp) (AllReadyH.cons rfl (fun K hK => ?_) AllReadyH.nil)
          obtain ⟨q0, q1, q2, q3⟩ := HTe.out.r2.cells
          obtain ⟨hs1, hs2⟩ := HTe.out.set2 (.int .i64 p) (.slice A l.length cap)
          have HTf := Lib.hid hs1
          clear hs1 hs2
          go_simp
          clear q0 q1 q2 q3
          generalize ((we.setCell ⟨w.heap.size + 2, 0, none⟩ (.int .i64 p)).setCell ⟨w.heap.size + 2, 1, none⟩ (.slice A l.length cap)) = wf at *
          refine hK.out _ _ ⟨HTf.out.gr.cells.1, HTf.out.gr.cells.2.1⟩ (fun hHeld => ?_)
          clear hK K
          refine wpAnyH_ready (rs := [4]) (by kernel_rfl) (by simp) (AllReadyH.cons rfl (fun K hK => ?_) AllReadyH.nil)
          go_simp
          refine hK.out _ _ ⟨HTf.out.gr.cells.1, HTf.out.gr.cells.2.1⟩ (fun hHeld => ?_)
          clear hK K
          refine wpAnyH_done (by kernel_rfl) ?_ _
          clear hHeld
          obtain ⟨q0, q1, _, _⟩ := HTf.out.r2.cells
          obtain ⟨q2, q3, q4, q5, q6⟩ := HTf.out.r3.cells
          go_wp2_with fail
          refine bodyPost_ret (v := .tuple #[.agg #[.int .i64 0, .int .i64 0, .int .i64 0, .int .i64 0, .int .i64 0], .agg #[.int .i64 p, .slice A l.length cap], .bool false]) ?_ rfl ⟨rfl, HTf.out.bel⟩
          simp [results, Try.results168, go_sem, q0, q1, q2, q3, q4, q5, q6]
    · have hr : r = none := by
        rw [← HR0.out]
        unfold undo3
        rw [if_neg c]
      subst hr
      have hne : ¬ (((nearL v l).length : Int) = 3) := by omega
      clear c
      go_wp2_with fail
      have hdr : Below wc.heap.size wc wc.drew := (Below.refl _ _).drew
      have HTd := Lib.hid (HTc.out.below hdr)
      clear hdr
      refine wp_region_held_drew (S := (fun W' : World => W'.cell? ⟨w.heap.size, 0, none⟩ = some (.int .i64 p) ∧ W'.cell? ⟨w.heap.size, 1, none⟩ = some (.slice A l.length cap))) (by kernel_rfl) ?_ (fun hHeld => ?_)
      · exact ⟨HTd.out.gr.cells.1, HTd.out.gr.cells.2.1⟩
      generalize wc.drew = wd at *
      refine wpAnyH_take (i := 0) (v := .agg #[.int .i64 0, .int .i64 0, .int .i64 0, .int .i64 0, .int .i64 0]) rfl (by kernel_rfl) (by kernel_rfl) (by kernel_rfl) (fun _ _ _ h => h) (Or.inl ⟨by kernel_rfl, fun w hSw => by (try dsimp only at hSw); go_simp; all_goals first | omega | exact IntWalk.i64_in _ (by omega)⟩) (by assumption) ?_
      refine wpAnyH_take (i := 1) (v := .agg #[.int .i64 p, .slice A l.length cap]) rfl (by kernel_rfl) (by kernel_rfl) (by kernel_rfl) (fun _ _ _ h => h) (Or.inl ⟨by kernel_rfl, fun w hSw => by (try dsimp only at hSw); go_simp; all_goals first | omega | exact IntWalk.i64_in _ (by omega)⟩) (by assumption) ?_
      refine wpAnyH_ready (rs := [2]) (by kernel_rfl) (by simp) (AllReadyH.cons rfl (fun K hK => ?_) AllReadyH.nil)
      obtain ⟨⟨q0, q1, q2, q3, q4⟩, q5, q6, q7, q8, q9⟩ := And.intro HTd.out.r3.cells HTd.out.r3.froz
      obtain ⟨hs1, hs2⟩ := HTd.out.set3 (.int .i64 0) (.int .i64 0) (.int .i64 0) (.int .i64 0) (.int .i64 0)
      have HTe := Lib.hid hs1
      clear hs1 hs2
      go_simp
      clear q0 q1 q2 q3 q4 q5 q6 q7 q8 q9
      generalize (((((wd.setCell ⟨w.heap.size + 1, 0, none⟩ (.int .i64 0)).setCell ⟨w.heap.size + 1, 1, none⟩ (.int .i64 0)).setCell ⟨w.heap.size + 1, 2, none⟩ (.int .i64 0)).setCell ⟨w.heap.size + 1, 3, none⟩ (.int .i64 0)).setCell ⟨w.heap.size + 1, 4, none⟩ (.int .i64 0)) = we at *
      refine hK.out _ _ ⟨HTe.out.gr.cells.1, HTe.out.gr.cells.2.1⟩ (fun hHeld => ?_)
      clear hK K
      refine wpAnyH_ready (rs := [3]) (by kernel_rfl) (by simp) (AllReadyH.cons rfl (fun K hK => ?_) AllReadyH.nil)
      obtain ⟨q0, q1, q2, q3⟩ := HTe.out.r2.cells
      obtain ⟨hs1, hs2⟩ := HTe.out.set2 (.int .i64 p) (.slice A l.length cap)
      have HTf := Lib.hid hs1
      clear hs1 hs2
      go_simp
      clear q0 q1 q2 q3
      generalize ((we.setCell ⟨w.heap.size + 2, 0, none⟩ (.int .i64 p)).setCell ⟨w.heap.size + 2, 1, none⟩ (.slice A l.length cap)) = wf at *
      refine hK.out _ _ ⟨HTf.out.gr.cells.1, HTf.out.gr.cells.2.1⟩ (fun hHeld => ?_)
      clear hK K
      refine wpAnyH_ready (rs := [4]) (by kernel_rfl) (by simp) (AllReadyH.cons rfl (fun K hK => ?_) AllReadyH.nil)
      go_simp
      refine hK.out _ _ ⟨HTf.out.gr.cells.1, HTf.out.gr.cells.2.1⟩ (fun hHeld => ?_)
      clear hK K
      refine wpAnyH_done (by kernel_rfl) ?_ _
      clear hHeld
      obtain ⟨q0, q1, _, _⟩ := HTf.out.r2.cells
      obtain ⟨q2, q3, q4, q5, q6⟩ := HTf.out.r3.cells
      go_wp2_with fail
      refine bodyPost_ret (v := .tuple #[.agg #[.int .i64 0, .int .i64 0, .int .i64 0, .int .i64 0, .int .i64 0], .agg #[.int .i64 p, .slice A l.length cap], .bool false]) ?_ rfl ⟨rfl, HTf.out.bel⟩
      simp [results, Try.results168, go_sem, q0, q1, q2, q3, q4, q5, q6]
end Go.Proofs.Ytdkpmaahinbhlaa
