/- What spec.l7Undo answers where there is a step. No condition. -/
import Derived.Test.YtdkpmaahinbhlaaFzUndM
namespace Go.Proofs.Ytdkpmaahinbhlaa
open Go.RowKit

set_option maxHeartbeats 8000000 in
set_option maxRecDepth 100000 in
theorem undo_c (p : Int) (l : List (Int × Int)) (A : Option Addr) (cap : Nat) (w : World) (hl : BarsAt w w.heap.size A l) (hg : IsG p l) (x : Stp × List (Int × Int)) (hx : undoF p l = some x) :
    Calls Try.prog 165 #[.agg #[.int .i64 p, .slice A l.length cap]] w (UndR w p x) := by
  have hlen := hg.2.1
  have hp8 := hg.1
  have hn : l.length ≤ 1048576 := by omega
  have HI0 := Lib.hid (unI_new w p A cap l hl)
  have HNC := Lib.hid (fun (j : Nat) (hj : (j : Int) < p) (W : World) (h : UnZ w W p A cap l) => near_c p (j : Int) l A cap W h.at hg ⟨by omega, hj⟩)
  have HH2 := Lib.hid (fun (j : Nat) (hj : (j : Int) < p) (h0 : fstN (fun v => undo2 (v : Int) l) j = none) (a b : Int) (h : nearL (j : Int) l = [a, b]) => undo_hit2 hx hj h0 h)
  have HM2 := Lib.hid (fun (j : Nat) (h0 : fstN (fun v => undo2 (v : Int) l) j = none) (h : (nearL (j : Int) l).length ≠ 2) => undo_miss2 h0 h)
  have HX := Lib.hid hx
  have HG := Lib.hid hg
  have HDC := Lib.hid (fun (j : Nat) (W : World) (h : UnZ w W p A cap l) => drop_c p (j : Int) l A cap W h.at hn)
  clear hl hg hx
  go_enter Try.func165, Try.ntmps165
  go_wp2_with fail
  generalize (((w.alloc (.cells #[.int .i64 p, .slice A l.length cap] 26)).alloc (.cells #[.int .i64 0, .slice none 0 0] 26)).alloc (.cells #[.int .i64 0, .int .i64 0, .int .i64 0, .int .i64 0, .int .i64 0] 155)) = w1 at *
  go_loopw [5, 6] (fun i _ wr => ∃ j : Nat, (j : Int) ≤ p ∧ i = .int .i64 j ∧ fstN (fun v => undo2 (v : Int) l) j = none ∧ UnZ w wr p A cap l) (fun i _ _ => p.toNat - (intOf i).toNat)
  case atStart => exact ⟨0, by have := HG.out.1; omega, rfl, rfl, HI0.out⟩
  case round =>
    clear HI0
    obtain ⟨j, hj, rfl, hf, hi⟩ := hrel
    have HI := Lib.hid hi
    have HF := Lib.hid hf
    obtain ⟨g0, g1, _, _⟩ := hi.gr.cells
    clear hi hf
    by_cases hlt : (j : Int) < p
    · obtain ⟨ns, hns⟩ : ∃ ns, nearL (j : Int) l = ns := ⟨_, rfl⟩
      have HNJ := HNC.out j hlt
      rw [hns] at HNJ
      have HNS := Lib.hid hns
      clear hns
      by_cases c : ns.length = 2
      · obtain ⟨a, b, rfl⟩ := two_of c
        have hxe := HH2.out j hlt HF.out a b HNS.out
        subst hxe
        clear c
        go_wp2_with (first
          | (go_at_call 204; refine (HNJ _ HI.out).mono ?_; rintro e w5 ⟨An, cn, rfl, ho, hb⟩; have HI5 := Lib.hid (HI.out.below hb); have HN5 := Lib.hid (nrI_own HI.out.lt ho); clear ho hb; obtain ⟨g, off, rfl⟩ := HN5.out.addr (by simp); rw [show ([a, b] : List Int).length = 2 from rfl]))
        clear g0 g1
        have hdr : Below w5.heap.size w5 w5.drew := (Below.refl _ _).drew
        have HID := Lib.hid (HI5.out.below hdr)
        have HND := Lib.hid (HN5.out.below hdr)
        clear hdr HI5 HN5
        refine wp_region_held_drew (S := (fun W' : World => W'.cell? ⟨w.heap.size, 0, none⟩ = some (.int .i64 p) ∧ W'.cell? ⟨w.heap.size, 1, none⟩ = some (.slice A l.length cap) ∧ W'.cell? ⟨g, off, none⟩ = some (.int .i64 a) ∧ W'.cell? ⟨g, off + 1, none⟩ = some (.int .i64 b))) (by kernel_rfl) ?_ (fun hHeld => ?_)
        · exact ⟨HID.out.gr.cells.1, HID.out.gr.cells.2.1, HND.out.cell (k := 0) (by simp), HND.out.cell (k := 1) (by simp)⟩
        generalize w5.drew = WD at *
        refine wpAnyH_take (i := 0) (v := .agg #[.int .i64 p, .slice A l.length cap]) rfl (by kernel_rfl) (by kernel_rfl) (by kernel_rfl) (fun _ _ _ h => h) (Or.inl ⟨by kernel_rfl, fun w hSw => by (try dsimp only at hSw); go_simp; all_goals first | omega | exact IntWalk.i64_in _ (by omega)⟩) (by assumption) ?_
        refine wpAnyH_take (i := 1) (v := .int .i64 (j : Int)) rfl (by kernel_rfl) (by kernel_rfl) (by kernel_rfl) (fun _ _ _ h => h) (Or.inl ⟨by kernel_rfl, fun w hSw => by (try dsimp only at hSw); go_simp; all_goals first | omega | exact IntWalk.i64_in _ (by omega)⟩) (by assumption) ?_
        refine wpAnyH_take (i := 3) (v := .int .i64 (j : Int)) rfl (by kernel_rfl) (by kernel_rfl) (by kernel_rfl) (fun _ _ _ h => h) (Or.inl ⟨by kernel_rfl, fun w hSw => by (try dsimp only at hSw); go_simp; all_goals first | omega | exact IntWalk.i64_in _ (by omega)⟩) (by assumption) ?_
        refine wpAnyH_take (i := 4) (v := .slice (some ⟨g, off, none⟩) 2 cn) rfl (by kernel_rfl) (by kernel_rfl) (by kernel_rfl) (fun _ _ _ h => h) (Or.inl ⟨by kernel_rfl, fun w hSw => by (try dsimp only at hSw); go_simp; all_goals first | omega | exact IntWalk.i64_in _ (by omega)⟩) (by assumption) ?_
        refine wpAnyH_take (i := 5) (v := .pointer (some ⟨g, off, none⟩)) rfl (by kernel_rfl) (by kernel_rfl) (by kernel_rfl) (fun _ _ _ h => h) (Or.inl ⟨by kernel_rfl, fun w hSw => by (try dsimp only at hSw); go_simp; all_goals first | omega | exact IntWalk.i64_in _ (by omega)⟩) (by assumption) ?_
        refine wpAnyH_take (i := 6) (v := .int .i64 a) rfl (by kernel_rfl) (by kernel_rfl) (by kernel_rfl) (fun _ _ _ h => h) (Or.inl ⟨by kernel_rfl, fun w hSw => by (try dsimp only at hSw); go_simp; all_goals first | omega | exact IntWalk.i64_in _ (by omega)⟩) (by assumption) ?_
        refine wpAnyH_take (i := 7) (v := .slice (some ⟨g, off, none⟩) 2 cn) rfl (by kernel_rfl) (by kernel_rfl) (by kernel_rfl) (fun _ _ _ h => h) (Or.inl ⟨by kernel_rfl, fun w hSw => by (try dsimp only at hSw); go_simp; all_goals first | omega | exact IntWalk.i64_in _ (by omega)⟩) (by assumption) ?_
        refine wpAnyH_take (i := 8) (v := .pointer (some ⟨g, off + 1, none⟩)) rfl (by kernel_rfl) (by kernel_rfl) (by kernel_rfl) (fun _ _ _ h => h) (Or.inl ⟨by kernel_rfl, fun w hSw => by (try dsimp only at hSw); go_simp; all_goals first | omega | exact IntWalk.i64_in _ (by omega)⟩) (by assumption) ?_
        refine wpAnyH_take (i := 9) (v := .int .i64 b) rfl (by kernel_rfl) (by kernel_rfl) (by kernel_rfl) (fun _ _ _ h => h) (Or.inl ⟨by kernel_rfl, fun w hSw => by (try dsimp only at hSw); go_simp; all_goals first | omega | exact IntWalk.i64_in _ (by omega)⟩) (by assumption) ?_
        refine wpAnyH_take (i := 10) (v := .agg #[.int .i64 1, .int .i64 (j : Int), .int .i64 a, .int .i64 b, .int .i64 0]) rfl (by kernel_rfl) (by kernel_rfl) (by kernel_rfl) (fun _ _ _ h => h) (Or.inl ⟨by kernel_rfl, fun w hSw => by (try dsimp only at hSw); go_simp; all_goals first | omega | exact IntWalk.i64_in _ (by omega)⟩) (by assumption) ?_
        refine wpAnyH_ready (rs := [2]) (by kernel_rfl) (by simp) (AllReadyH.cons rfl (fun K hK => ?_) AllReadyH.nil)
        go_simp
        go_at_call 205
        refine (HDC.out j _ HID.out).mono ?_
        rintro e wc ⟨Ad, cd, rfl, ho, hb⟩
        have HIC := Lib.hid (HID.out.below hb)
        have HNK := Lib.hid (HND.out.below hb)
        have HDK := Lib.hid (drI_own HID.out.lt ho)
        clear ho hb
        refine hK.out _ _ ⟨HIC.out.gr.cells.1, HIC.out.gr.cells.2.1, HNK.out.cell (k := 0) (by simp), HNK.out.cell (k := 1) (by simp)⟩ (fun hHeld => ?_)
        clear hK K
        refine wpAnyH_ready (rs := [11]) (by kernel_rfl) (by simp) (AllReadyH.cons rfl (fun K hK => ?_) AllReadyH.nil)
        obtain ⟨q0, q1, q2, q3⟩ := HIC.out.r2.cells
        obtain ⟨hs1, hs2⟩ := HIC.out.set2 (.int .i64 p) (.slice Ad (offI (j : Int) l).length cd)
        have HIS := Lib.hid hs1
        have HNL := Lib.hid (HNK.out.set hs2)
        have HDL := Lib.hid (HDK.out.set hs2)
        clear hs1 hs2
        go_simp
        clear q0 q1 q2 q3
        generalize ((wc.setCell ⟨w.heap.size + 1, 0, none⟩ (.int .i64 p)).setCell ⟨w.heap.size + 1, 1, none⟩ (.slice Ad (offI (j : Int) l).length cd)) = ws at *
        refine hK.out _ _ ⟨HIS.out.gr.cells.1, HIS.out.gr.cells.2.1, HNL.out.cell (k := 0) (by simp), HNL.out.cell (k := 1) (by simp)⟩ (fun hHeld => ?_)
        clear hK K
        refine wpAnyH_ready (rs := [12]) (by kernel_rfl) (by simp) (AllReadyH.cons rfl (fun K hK => ?_) AllReadyH.nil)
        obtain ⟨⟨q0, q1, q2, q3, q4⟩, q5, q6, q7, q8, q9⟩ := And.intro HIS.out.r3.cells HIS.out.r3.froz
        obtain ⟨hs1, hs2⟩ := HIS.out.set3 (.int .i64 1) (.int .i64 (j : Int)) (.int .i64 a) (.int .i64 b) (.int .i64 0)
        have HIT := Lib.hid hs1
        have HNM := Lib.hid (HNL.out.set hs2)
        have HDM := Lib.hid (HDL.out.set hs2)
        clear hs1 hs2
        go_simp
        clear q0 q1 q2 q3 q4 q5 q6 q7 q8 q9
        generalize (((((ws.setCell ⟨w.heap.size + 2, 0, none⟩ (.int .i64 1)).setCell ⟨w.heap.size + 2, 1, none⟩ (.int .i64 (j : Int))).setCell ⟨w.heap.size + 2, 2, none⟩ (.int .i64 a)).setCell ⟨w.heap.size + 2, 3, none⟩ (.int .i64 b)).setCell ⟨w.heap.size + 2, 4, none⟩ (.int .i64 0)) = wt at *
        refine hK.out _ _ ⟨HIT.out.gr.cells.1, HIT.out.gr.cells.2.1, HNM.out.cell (k := 0) (by simp), HNM.out.cell (k := 1) (by simp)⟩ (fun hHeld => ?_)
        clear hK K
        refine wpAnyH_ready (rs := [13]) (by kernel_rfl) (by simp) (AllReadyH.cons rfl (fun K hK => ?_) AllReadyH.nil)
        go_simp
        refine hK.out _ _ ⟨HIT.out.gr.cells.1, HIT.out.gr.cells.2.1, HNM.out.cell (k := 0) (by simp), HNM.out.cell (k := 1) (by simp)⟩ (fun hHeld => ?_)
        clear hK K
        refine wpAnyH_done (by kernel_rfl) ?_ _
        clear hHeld
        obtain ⟨q0, q1, _, _⟩ := HIT.out.r2.cells
        obtain ⟨q2, q3, q4, q5, q6⟩ := HIT.out.r3.cells
        go_wp2_with fail
        refine bodyPost_ret (v := .tuple #[.agg #[.int .i64 p, .slice Ad (offI (j : Int) l).length cd], .agg #[.int .i64 1, .int .i64 (j : Int), .int .i64 a, .int .i64 b, .int .i64 0], .bool true]) ?_ rfl ⟨Ad, cd, rfl, HDM.out.at, HIT.out.bel⟩
        simp [results, Try.results165, go_sem, q0, q1, q2, q3, q4, q5, q6]
      · have hne : ¬ ((ns.length : Int) = 2) := by omega
        have HF1 := Lib.hid (HM2.out j HF.out (by rw [HNS.out]; exact c))
        clear c
        go_wp2_with (first
          | (go_at_call 204; refine (HNJ _ HI.out).mono ?_; rintro e w5 ⟨An, cn, rfl, ho, hb⟩; have HI5 := Lib.hid (HI.out.below hb); clear ho hb))
        go_roundw
        case rel => exact ⟨j + 1, by omega, by go_num, HF1.out, HI5.out⟩
        case measure => simp [intOf]; omega
    · have hpj : p.toNat = j := by omega
      have HX2 := Lib.hid (show fstN (fun v => undo2 (v : Int) l) p.toNat = none by rw [hpj]; exact HF.out)
      have HH3 := Lib.hid (fun (j k : Nat) (hj : (j : Int) < p) h0 h3 (hk : k < 3) hk0 hs => undo_hit3 (j := j) (k := k) HX.out HX2.out hj h0 h3 hk hk0 hs)
      have HEN := Lib.hid (fun h => undo_end HX.out HX2.out h)
      go_wp2_with fail
      clear g0 g1 hpj HF HH2 HM2 hlt hj
      go_loopw [7, 8, 9, 10, 11, 12, 13] (fun i _ _ _ _ _ _ wr => ∃ j : Nat, (j : Int) ≤ p ∧ i = .int .i64 j ∧ fstN (fun v => undo3 p (v : Int) l) j = none ∧ UnZ w wr p A cap l) (fun i _ _ _ _ _ _ _ => p.toNat - (intOf i).toNat)
      case atStart => exact ⟨0, by omega, rfl, rfl, HI.out⟩
      case round =>
        clear HI
        obtain ⟨j, hj, rfl, hf, hi⟩ := hrel
        have HI := Lib.hid hi
        have HF := Lib.hid hf
        obtain ⟨g0, g1, _, _⟩ := hi.gr.cells
        clear hi hf
        by_cases hlt : (j : Int) < p
        · obtain ⟨ns, hns⟩ : ∃ ns, nearL (j : Int) l = ns := ⟨_, rfl⟩
          have HNJ := HNC.out j hlt
          rw [hns] at HNJ
          have HNS := Lib.hid hns
          clear hns
          by_cases c : ns.length = 3
          · obtain ⟨a, b, d, rfl⟩ := three_of c
            have HH := Lib.hid (HH3.out j)
            clear c
            go_wp2_with (first
              | (go_at_call 204; refine (HNJ _ HI.out).mono ?_; rintro e w5 ⟨An, cn, rfl, ho, hb⟩; have HI5 := Lib.hid (HI.out.below hb); have HN5 := Lib.hid (nrI_own HI.out.lt ho); clear ho hb; obtain ⟨g, off, rfl⟩ := HN5.out.addr (by simp); rw [show ([a, b, d] : List Int).length = 3 from rfl]; obtain ⟨q0, q1, _, _⟩ := HI5.out.gr.cells)
              | (go_at_call 205; refine (HDC.out j _ HI5.out).mono ?_; rintro e wd ⟨Ad, cd, rfl, ho, hb⟩; have HI6 := Lib.hid (HI5.out.below hb); have HN6 := Lib.hid (HN5.out.below hb); have HD6 := Lib.hid (drI_own HI5.out.lt ho); clear ho hb))
            clear g0 g1 q0 q1
            have hb7 := new_below wd (.cells #[.int .i64 p, .slice Ad (offI (j : Int) l).length cd] 26)
            have HX7 := Lib.hid (cel2_new wd (.int .i64 p) (.slice Ad (offI (j : Int) l).length cd) 26)
            have HI7 := Lib.hid (HI6.out.below hb7)
            have HN7 := Lib.hid (HN6.out.below hb7)
            have HD7 := Lib.hid (HD6.out.below hb7)
            have HBD := Lib.hid HI6.out.lt
            clear hb7 HI5 HN5 HI6 HN6 HD6
            generalize (wd.alloc (.cells #[.int .i64 p, .slice Ad (offI (j : Int) l).length cd] 26)) = w7 at *
            generalize wd.heap.size = bd at *
            go_loopw [10, 11, 12, 13] (fun i _ _ _ wr => ∃ k : Nat, k ≤ 3 ∧ i = .int .i64 k ∧ fstN (undo3i p (j : Int) l) k = none ∧ UnZ w wr p A cap l ∧ NrI w wr (some ⟨g, off, none⟩) [a, b, d] ∧ Cel2 wr bd 26 (.int .i64 p) (.slice Ad (offI (j : Int) l).length cd) ∧ DrI w wr Ad (offI (j : Int) l)) (fun i _ _ _ _ => 3 - (intOf i).toNat)
            case atStart => exact ⟨0, by omega, rfl, rfl, HI7.out, HN7.out, HX7.out, HD7.out⟩
            case round =>
              clear HI HI7 HN7 HX7 HD7
              obtain ⟨k, hk, rfl, hfk, hi, hn5, hx5, hd5⟩ := hrel
              have HI := Lib.hid hi
              have HFK := Lib.hid hfk
              have HN := Lib.hid hn5
              have HXB := Lib.hid hx5
              have HD := Lib.hid hd5
              clear hi hfk hn5 hx5 hd5
              by_cases hk3 : k < 3
              · have c0 := HN.out.cell (k := 0) (by simp)
                have c1 := HN.out.cell (k := 1) (by simp)
                have c2 := HN.out.cell (k := 2) (by simp)
                simp only [List.getD_cons_zero, List.getD_cons_succ, Nat.add_zero] at c0 c1 c2
                obtain ⟨q0, q1, _, _⟩ := HXB.out.cells
                obtain rfl | rfl | rfl : k = 0 ∨ k = 1 ∨ k = 2 := by omega
                · have hz : ((0 : Nat) : Int) = 0 := rfl
                  rw [hz]
                  clear hz
                  obtain ⟨L, hL⟩ : ∃ L, insU (min a b, max a b) (offI (j : Int) l) = L := ⟨_, rfl⟩
                  have hjL : join3 (j : Int) l 0 = L := by unfold join3; rw [HNS.out]; exact hL
                  have hLl : L.length ≤ 1048576 := by rw [← hL, insU_len]; have := offI_len (j : Int) l; omega
                  have hput := put_c p (min a b, max a b) (offI (j : Int) l) Ad cd wr HD.out.at (by have := offI_len (j : Int) l; omega)
                  rw [hL] at hput
                  have HPUT := Lib.hid hput
                  have HLL := Lib.hid hLl
                  have HJL := Lib.hid hjL
                  clear hput hLl hjL hL
                  by_cases hs : sparseB p 2 3 L = true
                  · have hxe : x = ((2, (j : Int), min a b, max a b, d), L) := by
                      have h := HH.out 0 hlt HF.out (by rw [HNS.out]; rfl) (by omega) HFK.out (by rw [HJL.out]; exact hs)
                      rw [HNS.out, HJL.out] at h
                      exact h
                    subst hxe
                    go_wp2_with (first
                      | (go_at_call 206; refine HPUT.out.mono ?_; rintro e w8 ⟨Ae, ce, rfl, ho, hb⟩; have HI8 := Lib.hid (HI.out.below hb); have HN8 := Lib.hid (HN.out.below hb); have HX8 := Lib.hid (HXB.out.kept hb); have HD8 := Lib.hid (HD.out.below hb); have HJ8 := Lib.hid (drI_own HI.out.lt ho); clear ho hb)
                      | (go_at_call 26; have hb9 := new_below w8 (.cells #[.int .i64 p, .slice Ae L.length ce] 26); have hj9 := HJ8.out.below hb9; refine (specSparse p 2 3 L Ae ce _ hj9.at HLL.out).mono ?_; rintro e wA ⟨rfl, hb⟩; have HIA := Lib.hid ((HI8.out.below hb9).below hb); have HNA := Lib.hid ((HN8.out.below hb9).below hb); have HXA := Lib.hid ((HX8.out.kept hb9).kept hb); have HDA := Lib.hid ((HD8.out.below hb9).below hb); have HJA := Lib.hid (hj9.below hb); have HBA := Lib.hid ((cel2_new w8 (.int .i64 p) (.slice Ae L.length ce) 26).kept hb); have HGE := Lib.hid HI8.out.lt; clear hb hb9 hj9; simp only [hs]))
                    clear q0 q1 c0 c1 c2 HI8 HN8 HX8 HD8 HJ8 HPUT
                    generalize w8.heap.size = xj at *
                    have hdr : Below wA.heap.size wA wA.drew := (Below.refl _ _).drew
                    have HID := Lib.hid (HIA.out.below hdr)
                    have HND := Lib.hid (HNA.out.below hdr)
                    have HJD := Lib.hid (HJA.out.below hdr)
                    have HBD2 := Lib.hid (HBA.out.kept hdr)
                    clear hdr HIA HNA HJA HBA HXA HDA
                    refine wp_region_held_drew (S := (fun W' : World => W'.cell? ⟨xj, 0, none⟩ = some (.int .i64 p) ∧ W'.cell? ⟨xj, 1, none⟩ = some (.slice Ae L.length ce) ∧ W'.cell? ⟨g, off + 2, none⟩ = some (.int .i64 d))) (by kernel_rfl) ?_ (fun hHeld => ?_)
                    · exact ⟨HBD2.out.cells.1, HBD2.out.cells.2.1, HND.out.cell (k := 2) (by simp)⟩
                    generalize wA.drew = WD at *
                    refine wpAnyH_take (i := 0) (v := .agg #[.int .i64 p, .slice Ae L.length ce]) rfl (by kernel_rfl) (by kernel_rfl) (by kernel_rfl) (fun _ _ _ h => h) (Or.inl ⟨by kernel_rfl, fun w hSw => by (try dsimp only at hSw); go_simp; all_goals first | omega | exact IntWalk.i64_in _ (by omega)⟩) (by assumption) ?_
                    try simp only [Act.put, List.getElem_toArray, List.getElem_cons_zero, List.setIfInBounds_toArray, List.set_cons_zero, List.set_cons_succ]
                    refine wpAnyH_take (i := 1) (v := .int .i64 (j : Int)) rfl (by kernel_rfl) (by kernel_rfl) (by kernel_rfl) (fun _ _ _ h => h) (Or.inl ⟨by kernel_rfl, fun w hSw => by (try dsimp only at hSw); go_simp; all_goals first | omega | exact IntWalk.i64_in _ (by omega)⟩) (by assumption) ?_
                    try simp only [Act.put, List.getElem_toArray, List.getElem_cons_zero, List.getElem_cons_succ, List.setIfInBounds_toArray, List.set_cons_zero, List.set_cons_succ]
                    refine wpAnyH_take (i := 2) (v := .int .i64 a) rfl (by kernel_rfl) (by kernel_rfl) (by kernel_rfl) (fun _ _ _ h => h) (Or.inl ⟨by kernel_rfl, fun w hSw => by (try dsimp only at hSw); go_simp; all_goals first | omega | exact IntWalk.i64_in _ (by omega)⟩) (by assumption) ?_
                    try simp only [Act.put, List.getElem_toArray, List.getElem_cons_zero, List.getElem_cons_succ, List.setIfInBounds_toArray, List.set_cons_zero, List.set_cons_succ]
                    refine wpAnyH_take (i := 3) (v := .int .i64 b) rfl (by kernel_rfl) (by kernel_rfl) (by kernel_rfl) (fun _ _ _ h => h) (Or.inl ⟨by kernel_rfl, fun w hSw => by (try dsimp only at hSw); go_simp; all_goals first | omega | exact IntWalk.i64_in _ (by omega)⟩) (by assumption) ?_
                    try simp only [Act.put, List.getElem_toArray, List.getElem_cons_zero, List.getElem_cons_succ, List.setIfInBounds_toArray, List.set_cons_zero, List.set_cons_succ]
                    refine wpAnyH_take (i := 4) (v := .int .i64 (min a b)) rfl (by kernel_rfl) (by kernel_rfl) (by kernel_rfl) (fun _ _ _ h => h) (Or.inl ⟨by kernel_rfl, fun w hSw => by (try dsimp only at hSw); go_simp; all_goals first | omega | exact IntWalk.i64_in _ (by omega)⟩) (by assumption) ?_
                    try simp only [Act.put, List.getElem_toArray, List.getElem_cons_zero, List.getElem_cons_succ, List.setIfInBounds_toArray, List.set_cons_zero, List.set_cons_succ]
                    refine wpAnyH_take (i := 5) (v := .int .i64 a) rfl (by kernel_rfl) (by kernel_rfl) (by kernel_rfl) (fun _ _ _ h => h) (Or.inl ⟨by kernel_rfl, fun w hSw => by (try dsimp only at hSw); go_simp; all_goals first | omega | exact IntWalk.i64_in _ (by omega)⟩) (by assumption) ?_
                    try simp only [Act.put, List.getElem_toArray, List.getElem_cons_zero, List.getElem_cons_succ, List.setIfInBounds_toArray, List.set_cons_zero, List.set_cons_succ]
                    refine wpAnyH_take (i := 6) (v := .int .i64 b) rfl (by kernel_rfl) (by kernel_rfl) (by kernel_rfl) (fun _ _ _ h => h) (Or.inl ⟨by kernel_rfl, fun w hSw => by (try dsimp only at hSw); go_simp; all_goals first | omega | exact IntWalk.i64_in _ (by omega)⟩) (by assumption) ?_
                    try simp only [Act.put, List.getElem_toArray, List.getElem_cons_zero, List.getElem_cons_succ, List.setIfInBounds_toArray, List.set_cons_zero, List.set_cons_succ]
                    refine wpAnyH_take (i := 7) (v := .int .i64 (max a b)) rfl (by kernel_rfl) (by kernel_rfl) (by kernel_rfl) (fun _ _ _ h => h) (Or.inl ⟨by kernel_rfl, fun w hSw => by (try dsimp only at hSw); go_simp; all_goals first | omega | exact IntWalk.i64_in _ (by omega)⟩) (by assumption) ?_
                    try simp only [Act.put, List.getElem_toArray, List.getElem_cons_zero, List.getElem_cons_succ, List.setIfInBounds_toArray, List.set_cons_zero, List.set_cons_succ]
                    refine wpAnyH_take (i := 8) (v := .slice (some ⟨g, off, none⟩) 3 cn) rfl (by kernel_rfl) (by kernel_rfl) (by kernel_rfl) (fun _ _ _ h => h) (Or.inl ⟨by kernel_rfl, fun w hSw => by (try dsimp only at hSw); go_simp; all_goals first | omega | exact IntWalk.i64_in _ (by omega)⟩) (by assumption) ?_
                    try simp only [Act.put, List.getElem_toArray, List.getElem_cons_zero, List.getElem_cons_succ, List.setIfInBounds_toArray, List.set_cons_zero, List.set_cons_succ]
                    refine wpAnyH_take (i := 9) (v := .int .i64 0) rfl (by kernel_rfl) (by kernel_rfl) (by kernel_rfl) (fun _ _ _ h => h) (Or.inl ⟨by kernel_rfl, fun w hSw => by (try dsimp only at hSw); go_simp; all_goals first | omega | exact IntWalk.i64_in _ (by omega)⟩) (by assumption) ?_
                    try simp only [Act.put, List.getElem_toArray, List.getElem_cons_zero, List.getElem_cons_succ, List.setIfInBounds_toArray, List.set_cons_zero, List.set_cons_succ]
                    refine wpAnyH_take (i := 10) (v := .int .i64 2) rfl (by kernel_rfl) (by kernel_rfl) (by kernel_rfl) (fun _ _ _ h => h) (Or.inl ⟨by kernel_rfl, fun w hSw => by (try dsimp only at hSw); go_simp; all_goals first | omega | exact IntWalk.i64_in _ (by omega)⟩) (by assumption) ?_
                    try simp only [Act.put, List.getElem_toArray, List.getElem_cons_zero, List.getElem_cons_succ, List.setIfInBounds_toArray, List.set_cons_zero, List.set_cons_succ]
                    refine wpAnyH_take (i := 11) (v := .int .i64 2) rfl (by kernel_rfl) (by kernel_rfl) (by kernel_rfl) (fun _ _ _ h => h) (Or.inl ⟨by kernel_rfl, fun w hSw => by (try dsimp only at hSw); go_simp; all_goals first | omega | exact IntWalk.i64_in _ (by omega)⟩) (by assumption) ?_
                    try simp only [Act.put, List.getElem_toArray, List.getElem_cons_zero, List.getElem_cons_succ, List.setIfInBounds_toArray, List.set_cons_zero, List.set_cons_succ]
                    refine wpAnyH_take (i := 12) (v := .pointer (some ⟨g, off + 2, none⟩)) rfl (by kernel_rfl) (by kernel_rfl) (by kernel_rfl) (fun _ _ _ h => h) (Or.inl ⟨by kernel_rfl, fun w hSw => by (try dsimp only at hSw); go_simp; all_goals first | omega | exact IntWalk.i64_in _ (by omega)⟩) (by assumption) ?_
                    try simp only [Act.put, List.getElem_toArray, List.getElem_cons_zero, List.getElem_cons_succ, List.setIfInBounds_toArray, List.set_cons_zero, List.set_cons_succ]
                    refine wpAnyH_take (i := 13) (v := .int .i64 d) rfl (by kernel_rfl) (by kernel_rfl) (by kernel_rfl) (fun _ _ _ h => h) (Or.inl ⟨by kernel_rfl, fun w hSw => by (try dsimp only at hSw); go_simp; all_goals first | omega | exact IntWalk.i64_in _ (by omega)⟩) (by assumption) ?_
                    try simp only [Act.put, List.getElem_toArray, List.getElem_cons_zero, List.getElem_cons_succ, List.setIfInBounds_toArray, List.set_cons_zero, List.set_cons_succ]
                    refine wpAnyH_take (i := 14) (v := .agg #[.int .i64 2, .int .i64 (j : Int), .int .i64 (min a b), .int .i64 (max a b), .int .i64 d]) rfl (by kernel_rfl) (by kernel_rfl) (by kernel_rfl) (fun _ _ _ h => h) (Or.inl ⟨by kernel_rfl, fun w hSw => by (try dsimp only at hSw); go_simp; all_goals first | omega | exact IntWalk.i64_in _ (by omega)⟩) (by assumption) ?_
                    try simp only [Act.put, List.getElem_toArray, List.getElem_cons_zero, List.getElem_cons_succ, List.setIfInBounds_toArray, List.set_cons_zero, List.set_cons_succ]
                    refine wpAnyH_ready (rs := [15]) (by kernel_rfl) (by simp) (AllReadyH.cons rfl (fun K hK => ?_) AllReadyH.nil)
                    obtain ⟨q0, q1, q2, q3⟩ := HID.out.r2.cells
                    obtain ⟨hs1, hs2⟩ := HID.out.set2 (.int .i64 p) (.slice Ae L.length ce)
                    have HIS := Lib.hid hs1
                    have HNL := Lib.hid (HND.out.set hs2)
                    have HJL2 := Lib.hid (HJD.out.set hs2)
                    have HBL := Lib.hid (HBD2.out.within hs2 (.inr HGE.out))
                    clear hs1 hs2
                    go_simp
                    clear q0 q1 q2 q3
                    generalize ((WD.setCell ⟨w.heap.size + 1, 0, none⟩ (.int .i64 p)).setCell ⟨w.heap.size + 1, 1, none⟩ (.slice Ae L.length ce)) = ws at *
                    refine hK.out _ _ ⟨HBL.out.cells.1, HBL.out.cells.2.1, HNL.out.cell (k := 2) (by simp)⟩ (fun hHeld => ?_)
                    clear hK K
                    try simp only [Act.put, List.getElem_toArray, List.getElem_cons_zero, List.getElem_cons_succ, List.setIfInBounds_toArray, List.set_cons_zero, List.set_cons_succ]
                    refine wpAnyH_ready (rs := [16]) (by kernel_rfl) (by simp) (AllReadyH.cons rfl (fun K hK => ?_) AllReadyH.nil)
                    obtain ⟨⟨q0, q1, q2, q3, q4⟩, q5, q6, q7, q8, q9⟩ := And.intro HIS.out.r3.cells HIS.out.r3.froz
                    obtain ⟨hs1, hs2⟩ := HIS.out.set3 (.int .i64 2) (.int .i64 (j : Int)) (.int .i64 (min a b)) (.int .i64 (max a b)) (.int .i64 d)
                    have HIT := Lib.hid hs1
                    have HNM := Lib.hid (HNL.out.set hs2)
                    have HJM := Lib.hid (HJL2.out.set hs2)
                    have HBM := Lib.hid (HBL.out.within hs2 (.inr HGE.out))
                    clear hs1 hs2
                    go_simp
                    clear q0 q1 q2 q3 q4 q5 q6 q7 q8 q9
                    generalize (((((ws.setCell ⟨w.heap.size + 2, 0, none⟩ (.int .i64 2)).setCell ⟨w.heap.size + 2, 1, none⟩ (.int .i64 (j : Int))).setCell ⟨w.heap.size + 2, 2, none⟩ (.int .i64 (min a b))).setCell ⟨w.heap.size + 2, 3, none⟩ (.int .i64 (max a b))).setCell ⟨w.heap.size + 2, 4, none⟩ (.int .i64 d)) = wt at *
                    refine hK.out _ _ ⟨HBM.out.cells.1, HBM.out.cells.2.1, HNM.out.cell (k := 2) (by simp)⟩ (fun hHeld => ?_)
                    clear hK K
                    try simp only [Act.put, List.getElem_toArray, List.getElem_cons_zero, List.getElem_cons_succ, List.setIfInBounds_toArray, List.set_cons_zero, List.set_cons_succ]
                    refine wpAnyH_ready (rs := [17]) (by kernel_rfl) (by simp) (AllReadyH.cons rfl (fun K hK => ?_) AllReadyH.nil)
                    go_simp
                    refine hK.out _ _ ⟨HBM.out.cells.1, HBM.out.cells.2.1, HNM.out.cell (k := 2) (by simp)⟩ (fun hHeld => ?_)
                    clear hK K
                    try simp only [Act.put, List.getElem_toArray, List.getElem_cons_zero, List.getElem_cons_succ, List.setIfInBounds_toArray, List.set_cons_zero, List.set_cons_succ]
                    refine wpAnyH_done (by kernel_rfl) ?_ _
                    clear hHeld
                    obtain ⟨q0, q1, _, _⟩ := HIT.out.r2.cells
                    obtain ⟨q2, q3, q4, q5, q6⟩ := HIT.out.r3.cells
                    go_wp2_with fail
                    refine bodyPost_ret (v := .tuple #[.agg #[.int .i64 p, .slice Ae L.length ce], .agg #[.int .i64 2, .int .i64 (j : Int), .int .i64 (min a b), .int .i64 (max a b), .int .i64 d], .bool true]) ?_ rfl ⟨Ae, ce, rfl, HJM.out.at, HIT.out.bel⟩
                    simp [results, Try.results165, go_sem, q0, q1, q2, q3, q4, q5, q6]
                  · have hs : sparseB p 2 3 L = false := by simpa using hs
                    have HFK1 := Lib.hid (undo_miss3i HFK.out (by rw [HJL.out]; exact hs))
                    go_wp2_with (first
                      | (go_at_call 206; refine HPUT.out.mono ?_; rintro e w8 ⟨Ae, ce, rfl, ho, hb⟩; have HI8 := Lib.hid (HI.out.below hb); have HN8 := Lib.hid (HN.out.below hb); have HX8 := Lib.hid (HXB.out.kept hb); have HD8 := Lib.hid (HD.out.below hb); have HJ8 := Lib.hid (drI_own HI.out.lt ho); clear ho hb)
                      | (go_at_call 26; have hb9 := new_below w8 (.cells #[.int .i64 p, .slice Ae L.length ce] 26); have hj9 := HJ8.out.below hb9; refine (specSparse p 2 3 L Ae ce _ hj9.at HLL.out).mono ?_; rintro e wA ⟨rfl, hb⟩; have HIA := Lib.hid ((HI8.out.below hb9).below hb); have HNA := Lib.hid ((HN8.out.below hb9).below hb); have HXA := Lib.hid ((HX8.out.kept hb9).kept hb); have HDA := Lib.hid ((HD8.out.below hb9).below hb); have HJA := Lib.hid (hj9.below hb); have HBA := Lib.hid ((cel2_new w8 (.int .i64 p) (.slice Ae L.length ce) 26).kept hb); have HGE := Lib.hid HI8.out.lt; clear hb hb9 hj9; simp only [hs]))
                    go_roundw
                    case rel => exact ⟨1, by omega, by go_num, HFK1.out, HIA.out, HNA.out, HXA.out, HDA.out⟩
                    case measure => simp [intOf]
                · have hz : ((1 : Nat) : Int) = 1 := rfl
                  rw [hz]
                  clear hz
                  obtain ⟨L, hL⟩ : ∃ L, insU (min b d, max b d) (offI (j : Int) l) = L := ⟨_, rfl⟩
                  have hjL : join3 (j : Int) l 1 = L := by unfold join3; rw [HNS.out]; exact hL
                  have hLl : L.length ≤ 1048576 := by rw [← hL, insU_len]; have := offI_len (j : Int) l; omega
                  have hput := put_c p (min b d, max b d) (offI (j : Int) l) Ad cd wr HD.out.at (by have := offI_len (j : Int) l; omega)
                  rw [hL] at hput
                  have HPUT := Lib.hid hput
                  have HLL := Lib.hid hLl
                  have HJL := Lib.hid hjL
                  clear hput hLl hjL hL
                  by_cases hs : sparseB p 2 3 L = true
                  · have hxe : x = ((2, (j : Int), min b d, max b d, a), L) := by
                      have h := HH.out 1 hlt HF.out (by rw [HNS.out]; rfl) (by omega) HFK.out (by rw [HJL.out]; exact hs)
                      rw [HNS.out, HJL.out] at h
                      exact h
                    subst hxe
                    go_wp2_with (first
                      | (go_at_call 206; refine HPUT.out.mono ?_; rintro e w8 ⟨Ae, ce, rfl, ho, hb⟩; have HI8 := Lib.hid (HI.out.below hb); have HN8 := Lib.hid (HN.out.below hb); have HX8 := Lib.hid (HXB.out.kept hb); have HD8 := Lib.hid (HD.out.below hb); have HJ8 := Lib.hid (drI_own HI.out.lt ho); clear ho hb)
                      | (go_at_call 26; have hb9 := new_below w8 (.cells #[.int .i64 p, .slice Ae L.length ce] 26); have hj9 := HJ8.out.below hb9; refine (specSparse p 2 3 L Ae ce _ hj9.at HLL.out).mono ?_; rintro e wA ⟨rfl, hb⟩; have HIA := Lib.hid ((HI8.out.below hb9).below hb); have HNA := Lib.hid ((HN8.out.below hb9).below hb); have HXA := Lib.hid ((HX8.out.kept hb9).kept hb); have HDA := Lib.hid ((HD8.out.below hb9).below hb); have HJA := Lib.hid (hj9.below hb); have HBA := Lib.hid ((cel2_new w8 (.int .i64 p) (.slice Ae L.length ce) 26).kept hb); have HGE := Lib.hid HI8.out.lt; clear hb hb9 hj9; simp only [hs]))
                    clear q0 q1 c0 c1 c2 HI8 HN8 HX8 HD8 HJ8 HPUT
                    generalize w8.heap.size = xj at *
                    have hdr : Below wA.heap.size wA wA.drew := (Below.refl _ _).drew
                    have HID := Lib.hid (HIA.out.below hdr)
                    have HND := Lib.hid (HNA.out.below hdr)
                    have HJD := Lib.hid (HJA.out.below hdr)
                    have HBD2 := Lib.hid (HBA.out.kept hdr)
                    clear hdr HIA HNA HJA HBA HXA HDA
                    refine wp_region_held_drew (S := (fun W' : World => W'.cell? ⟨xj, 0, none⟩ = some (.int .i64 p) ∧ W'.cell? ⟨xj, 1, none⟩ = some (.slice Ae L.length ce) ∧ W'.cell? ⟨g, off, none⟩ = some (.int .i64 a))) (by kernel_rfl) ?_ (fun hHeld => ?_)
                    · exact ⟨HBD2.out.cells.1, HBD2.out.cells.2.1, HND.out.cell (k := 0) (by simp)⟩
                    generalize wA.drew = WD at *
                    refine wpAnyH_take (i := 0) (v := .agg #[.int .i64 p, .slice Ae L.length ce]) rfl (by kernel_rfl) (by kernel_rfl) (by kernel_rfl) (fun _ _ _ h => h) (Or.inl ⟨by kernel_rfl, fun w hSw => by (try dsimp only at hSw); go_simp; all_goals first | omega | exact IntWalk.i64_in _ (by omega)⟩) (by assumption) ?_
                    try simp only [Act.put, List.getElem_toArray, List.getElem_cons_zero, List.setIfInBounds_toArray, List.set_cons_zero, List.set_cons_succ]
                    refine wpAnyH_take (i := 1) (v := .int .i64 (j : Int)) rfl (by kernel_rfl) (by kernel_rfl) (by kernel_rfl) (fun _ _ _ h => h) (Or.inl ⟨by kernel_rfl, fun w hSw => by (try dsimp only at hSw); go_simp; all_goals first | omega | exact IntWalk.i64_in _ (by omega)⟩) (by assumption) ?_
                    try simp only [Act.put, List.getElem_toArray, List.getElem_cons_zero, List.getElem_cons_succ, List.setIfInBounds_toArray, List.set_cons_zero, List.set_cons_succ]
                    refine wpAnyH_take (i := 2) (v := .int .i64 b) rfl (by kernel_rfl) (by kernel_rfl) (by kernel_rfl) (fun _ _ _ h => h) (Or.inl ⟨by kernel_rfl, fun w hSw => by (try dsimp only at hSw); go_simp; all_goals first | omega | exact IntWalk.i64_in _ (by omega)⟩) (by assumption) ?_
                    try simp only [Act.put, List.getElem_toArray, List.getElem_cons_zero, List.getElem_cons_succ, List.setIfInBounds_toArray, List.set_cons_zero, List.set_cons_succ]
                    refine wpAnyH_take (i := 3) (v := .int .i64 d) rfl (by kernel_rfl) (by kernel_rfl) (by kernel_rfl) (fun _ _ _ h => h) (Or.inl ⟨by kernel_rfl, fun w hSw => by (try dsimp only at hSw); go_simp; all_goals first | omega | exact IntWalk.i64_in _ (by omega)⟩) (by assumption) ?_
                    try simp only [Act.put, List.getElem_toArray, List.getElem_cons_zero, List.getElem_cons_succ, List.setIfInBounds_toArray, List.set_cons_zero, List.set_cons_succ]
                    refine wpAnyH_take (i := 4) (v := .int .i64 (min b d)) rfl (by kernel_rfl) (by kernel_rfl) (by kernel_rfl) (fun _ _ _ h => h) (Or.inl ⟨by kernel_rfl, fun w hSw => by (try dsimp only at hSw); go_simp; all_goals first | omega | exact IntWalk.i64_in _ (by omega)⟩) (by assumption) ?_
                    try simp only [Act.put, List.getElem_toArray, List.getElem_cons_zero, List.getElem_cons_succ, List.setIfInBounds_toArray, List.set_cons_zero, List.set_cons_succ]
                    refine wpAnyH_take (i := 5) (v := .int .i64 b) rfl (by kernel_rfl) (by kernel_rfl) (by kernel_rfl) (fun _ _ _ h => h) (Or.inl ⟨by kernel_rfl, fun w hSw => by (try dsimp only at hSw); go_simp; all_goals first | omega | exact IntWalk.i64_in _ (by omega)⟩) (by assumption) ?_
                    try simp only [Act.put, List.getElem_toArray, List.getElem_cons_zero, List.getElem_cons_succ, List.setIfInBounds_toArray, List.set_cons_zero, List.set_cons_succ]
                    refine wpAnyH_take (i := 6) (v := .int .i64 d) rfl (by kernel_rfl) (by kernel_rfl) (by kernel_rfl) (fun _ _ _ h => h) (Or.inl ⟨by kernel_rfl, fun w hSw => by (try dsimp only at hSw); go_simp; all_goals first | omega | exact IntWalk.i64_in _ (by omega)⟩) (by assumption) ?_
                    try simp only [Act.put, List.getElem_toArray, List.getElem_cons_zero, List.getElem_cons_succ, List.setIfInBounds_toArray, List.set_cons_zero, List.set_cons_succ]
                    refine wpAnyH_take (i := 7) (v := .int .i64 (max b d)) rfl (by kernel_rfl) (by kernel_rfl) (by kernel_rfl) (fun _ _ _ h => h) (Or.inl ⟨by kernel_rfl, fun w hSw => by (try dsimp only at hSw); go_simp; all_goals first | omega | exact IntWalk.i64_in _ (by omega)⟩) (by assumption) ?_
                    try simp only [Act.put, List.getElem_toArray, List.getElem_cons_zero, List.getElem_cons_succ, List.setIfInBounds_toArray, List.set_cons_zero, List.set_cons_succ]
                    refine wpAnyH_take (i := 8) (v := .slice (some ⟨g, off, none⟩) 3 cn) rfl (by kernel_rfl) (by kernel_rfl) (by kernel_rfl) (fun _ _ _ h => h) (Or.inl ⟨by kernel_rfl, fun w hSw => by (try dsimp only at hSw); go_simp; all_goals first | omega | exact IntWalk.i64_in _ (by omega)⟩) (by assumption) ?_
                    try simp only [Act.put, List.getElem_toArray, List.getElem_cons_zero, List.getElem_cons_succ, List.setIfInBounds_toArray, List.set_cons_zero, List.set_cons_succ]
                    refine wpAnyH_take (i := 9) (v := .int .i64 1) rfl (by kernel_rfl) (by kernel_rfl) (by kernel_rfl) (fun _ _ _ h => h) (Or.inl ⟨by kernel_rfl, fun w hSw => by (try dsimp only at hSw); go_simp; all_goals first | omega | exact IntWalk.i64_in _ (by omega)⟩) (by assumption) ?_
                    try simp only [Act.put, List.getElem_toArray, List.getElem_cons_zero, List.getElem_cons_succ, List.setIfInBounds_toArray, List.set_cons_zero, List.set_cons_succ]
                    refine wpAnyH_take (i := 10) (v := .int .i64 3) rfl (by kernel_rfl) (by kernel_rfl) (by kernel_rfl) (fun _ _ _ h => h) (Or.inl ⟨by kernel_rfl, fun w hSw => by (try dsimp only at hSw); go_simp; all_goals first | omega | exact IntWalk.i64_in _ (by omega)⟩) (by assumption) ?_
                    try simp only [Act.put, List.getElem_toArray, List.getElem_cons_zero, List.getElem_cons_succ, List.setIfInBounds_toArray, List.set_cons_zero, List.set_cons_succ]
                    refine wpAnyH_take (i := 11) (v := .int .i64 0) rfl (by kernel_rfl) (by kernel_rfl) (by kernel_rfl) (fun _ _ _ h => h) (Or.inl ⟨by kernel_rfl, fun w hSw => by (try dsimp only at hSw); go_simp; all_goals first | omega | exact IntWalk.i64_in _ (by omega)⟩) (by assumption) ?_
                    try simp only [Act.put, List.getElem_toArray, List.getElem_cons_zero, List.getElem_cons_succ, List.setIfInBounds_toArray, List.set_cons_zero, List.set_cons_succ]
                    refine wpAnyH_take (i := 12) (v := .pointer (some ⟨g, off, none⟩)) rfl (by kernel_rfl) (by kernel_rfl) (by kernel_rfl) (fun _ _ _ h => h) (Or.inl ⟨by kernel_rfl, fun w hSw => by (try dsimp only at hSw); go_simp; all_goals first | omega | exact IntWalk.i64_in _ (by omega)⟩) (by assumption) ?_
                    try simp only [Act.put, List.getElem_toArray, List.getElem_cons_zero, List.getElem_cons_succ, List.setIfInBounds_toArray, List.set_cons_zero, List.set_cons_succ]
                    refine wpAnyH_take (i := 13) (v := .int .i64 a) rfl (by kernel_rfl) (by kernel_rfl) (by kernel_rfl) (fun _ _ _ h => h) (Or.inl ⟨by kernel_rfl, fun w hSw => by (try dsimp only at hSw); go_simp; all_goals first | omega | exact IntWalk.i64_in _ (by omega)⟩) (by assumption) ?_
                    try simp only [Act.put, List.getElem_toArray, List.getElem_cons_zero, List.getElem_cons_succ, List.setIfInBounds_toArray, List.set_cons_zero, List.set_cons_succ]
                    refine wpAnyH_take (i := 14) (v := .agg #[.int .i64 2, .int .i64 (j : Int), .int .i64 (min b d), .int .i64 (max b d), .int .i64 a]) rfl (by kernel_rfl) (by kernel_rfl) (by kernel_rfl) (fun _ _ _ h => h) (Or.inl ⟨by kernel_rfl, fun w hSw => by (try dsimp only at hSw); go_simp; all_goals first | omega | exact IntWalk.i64_in _ (by omega)⟩) (by assumption) ?_
                    try simp only [Act.put, List.getElem_toArray, List.getElem_cons_zero, List.getElem_cons_succ, List.setIfInBounds_toArray, List.set_cons_zero, List.set_cons_succ]
                    refine wpAnyH_ready (rs := [15]) (by kernel_rfl) (by simp) (AllReadyH.cons rfl (fun K hK => ?_) AllReadyH.nil)
                    obtain ⟨q0, q1, q2, q3⟩ := HID.out.r2.cells
                    obtain ⟨hs1, hs2⟩ := HID.out.set2 (.int .i64 p) (.slice Ae L.length ce)
                    have HIS := Lib.hid hs1
                    have HNL := Lib.hid (HND.out.set hs2)
                    have HJL2 := Lib.hid (HJD.out.set hs2)
                    have HBL := Lib.hid (HBD2.out.within hs2 (.inr HGE.out))
                    clear hs1 hs2
                    go_simp
                    clear q0 q1 q2 q3
                    generalize ((WD.setCell ⟨w.heap.size + 1, 0, none⟩ (.int .i64 p)).setCell ⟨w.heap.size + 1, 1, none⟩ (.slice Ae L.length ce)) = ws at *
                    refine hK.out _ _ ⟨HBL.out.cells.1, HBL.out.cells.2.1, HNL.out.cell (k := 0) (by simp)⟩ (fun hHeld => ?_)
                    clear hK K
                    try simp only [Act.put, List.getElem_toArray, List.getElem_cons_zero, List.getElem_cons_succ, List.setIfInBounds_toArray, List.set_cons_zero, List.set_cons_succ]
                    refine wpAnyH_ready (rs := [16]) (by kernel_rfl) (by simp) (AllReadyH.cons rfl (fun K hK => ?_) AllReadyH.nil)
                    obtain ⟨⟨q0, q1, q2, q3, q4⟩, q5, q6, q7, q8, q9⟩ := And.intro HIS.out.r3.cells HIS.out.r3.froz
                    obtain ⟨hs1, hs2⟩ := HIS.out.set3 (.int .i64 2) (.int .i64 (j : Int)) (.int .i64 (min b d)) (.int .i64 (max b d)) (.int .i64 a)
                    have HIT := Lib.hid hs1
                    have HNM := Lib.hid (HNL.out.set hs2)
                    have HJM := Lib.hid (HJL2.out.set hs2)
                    have HBM := Lib.hid (HBL.out.within hs2 (.inr HGE.out))
                    clear hs1 hs2
                    go_simp
                    clear q0 q1 q2 q3 q4 q5 q6 q7 q8 q9
                    generalize (((((ws.setCell ⟨w.heap.size + 2, 0, none⟩ (.int .i64 2)).setCell ⟨w.heap.size + 2, 1, none⟩ (.int .i64 (j : Int))).setCell ⟨w.heap.size + 2, 2, none⟩ (.int .i64 (min b d))).setCell ⟨w.heap.size + 2, 3, none⟩ (.int .i64 (max b d))).setCell ⟨w.heap.size + 2, 4, none⟩ (.int .i64 a)) = wt at *
                    refine hK.out _ _ ⟨HBM.out.cells.1, HBM.out.cells.2.1, HNM.out.cell (k := 0) (by simp)⟩ (fun hHeld => ?_)
                    clear hK K
                    try simp only [Act.put, List.getElem_toArray, List.getElem_cons_zero, List.getElem_cons_succ, List.setIfInBounds_toArray, List.set_cons_zero, List.set_cons_succ]
                    refine wpAnyH_ready (rs := [17]) (by kernel_rfl) (by simp) (AllReadyH.cons rfl (fun K hK => ?_) AllReadyH.nil)
                    go_simp
                    refine hK.out _ _ ⟨HBM.out.cells.1, HBM.out.cells.2.1, HNM.out.cell (k := 0) (by simp)⟩ (fun hHeld => ?_)
                    clear hK K
                    try simp only [Act.put, List.getElem_toArray, List.getElem_cons_zero, List.getElem_cons_succ, List.setIfInBounds_toArray, List.set_cons_zero, List.set_cons_succ]
                    refine wpAnyH_done (by kernel_rfl) ?_ _
                    clear hHeld
                    obtain ⟨q0, q1, _, _⟩ := HIT.out.r2.cells
                    obtain ⟨q2, q3, q4, q5, q6⟩ := HIT.out.r3.cells
                    go_wp2_with fail
                    refine bodyPost_ret (v := .tuple #[.agg #[.int .i64 p, .slice Ae L.length ce], .agg #[.int .i64 2, .int .i64 (j : Int), .int .i64 (min b d), .int .i64 (max b d), .int .i64 a], .bool true]) ?_ rfl ⟨Ae, ce, rfl, HJM.out.at, HIT.out.bel⟩
                    simp [results, Try.results165, go_sem, q0, q1, q2, q3, q4, q5, q6]
                  · have hs : sparseB p 2 3 L = false := by simpa using hs
                    have HFK1 := Lib.hid (undo_miss3i HFK.out (by rw [HJL.out]; exact hs))
                    go_wp2_with (first
                      | (go_at_call 206; refine HPUT.out.mono ?_; rintro e w8 ⟨Ae, ce, rfl, ho, hb⟩; have HI8 := Lib.hid (HI.out.below hb); have HN8 := Lib.hid (HN.out.below hb); have HX8 := Lib.hid (HXB.out.kept hb); have HD8 := Lib.hid (HD.out.below hb); have HJ8 := Lib.hid (drI_own HI.out.lt ho); clear ho hb)
                      | (go_at_call 26; have hb9 := new_below w8 (.cells #[.int .i64 p, .slice Ae L.length ce] 26); have hj9 := HJ8.out.below hb9; refine (specSparse p 2 3 L Ae ce _ hj9.at HLL.out).mono ?_; rintro e wA ⟨rfl, hb⟩; have HIA := Lib.hid ((HI8.out.below hb9).below hb); have HNA := Lib.hid ((HN8.out.below hb9).below hb); have HXA := Lib.hid ((HX8.out.kept hb9).kept hb); have HDA := Lib.hid ((HD8.out.below hb9).below hb); have HJA := Lib.hid (hj9.below hb); have HBA := Lib.hid ((cel2_new w8 (.int .i64 p) (.slice Ae L.length ce) 26).kept hb); have HGE := Lib.hid HI8.out.lt; clear hb hb9 hj9; simp only [hs]))
                    go_roundw
                    case rel => exact ⟨2, by omega, by go_num, HFK1.out, HIA.out, HNA.out, HXA.out, HDA.out⟩
                    case measure => simp [intOf]
                · have hz : ((2 : Nat) : Int) = 2 := rfl
                  rw [hz]
                  clear hz
                  obtain ⟨L, hL⟩ : ∃ L, insU (min d a, max d a) (offI (j : Int) l) = L := ⟨_, rfl⟩
                  have hjL : join3 (j : Int) l 2 = L := by unfold join3; rw [HNS.out]; exact hL
                  have hLl : L.length ≤ 1048576 := by rw [← hL, insU_len]; have := offI_len (j : Int) l; omega
                  have hput := put_c p (min d a, max d a) (offI (j : Int) l) Ad cd wr HD.out.at (by have := offI_len (j : Int) l; omega)
                  rw [hL] at hput
                  have HPUT := Lib.hid hput
                  have HLL := Lib.hid hLl
                  have HJL := Lib.hid hjL
                  clear hput hLl hjL hL
                  by_cases hs : sparseB p 2 3 L = true
                  · have hxe : x = ((2, (j : Int), min d a, max d a, b), L) := by
                      have h := HH.out 2 hlt HF.out (by rw [HNS.out]; rfl) (by omega) HFK.out (by rw [HJL.out]; exact hs)
                      rw [HNS.out, HJL.out] at h
                      exact h
                    subst hxe
                    go_wp2_with (first
                      | (go_at_call 206; refine HPUT.out.mono ?_; rintro e w8 ⟨Ae, ce, rfl, ho, hb⟩; have HI8 := Lib.hid (HI.out.below hb); have HN8 := Lib.hid (HN.out.below hb); have HX8 := Lib.hid (HXB.out.kept hb); have HD8 := Lib.hid (HD.out.below hb); have HJ8 := Lib.hid (drI_own HI.out.lt ho); clear ho hb)
                      | (go_at_call 26; have hb9 := new_below w8 (.cells #[.int .i64 p, .slice Ae L.length ce] 26); have hj9 := HJ8.out.below hb9; refine (specSparse p 2 3 L Ae ce _ hj9.at HLL.out).mono ?_; rintro e wA ⟨rfl, hb⟩; have HIA := Lib.hid ((HI8.out.below hb9).below hb); have HNA := Lib.hid ((HN8.out.below hb9).below hb); have HXA := Lib.hid ((HX8.out.kept hb9).kept hb); have HDA := Lib.hid ((HD8.out.below hb9).below hb); have HJA := Lib.hid (hj9.below hb); have HBA := Lib.hid ((cel2_new w8 (.int .i64 p) (.slice Ae L.length ce) 26).kept hb); have HGE := Lib.hid HI8.out.lt; clear hb hb9 hj9; simp only [hs]))
                    clear q0 q1 c0 c1 c2 HI8 HN8 HX8 HD8 HJ8 HPUT
                    generalize w8.heap.size = xj at *
                    have hdr : Below wA.heap.size wA wA.drew := (Below.refl _ _).drew
                    have HID := Lib.hid (HIA.out.below hdr)
                    have HND := Lib.hid (HNA.out.below hdr)
                    have HJD := Lib.hid (HJA.out.below hdr)
                    have HBD2 := Lib.hid (HBA.out.kept hdr)
                    clear hdr HIA HNA HJA HBA HXA HDA
                    refine wp_region_held_drew (S := (fun W' : World => W'.cell? ⟨xj, 0, none⟩ = some (.int .i64 p) ∧ W'.cell? ⟨xj, 1, none⟩ = some (.slice Ae L.length ce) ∧ W'.cell? ⟨g, off + 1, none⟩ = some (.int .i64 b))) (by kernel_rfl) ?_ (fun hHeld => ?_)
                    · exact ⟨HBD2.out.cells.1, HBD2.out.cells.2.1, HND.out.cell (k := 1) (by simp)⟩
                    generalize wA.drew = WD at *
                    refine wpAnyH_take (i := 0) (v := .agg #[.int .i64 p, .slice Ae L.length ce]) rfl (by kernel_rfl) (by kernel_rfl) (by kernel_rfl) (fun _ _ _ h => h) (Or.inl ⟨by kernel_rfl, fun w hSw => by (try dsimp only at hSw); go_simp; all_goals first | omega | exact IntWalk.i64_in _ (by omega)⟩) (by assumption) ?_
                    try simp only [Act.put, List.getElem_toArray, List.getElem_cons_zero, List.setIfInBounds_toArray, List.set_cons_zero, List.set_cons_succ]
                    refine wpAnyH_take (i := 1) (v := .int .i64 (j : Int)) rfl (by kernel_rfl) (by kernel_rfl) (by kernel_rfl) (fun _ _ _ h => h) (Or.inl ⟨by kernel_rfl, fun w hSw => by (try dsimp only at hSw); go_simp; all_goals first | omega | exact IntWalk.i64_in _ (by omega)⟩) (by assumption) ?_
                    try simp only [Act.put, List.getElem_toArray, List.getElem_cons_zero, List.getElem_cons_succ, List.setIfInBounds_toArray, List.set_cons_zero, List.set_cons_succ]
                    refine wpAnyH_take (i := 2) (v := .int .i64 d) rfl (by kernel_rfl) (by kernel_rfl) (by kernel_rfl) (fun _ _ _ h => h) (Or.inl ⟨by kernel_rfl, fun w hSw => by (try dsimp only at hSw); go_simp; all_goals first | omega | exact IntWalk.i64_in _ (by omega)⟩) (by assumption) ?_
                    try simp only [Act.put, List.getElem_toArray, List.getElem_cons_zero, List.getElem_cons_succ, List.setIfInBounds_toArray, List.set_cons_zero, List.set_cons_succ]
                    refine wpAnyH_take (i := 3) (v := .int .i64 a) rfl (by kernel_rfl) (by kernel_rfl) (by kernel_rfl) (fun _ _ _ h => h) (Or.inl ⟨by kernel_rfl, fun w hSw => by (try dsimp only at hSw); go_simp; all_goals first | omega | exact IntWalk.i64_in _ (by omega)⟩) (by assumption) ?_
                    try simp only [Act.put, List.getElem_toArray, List.getElem_cons_zero, List.getElem_cons_succ, List.setIfInBounds_toArray, List.set_cons_zero, List.set_cons_succ]
                    refine wpAnyH_take (i := 4) (v := .int .i64 (min d a)) rfl (by kernel_rfl) (by kernel_rfl) (by kernel_rfl) (fun _ _ _ h => h) (Or.inl ⟨by kernel_rfl, fun w hSw => by (try dsimp only at hSw); go_simp; all_goals first | omega | exact IntWalk.i64_in _ (by omega)⟩) (by assumption) ?_
                    try simp only [Act.put, List.getElem_toArray, List.getElem_cons_zero, List.getElem_cons_succ, List.setIfInBounds_toArray, List.set_cons_zero, List.set_cons_succ]
                    refine wpAnyH_take (i := 5) (v := .int .i64 d) rfl (by kernel_rfl) (by kernel_rfl) (by kernel_rfl) (fun _ _ _ h => h) (Or.inl ⟨by kernel_rfl, fun w hSw => by (try dsimp only at hSw); go_simp; all_goals first | omega | exact IntWalk.i64_in _ (by omega)⟩) (by assumption) ?_
                    try simp only [Act.put, List.getElem_toArray, List.getElem_cons_zero, List.getElem_cons_succ, List.setIfInBounds_toArray, List.set_cons_zero, List.set_cons_succ]
                    refine wpAnyH_take (i := 6) (v := .int .i64 a) rfl (by kernel_rfl) (by kernel_rfl) (by kernel_rfl) (fun _ _ _ h => h) (Or.inl ⟨by kernel_rfl, fun w hSw => by (try dsimp only at hSw); go_simp; all_goals first | omega | exact IntWalk.i64_in _ (by omega)⟩) (by assumption) ?_
                    try simp only [Act.put, List.getElem_toArray, List.getElem_cons_zero, List.getElem_cons_succ, List.setIfInBounds_toArray, List.set_cons_zero, List.set_cons_succ]
                    refine wpAnyH_take (i := 7) (v := .int .i64 (max d a)) rfl (by kernel_rfl) (by kernel_rfl) (by kernel_rfl) (fun _ _ _ h => h) (Or.inl ⟨by kernel_rfl, fun w hSw => by (try dsimp only at hSw); go_simp; all_goals first | omega | exact IntWalk.i64_in _ (by omega)⟩) (by assumption) ?_
                    try simp only [Act.put, List.getElem_toArray, List.getElem_cons_zero, List.getElem_cons_succ, List.setIfInBounds_toArray, List.set_cons_zero, List.set_cons_succ]
                    refine wpAnyH_take (i := 8) (v := .slice (some ⟨g, off, none⟩) 3 cn) rfl (by kernel_rfl) (by kernel_rfl) (by kernel_rfl) (fun _ _ _ h => h) (Or.inl ⟨by kernel_rfl, fun w hSw => by (try dsimp only at hSw); go_simp; all_goals first | omega | exact IntWalk.i64_in _ (by omega)⟩) (by assumption) ?_
                    try simp only [Act.put, List.getElem_toArray, List.getElem_cons_zero, List.getElem_cons_succ, List.setIfInBounds_toArray, List.set_cons_zero, List.set_cons_succ]
                    refine wpAnyH_take (i := 9) (v := .int .i64 2) rfl (by kernel_rfl) (by kernel_rfl) (by kernel_rfl) (fun _ _ _ h => h) (Or.inl ⟨by kernel_rfl, fun w hSw => by (try dsimp only at hSw); go_simp; all_goals first | omega | exact IntWalk.i64_in _ (by omega)⟩) (by assumption) ?_
                    try simp only [Act.put, List.getElem_toArray, List.getElem_cons_zero, List.getElem_cons_succ, List.setIfInBounds_toArray, List.set_cons_zero, List.set_cons_succ]
                    refine wpAnyH_take (i := 10) (v := .int .i64 4) rfl (by kernel_rfl) (by kernel_rfl) (by kernel_rfl) (fun _ _ _ h => h) (Or.inl ⟨by kernel_rfl, fun w hSw => by (try dsimp only at hSw); go_simp; all_goals first | omega | exact IntWalk.i64_in _ (by omega)⟩) (by assumption) ?_
                    try simp only [Act.put, List.getElem_toArray, List.getElem_cons_zero, List.getElem_cons_succ, List.setIfInBounds_toArray, List.set_cons_zero, List.set_cons_succ]
                    refine wpAnyH_take (i := 11) (v := .int .i64 1) rfl (by kernel_rfl) (by kernel_rfl) (by kernel_rfl) (fun _ _ _ h => h) (Or.inl ⟨by kernel_rfl, fun w hSw => by (try dsimp only at hSw); go_simp; all_goals first | omega | exact IntWalk.i64_in _ (by omega)⟩) (by assumption) ?_
                    try simp only [Act.put, List.getElem_toArray, List.getElem_cons_zero, List.getElem_cons_succ, List.setIfInBounds_toArray, List.set_cons_zero, List.set_cons_succ]
                    refine wpAnyH_take (i := 12) (v := .pointer (some ⟨g, off + 1, none⟩)) rfl (by kernel_rfl) (by kernel_rfl) (by kernel_rfl) (fun _ _ _ h => h) (Or.inl ⟨by kernel_rfl, fun w hSw => by (try dsimp only at hSw); go_simp; all_goals first | omega | exact IntWalk.i64_in _ (by omega)⟩) (by assumption) ?_
                    try simp only [Act.put, List.getElem_toArray, List.getElem_cons_zero, List.getElem_cons_succ, List.setIfInBounds_toArray, List.set_cons_zero, List.set_cons_succ]
                    refine wpAnyH_take (i := 13) (v := .int .i64 b) rfl (by kernel_rfl) (by kernel_rfl) (by kernel_rfl) (fun _ _ _ h => h) (Or.inl ⟨by kernel_rfl, fun w hSw => by (try dsimp only at hSw); go_simp; all_goals first | omega | exact IntWalk.i64_in _ (by omega)⟩) (by assumption) ?_
                    try simp only [Act.put, List.getElem_toArray, List.getElem_cons_zero, List.getElem_cons_succ, List.setIfInBounds_toArray, List.set_cons_zero, List.set_cons_succ]
                    refine wpAnyH_take (i := 14) (v := .agg #[.int .i64 2, .int .i64 (j : Int), .int .i64 (min d a), .int .i64 (max d a), .int .i64 b]) rfl (by kernel_rfl) (by kernel_rfl) (by kernel_rfl) (fun _ _ _ h => h) (Or.inl ⟨by kernel_rfl, fun w hSw => by (try dsimp only at hSw); go_simp; all_goals first | omega | exact IntWalk.i64_in _ (by omega)⟩) (by assumption) ?_
                    try simp only [Act.put, List.getElem_toArray, List.getElem_cons_zero, List.getElem_cons_succ, List.setIfInBounds_toArray, List.set_cons_zero, List.set_cons_succ]
                    refine wpAnyH_ready (rs := [15]) (by kernel_rfl) (by simp) (AllReadyH.cons rfl (fun K hK => ?_) AllReadyH.nil)
                    obtain ⟨q0, q1, q2, q3⟩ := HID.out.r2.cells
                    obtain ⟨hs1, hs2⟩ := HID.out.set2 (.int .i64 p) (.slice Ae L.length ce)
                    have HIS := Lib.hid hs1
                    have HNL := Lib.hid (HND.out.set hs2)
                    have HJL2 := Lib.hid (HJD.out.set hs2)
                    have HBL := Lib.hid (HBD2.out.within hs2 (.inr HGE.out))
                    clear hs1 hs2
                    go_simp
                    clear q0 q1 q2 q3
                    generalize ((WD.setCell ⟨w.heap.size + 1, 0, none⟩ (.int .i64 p)).setCell ⟨w.heap.size + 1, 1, none⟩ (.slice Ae L.length ce)) = ws at *
                    refine hK.out _ _ ⟨HBL.out.cells.1, HBL.out.cells.2.1, HNL.out.cell (k := 1) (by simp)⟩ (fun hHeld => ?_)
                    clear hK K
                    try simp only [Act.put, List.getElem_toArray, List.getElem_cons_zero, List.getElem_cons_succ, List.setIfInBounds_toArray, List.set_cons_zero, List.set_cons_succ]
                    refine wpAnyH_ready (rs := [16]) (by kernel_rfl) (by simp) (AllReadyH.cons rfl (fun K hK => ?_) AllReadyH.nil)
                    obtain ⟨⟨q0, q1, q2, q3, q4⟩, q5, q6, q7, q8, q9⟩ := And.intro HIS.out.r3.cells HIS.out.r3.froz
                    obtain ⟨hs1, hs2⟩ := HIS.out.set3 (.int .i64 2) (.int .i64 (j : Int)) (.int .i64 (min d a)) (.int .i64 (max d a)) (.int .i64 b)
                    have HIT := Lib.hid hs1
                    have HNM := Lib.hid (HNL.out.set hs2)
                    have HJM := Lib.hid (HJL2.out.set hs2)
                    have HBM := Lib.hid (HBL.out.within hs2 (.inr HGE.out))
                    clear hs1 hs2
                    go_simp
                    clear q0 q1 q2 q3 q4 q5 q6 q7 q8 q9
                    generalize (((((ws.setCell ⟨w.heap.size + 2, 0, none⟩ (.int .i64 2)).setCell ⟨w.heap.size + 2, 1, none⟩ (.int .i64 (j : Int))).setCell ⟨w.heap.size + 2, 2, none⟩ (.int .i64 (min d a))).setCell ⟨w.heap.size + 2, 3, none⟩ (.int .i64 (max d a))).setCell ⟨w.heap.size + 2, 4, none⟩ (.int .i64 b)) = wt at *
                    refine hK.out _ _ ⟨HBM.out.cells.1, HBM.out.cells.2.1, HNM.out.cell (k := 1) (by simp)⟩ (fun hHeld => ?_)
                    clear hK K
                    try simp only [Act.put, List.getElem_toArray, List.getElem_cons_zero, List.getElem_cons_succ, List.setIfInBounds_toArray, List.set_cons_zero, List.set_cons_succ]
                    refine wpAnyH_ready (rs := [17]) (by kernel_rfl) (by simp) (AllReadyH.cons rfl (fun K hK => ?_) AllReadyH.nil)
                    go_simp
                    refine hK.out _ _ ⟨HBM.out.cells.1, HBM.out.cells.2.1, HNM.out.cell (k := 1) (by simp)⟩ (fun hHeld => ?_)
                    clear hK K
                    try simp only [Act.put, List.getElem_toArray, List.getElem_cons_zero, List.getElem_cons_succ, List.setIfInBounds_toArray, List.set_cons_zero, List.set_cons_succ]
                    refine wpAnyH_done (by kernel_rfl) ?_ _
                    clear hHeld
                    obtain ⟨q0, q1, _, _⟩ := HIT.out.r2.cells
                    obtain ⟨q2, q3, q4, q5, q6⟩ := HIT.out.r3.cells
                    go_wp2_with fail
                    refine bodyPost_ret (v := .tuple #[.agg #[.int .i64 p, .slice Ae L.length ce], .agg #[.int .i64 2, .int .i64 (j : Int), .int .i64 (min d a), .int .i64 (max d a), .int .i64 b], .bool true]) ?_ rfl ⟨Ae, ce, rfl, HJM.out.at, HIT.out.bel⟩
                    simp [results, Try.results165, go_sem, q0, q1, q2, q3, q4, q5, q6]
                  · have hs : sparseB p 2 3 L = false := by simpa using hs
                    have HFK1 := Lib.hid (undo_miss3i HFK.out (by rw [HJL.out]; exact hs))
                    go_wp2_with (first
                      | (go_at_call 206; refine HPUT.out.mono ?_; rintro e w8 ⟨Ae, ce, rfl, ho, hb⟩; have HI8 := Lib.hid (HI.out.below hb); have HN8 := Lib.hid (HN.out.below hb); have HX8 := Lib.hid (HXB.out.kept hb); have HD8 := Lib.hid (HD.out.below hb); have HJ8 := Lib.hid (drI_own HI.out.lt ho); clear ho hb)
                      | (go_at_call 26; have hb9 := new_below w8 (.cells #[.int .i64 p, .slice Ae L.length ce] 26); have hj9 := HJ8.out.below hb9; refine (specSparse p 2 3 L Ae ce _ hj9.at HLL.out).mono ?_; rintro e wA ⟨rfl, hb⟩; have HIA := Lib.hid ((HI8.out.below hb9).below hb); have HNA := Lib.hid ((HN8.out.below hb9).below hb); have HXA := Lib.hid ((HX8.out.kept hb9).kept hb); have HDA := Lib.hid ((HD8.out.below hb9).below hb); have HJA := Lib.hid (hj9.below hb); have HBA := Lib.hid ((cel2_new w8 (.int .i64 p) (.slice Ae L.length ce) 26).kept hb); have HGE := Lib.hid HI8.out.lt; clear hb hb9 hj9; simp only [hs]))
                    go_roundw
                    case rel => exact ⟨3, by omega, by go_num, HFK1.out, HIA.out, HNA.out, HXA.out, HDA.out⟩
                    case measure => simp [intOf]
              · obtain rfl : k = 3 := by omega
                have HF1 := Lib.hid (undo_miss3' HF.out (by rw [HNS.out]; rfl) HFK.out)
                go_wp2_with fail
                go_roundw
                case rel => exact ⟨j + 1, by omega, by go_num, HF1.out, HI.out⟩
                case measure => simp [intOf]; omega
          · have hne : ¬ ((ns.length : Int) = 3) := by omega
            have HF1 := Lib.hid (undo_miss3 HF.out (by rw [HNS.out]; exact c))
            clear c
            go_wp2_with (first
              | (go_at_call 204; refine (HNJ _ HI.out).mono ?_; rintro e w5 ⟨An, cn, rfl, ho, hb⟩; have HI5 := Lib.hid (HI.out.below hb); clear ho hb))
            go_roundw
            case rel => exact ⟨j + 1, by omega, by go_num, HF1.out, HI5.out⟩
            case measure => simp [intOf]; omega
        · have hpj : p.toNat = j := by omega
          exact absurd (by rw [hpj]; exact HF.out) HEN.out
end Go.Proofs.Ytdkpmaahinbhlaa
