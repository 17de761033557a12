/- What impl.FindSteps answers. No condition. -/
import Derived.Test.YtdkpmaahinbhlaaFzFndX
import Derived.Test.YtdkpmaahinbhlaaFzTkbI
import Derived.Test.YtdkpmaahinbhlaaFzTkbJ
import Derived.Test.YtdkpmaahinbhlaaFzFrdI
import Derived.Deep.RegionHeld3
import Derived.Deep.DeepCutAuto
import Derived.WalkMore
import Derived.ScopeJumps
namespace Go.Proofs.Ytdkpmaahinbhlaa
open Go.RowKit

attribute [local go_sem ↓] idx_kind0 idx_kind1
set_option maxHeartbeats 8000000 in
set_option maxRecDepth 100000 in
theorem implFind (p : Int) (l : List (Int × Int)) (A : Option Addr) (cap : Nat) (w : World) (hl : BarsAt w w.heap.size A l) (hn : l.length ≤ 1048576) :
    Calls Try.prog 80 #[.agg #[.int .i64 p, .slice A l.length cap]] w (FindO w (findV p l) (findB p l)) := by
  obtain ⟨i0, hi0, iz0, iz1, iz2⟩ := info_parts infoStep
  have hA1 := new_below w (.cells #[.int .i64 p, .slice A l.length cap] 26)
  have HX1 := Lib.hid (cel2_new w (.int .i64 p) (.slice A l.length cap) 26)
  have HL1 := Lib.hid (hl.on hA1)
  have HB1 := Lib.hid hA1
  have HMN := Lib.hid (fun (W : World) (h : BarsAt W W.heap.size A l) => implMin p l A cap W h hn)
  clear hA1 hl
  obtain ⟨V, hV⟩ : ∃ V, findV p l = V := ⟨_, rfl⟩
  obtain ⟨R, hR⟩ : ∃ R, findB p l = R := ⟨_, rfl⟩
  rw [hV, hR]
  go_enter Try.func80, Try.ntmps80
  go_wp2_with fail
  generalize (w.alloc (.cells #[.int .i64 p, .slice A l.length cap] 26)) = w1 at *
  by_cases hyes : minB p l = true ∧ 0 < l.length
  · obtain ⟨hm, h0⟩ := hyes
    rw [hm] at HMN
    obtain ⟨P, hP, hh0, hg0, hP2, hP8⟩ := min_pos hm h0
    obtain ⟨hv1, hv2⟩ := findV_yes hm h0
    rw [hV] at hv1
    rw [hR] at hv2
    obtain ⟨N, hN⟩ : ∃ N, N + 1 = P := ⟨P - 1, by omega⟩
    have hPn : p.toNat - 1 = N := by omega
    rw [hPn] at hv1
    subst hv2
    have HV := Lib.hid hv1.symm
    have HH0 := Lib.hid hh0
    have HG0 := Lib.hid (show IsG p l by rw [hP]; exact hg0)
    have HP := Lib.hid hP
    have HPR := Lib.hid (show p = (N : Int) + 1 by omega)
    have HNP := Lib.hid hN
    have hN8 : 1 ≤ N ∧ N ≤ 7 := by omega
    have hwp : IntKind.i64.wrap (p - 1) = (N : Int) := by rw [IntKind.wrap_i64]; omega
    clear hv1 hh0 hg0 hPn hP hN
    obtain ⟨J, hJ⟩ : ∃ J : Act → World → Prop, J = (fun a' w' => ∃ (n g : Nat) (acc : List Stp) (D : Option Addr) (c : Nat) (m : List (Int × Int)) (L : List Stp), (∃ (u6 u7 u8 u9 u10 u11 u12 u13 u14 u15 u16 u17 u18 u19 u20 u21 u22 u23 u24 u25 u26 u27 u28 u29 u30 u31 u32 u33 u34 u35 u36 u37 u38 u39 u40 u41 u42 u43 u44 u45 u46 u47 u48 u49 u50 u51 u52 u53 u54 u55 u56 u57 u58 u59 u60 u61 u62 u63 u64 u65 u66 u67 u68 u69 u70 u71 u72 u73 : Value), a' = { tmps := #[.agg #[.int .i64 p, .slice A l.length cap], .pointer (some ⟨w.heap.size, 0, none⟩), .slice none 0 0, .bool false, .slice (some ⟨g, 0, none⟩) N N, .slice (some ⟨g, 0, none⟩) n n, u6, u7, u8, u9, u10, u11, u12, u13, u14, u15, u16, u17, u18, u19, u20, u21, u22, u23, u24, u25, u26, u27, u28, u29, u30, u31, u32, u33, u34, u35, u36, u37, u38, u39, u40, u41, u42, u43, u44, u45, u46, u47, u48, u49, u50, u51, u52, u53, u54, u55, u56, u57, u58, u59, u60, u61, u62, u63, u64, u65, u66, u67, u68, u69, u70, u71, u72, u73], defers := [] }) ∧ HenS P (n + 1) m ∧ IsG p m ∧ 1 ≤ n ∧ L = List.replicate n zS ++ acc ∧ L.length = N ∧ findN p n m acc = V ∧ FndI w w' w.heap.size p D c m g N L) := ⟨_, rfl⟩
    obtain ⟨M, hM⟩ : ∃ M : Act → World → Nat, M = (fun a' _ => slN (a'.tmps.getD 5 undef)) := ⟨_, rfl⟩
    refine wp_scope_jumps 0 J M rfl ?_ ?_
    all_goals
      have HJ := Lib.hid hJ
      have HM := Lib.hid hM
      clear hJ hM
    · obtain ⟨x0, x1, _, _⟩ := HX1.out.cells
      go_wp2_with fail
      clear x0 x1
      refine (HMN.out _ HL1.out).mono ?_
      rintro e w2 ⟨rfl, hb⟩
      have HX2 := Lib.hid (HX1.out.kept hb)
      have HL2 := Lib.hid (HL1.out.on hb)
      have HB2 := Lib.hid (below_on HB1.out hb HB1.out.size)
      clear hb
      obtain ⟨x0, x1, _, _⟩ := HX2.out.cells
      have h0' : ((l.length : Int) == 0) = false := beq_eq_false_iff_ne.2 (by omega)
      have h0'' : ¬ l = [] := fun e => by rw [e] at h0; exact absurd h0 (by simp)
      go_wp2_with (at_make; (refine wpList_make_full w2 rfl _ _ 81 rfl w.heap.size 155 i0 (.agg #[.int .i64 0, .int .i64 0, .int .i64 0, .int .i64 0, .int .i64 0]) 5 Try.underlying81 hi0 iz0 iz1 _ _ _ _ N rfl rfl (by have := HPR.out; first | rfl | omega) (by have := HPR.out; first | rfl | omega) (by rw [iz2]; omega) (by unfold maxLen; omega) HB2.out.size ?_; intro wr hown0 hgr; clear x0 x1))
      have hbr := grown_below hgr (Nat.le_refl _)
      obtain ⟨L, hL⟩ : ∃ L, List.replicate N zS = L := ⟨_, rfl⟩
      have hLl : L.length = N := by rw [← hL]; simp
      have hrow : wr.ownsRow w.heap.size 155 5 (.slice (some ⟨w2.heap.size, 0, none⟩) L.length N) L.length (stepCells L) := by
        rw [hLl, ← hL, ← made_steps]
        exact hown0
      have HI := Lib.hid (show FndI w wr w.heap.size p A cap l w2.heap.size N L from
        ⟨HX2.out.kept hbr, HL2.out.on hbr, ⟨by have := HX2.out.lt; omega, (hown0.lt w2.heap.size rfl).2, hrow⟩, below_on HB2.out hbr HB2.out.size, Nat.le_refl _⟩)
      have HL := Lib.hid (show L = List.replicate N zS ++ [] by rw [List.append_nil, hL])
      have HH := Lib.hid (show HenS P (N + 1) l by rw [HNP.out]; exact HH0.out)
      have HG := Lib.hid HG0.out
      have HLN := Lib.hid hLl
      have HLE := Lib.hid (Nat.le_refl N)
      have HF := Lib.hid HV.out
      have hnN : 1 ≤ N ∧ N ≤ N := by omega
      obtain ⟨g, hg⟩ : ∃ g, w2.heap.size = g := ⟨_, rfl⟩
      rw [hg] at HI ⊢
      clear hbr hown0 hgr hrow hL hg hLl HH0 HG0 HV HL2 HX2 HB2 hwp h0' h0''
      go_step3
      have hh1 := HH.out.one
      obtain ⟨m1, hm1⟩ : ∃ m1, m1 + 1 = N := ⟨N - 1, by omega⟩
      have hwn : IntKind.i64.wrap ((N : Int) - 1) = (m1 : Int) := by rw [IntKind.wrap_i64]; omega
      have HM1 := Lib.hid hm1
      have hl0 : 0 < l.length := by omega
      clear hm1
      go_wp2_with fail
      go_loopw [5, 31] (fun v5 i wr => v5 = .slice (some ⟨g, 0, none⟩) N N ∧ ∃ k : Int, (k = 0 ∨ k = 1 ∨ k = 2) ∧ i = .int .i64 k ∧ (k ≠ 0 → fstN (fun v => undo2 (v : Int) l) P = none) ∧ (k = 2 → fstN (fun v => undo3 p (v : Int) l) P = none) ∧ FndI w wr w.heap.size p A cap l g N L) (fun _ i _ => 2 - (intOf i).toNat)
      case atStart => exact ⟨rfl, 0, .inl rfl, rfl, fun h => absurd rfl h, fun h => by omega, HI.out⟩
      case round =>
        obtain ⟨rfl, k, hk, rfl, h2, h3, hi⟩ := hrel
        have HI := Lib.hid hi
        clear hi
        by_cases hk0 : k = 0
        · subst hk0
          obtain ⟨x0, x1, _, _⟩ := HI.out.x.cells
          go_wp2_with fail
          clear x0 x1
          go_loopw [5, 36] (fun v5 i wr => v5 = .slice (some ⟨g, 0, none⟩) N N ∧ ∃ v : Nat, (v : Int) ≤ p ∧ i = .int .i64 v ∧ fstN (fun v => undo2 (v : Int) l) v = none ∧ FndI w wr w.heap.size p A cap l g N L) (fun _ i _ => (p - intOf i).toNat)
          case atStart => exact ⟨rfl, 0, by have := HPR.out; omega, rfl, rfl, HI.out⟩
          case round =>
            obtain ⟨rfl, v, hv, rfl, hfs, hi⟩ := hrel
            have HI := Lib.hid hi
            have HFS := Lib.hid hfs
            clear hi hfs
            have hv8 : v ≤ 8 := by have := HP.out; omega
            by_cases hlt : (v : Int) < p
            · obtain ⟨x0, x1, f0, f1⟩ := HI.out.x.cells
              go_wp2_with fail
              clear x0 x1 f0 f1
              cases hr : undo2 (v : Int) l with
              | none =>
                refine (takeBack1_c p (v : Int) l A cap wr HI.out.bars HG.out ⟨by omega, hlt⟩ hl0 none hr).mono ?_
                rintro e w6 ⟨rfl, hb⟩
                have hb7 := new_below w6 (.cells #[.int .i64 0, .int .i64 0, .int .i64 0, .int .i64 0, .int .i64 0] 155)
                have hb8 := new_below (w6.alloc (.cells #[.int .i64 0, .int .i64 0, .int .i64 0, .int .i64 0, .int .i64 0] 155)) (.cells #[.int .i64 p, .slice A l.length cap] 26)
                have HI8 := Lib.hid (((HI.out.below hb).below hb7).below hb8)
                clear hb hb7 hb8
                go_wp2_with fail
                generalize ((w6.alloc (.cells #[.int .i64 0, .int .i64 0, .int .i64 0, .int .i64 0, .int .i64 0] 155)).alloc (.cells #[.int .i64 p, .slice A l.length cap] 26)) = w8 at *
                go_roundw
                case rel => exact ⟨rfl, v + 1, by omega, by go_num, fstN_miss HFS.out hr, HI8.out⟩
                case measure => simp [intOf]; omega
              | some x =>
                by_cases hn1 : N = 1
                · exfalso
                  have h9 := undo2_none (v := (v : Int)) (m := l) (by omega)
                  rw [h9] at hr
                  cases hr
                · obtain ⟨y, hu, hh2, hg2, hf2⟩ := findN_round (P := P) (n := m1) [] (by have := HG.out; rw [HP.out] at this; exact this) (by have := HH.out; rw [← HM1.out] at this; exact this) (by have := HM1.out; omega)
                  rw [← HP.out] at hu hg2 hf2
                  have hyx := find_first2 hu HFS.out hlt hr
                  subst hyx
                  refine (takeBack1_c p (v : Int) l A cap wr HI.out.bars HG.out ⟨by omega, hlt⟩ hl0 (some y) hr).mono ?_
                  obtain ⟨⟨s0, s1, s2, s3, s4⟩, m2⟩ := y
                  simp only at hh2 hg2 hf2
                  rintro e w6 ⟨A2, c2, rfl, hb2, hb⟩
                  simp only
                  have hone2 := hh2.one
                  have HH2 := Lib.hid hh2
                  have HG2 := Lib.hid hg2
                  have HF2 := Lib.hid (show findN p m1 m2 ((s0, s1, s2, s3, s4) :: []) = V from hf2.symm.trans (by rw [HM1.out]; exact HF.out))
                  have HI6 := Lib.hid (HI.out.below hb)
                  obtain ⟨hi2, hbi⟩ := hb2
                  have HL6 := Lib.hid hbi
                  have HGW := Lib.hid HI.out.row.2.1
                  have hwz := hb.size
                  clear hb hbi hu hh2 hg2 hf2 hr
                  have hb7 := new_below w6 (.cells #[.int .i64 s0, .int .i64 s1, .int .i64 s2, .int .i64 s3, .int .i64 s4] 155)
                  have hb8 := new_below (w6.alloc (.cells #[.int .i64 s0, .int .i64 s1, .int .i64 s2, .int .i64 s3, .int .i64 s4] 155)) (.cells #[.int .i64 p, .slice A2 m2.length c2] 26)
                  have hs7 : (w6.alloc (.cells #[.int .i64 s0, .int .i64 s1, .int .i64 s2, .int .i64 s3, .int .i64 s4] 155)).heap.size = w6.heap.size + 1 := by simp
                  have hs8 : ((w6.alloc (.cells #[.int .i64 s0, .int .i64 s1, .int .i64 s2, .int .i64 s3, .int .i64 s4] 155)).alloc (.cells #[.int .i64 p, .slice A2 m2.length c2] 26)).heap.size = w6.heap.size + 2 := by simp
                  have HC5 := Lib.hid ((cel5_new w6 (.int .i64 s0) (.int .i64 s1) (.int .i64 s2) (.int .i64 s3) (.int .i64 s4) 155).kept hb8)
                  have hc6 := cel2_new (w6.alloc (.cells #[.int .i64 s0, .int .i64 s1, .int .i64 s2, .int .i64 s3, .int .i64 s4] 155)) (.int .i64 p) (.slice A2 m2.length c2) 26
                  rw [hs7] at hc6
                  have HC6 := Lib.hid hc6
                  have HI8 := Lib.hid ((HI6.out.below hb7).below hb8)
                  have HL8 := Lib.hid ((HL6.out.within (within_of hb7) (.inr (Nat.zero_le _))).within (within_of hb8) (.inr (Nat.zero_le _)))
                  have HS8 := Lib.hid hs8
                  clear hb7 hb8 hs7 hs8 hc6
                  go_upto_region 13 with fail
                  generalize ((w6.alloc (.cells #[.int .i64 s0, .int .i64 s1, .int .i64 s2, .int .i64 s3, .int .i64 s4] 155)).alloc (.cells #[.int .i64 p, .slice A2 m2.length c2] 26)) = w8 at *
                  have hL1 : m1 < L.length := by have := HM1.out; have := HLN.out; have := HLE.out; omega
                  obtain ⟨t0, t1, t2, t3, t4⟩ := HC5.out.cells
                  have hrow8 := HI8.out.row.2.2
                  obtain ⟨g0, g1, g2, g3, g4⟩ := stepCells_get L m1 hL1
                  have hd0 := (hrow8.cellAt (m1 * 5) (by omega)).trans g0
                  have hd1 := (hrow8.cellAt (m1 * 5 + 1) (by omega)).trans g1
                  have hd2 := (hrow8.cellAt (m1 * 5 + 2) (by omega)).trans g2
                  have hd3 := (hrow8.cellAt (m1 * 5 + 3) (by omega)).trans g3
                  have hd4 := (hrow8.cellAt (m1 * 5 + 4) (by omega)).trans g4
                  have hf0 := hrow8.frozenAt (m1 * 5)
                  have hf1 := hrow8.frozenAt (m1 * 5 + 1)
                  have hf2 := hrow8.frozenAt (m1 * 5 + 2)
                  have hf3 := hrow8.frozenAt (m1 * 5 + 3)
                  have hf4 := hrow8.frozenAt (m1 * 5 + 4)
                  have hst0 := hrow8.stored (m1 * 5) (.int .i64 s0)
                  have hst1 := hst0.1.stored (m1 * 5 + 1) (.int .i64 s1)
                  have hst2 := hst1.1.stored (m1 * 5 + 2) (.int .i64 s2)
                  have hst3 := hst2.1.stored (m1 * 5 + 3) (.int .i64 s3)
                  have hst4 := hst3.1.stored (m1 * 5 + 4) (.int .i64 s4)
                  have hg5 := (((hst0.2.trans_ hst1.2).trans_ hst2.2).trans_ hst3.2).trans_ hst4.2
                  have hst5 := hst4.1
                  rw [stepCells_set L m1 (s0, s1, s2, s3, s4)] at hst5
                  have HST := Lib.hid hst5
                  have HG5 := Lib.hid hg5
                  have hm1n : (m1 : Int) < (N : Int) := by have := HM1.out; omega
                  clear hst0 hst1 hst2 hst3 hst4 hst5 hg5 g0 g1 g2 g3 g4 hrow8
                  go_upto_region 15 with fail
                  clear t0 t1 t2 t3 t4 hd0 hd1 hd2 hd3 hd4 hf0 hf1 hf2 hf3 hf4
                  generalize (((((w8.setCell ⟨g, m1 * 5, none⟩ (.int .i64 s0)).setCell ⟨g, m1 * 5 + 1, none⟩ (.int .i64 s1)).setCell ⟨g, m1 * 5 + 2, none⟩ (.int .i64 s2)).setCell ⟨g, m1 * 5 + 3, none⟩ (.int .i64 s3)).setCell ⟨g, m1 * 5 + 4, none⟩ (.int .i64 s4)) = w9 at *
                  have hgs : g < w8.heap.size := HI8.out.row.2.1
                  have HW9 : Within g (g + 1) w8 w9 := ⟨HG5.out.os, HG5.out.tape, HG5.out.output, HG5.out.size, fun j hj hd => HG5.out.block j hj (by simp; omega)⟩
                  have hs9 := HG5.out.size
                  have hgw := HGW.out
                  have hgne := HI8.out.row.1
                  have X9 := Lib.hid (HI8.out.x.within HW9 (by omega))
                  have G9 := Lib.hid (HC6.out.within HW9 (by omega))
                  have L9 := Lib.hid (HL8.out.within HW9 (by omega))
                  have B9 := Lib.hid (within_on HI8.out.bel HW9 HI8.out.bel.size (.inl (HI8.out.row.2.2.lt g rfl).1))
                  have R9 := Lib.hid (show SRow w w9 w.heap.size g N (L.set m1 (s0, s1, s2, s3, s4)) from ⟨hgne, Nat.lt_of_lt_of_le hgs hs9, by rw [List.length_set]; exact HST.out⟩)
                  have hdr : Below w9.heap.size w9 w9.drew := (Below.refl _ _).drew
                  have G10 := Lib.hid (G9.out.kept hdr)
                  have hne : w6.heap.size + 1 ≠ w.heap.size := by have := HI6.out.x.lt; omega
                  obtain ⟨hx2, hw2⟩ := ret2 X9.out (.int .i64 p) (.slice A2 m2.length c2)
                  have hd2 : Below ((w9.setCell ⟨w.heap.size, 0, none⟩ (.int .i64 p)).setCell ⟨w.heap.size, 1, none⟩ (.slice A2 m2.length c2)).heap.size ((w9.setCell ⟨w.heap.size, 0, none⟩ (.int .i64 p)).setCell ⟨w.heap.size, 1, none⟩ (.slice A2 m2.length c2)) ((w9.setCell ⟨w.heap.size, 0, none⟩ (.int .i64 p)).setCell ⟨w.heap.size, 1, none⟩ (.slice A2 m2.length c2)).drew := (Below.refl _ _).drew
                  have G11 := Lib.hid ((G9.out.within hw2 (by omega)).kept hd2)
                  have HJ11 := Lib.hid ((show FndI w ((w9.setCell ⟨w.heap.size, 0, none⟩ (.int .i64 p)).setCell ⟨w.heap.size, 1, none⟩ (.slice A2 m2.length c2)) w.heap.size p A2 c2 m2 g N (L.set m1 (s0, s1, s2, s3, s4)) from
                    ⟨hx2, (L9.out.within hw2 (by have := HI.out.x.lt; omega)).at, R9.out.set hw2, within_on B9.out hw2 B9.out.size (.inl (Nat.le_refl _)), Nat.le_refl _⟩).below hd2)
                  have hm1n' : (m1 : Int) ≤ (N : Int) := by omega
                  clear HW9 hdr hx2 hw2 hd2
                  obtain ⟨q0, q1, q2, q3⟩ := X9.out.cells
                  go_wp2_with fail
                  refine wp_region_held_drew (S := (fun W' : World => W'.cell? ⟨w6.heap.size + 1, 0, none⟩ = some (.int .i64 p) ∧ W'.cell? ⟨w6.heap.size + 1, 1, none⟩ = some (.slice A2 m2.length c2))) (by kernel_rfl) ?_ (fun hHeld => ?_)
                  · exact ⟨G10.out.cells.1, G10.out.cells.2.1⟩
                  refine wpAnyH_take (i := 0) (v := .slice (some ⟨g, 0, none⟩) N N) rfl (by kernel_rfl) (by kernel_rfl) (by kernel_rfl) (fun _ _ _ h => h) (Or.inl ⟨by kernel_rfl, fun w hSw => by (try dsimp only at hSw); go_simp; all_goals first | omega | exact IntWalk.i64_in _ (by omega)⟩) (by assumption) ?_
                  try simp only [Act.put, List.setIfInBounds_toArray]
                  refine wpAnyH_take (i := 1) (v := .int .i64 (m1 : Int)) rfl (by kernel_rfl) (by kernel_rfl) (by kernel_rfl) (fun _ _ _ h => h) (Or.inl ⟨by kernel_rfl, fun w hSw => by (try dsimp only at hSw); go_simp; all_goals first | omega | exact IntWalk.i64_in _ (by omega)⟩) (by assumption) ?_
                  try simp only [Act.put]
                  refine wpAnyH_take (i := 2) (v := .int .i64 (m1 : Int)) rfl (by kernel_rfl) (by kernel_rfl) (by kernel_rfl) (fun _ _ _ h => h) (Or.inl ⟨by kernel_rfl, fun w hSw => by (try dsimp only at hSw); go_simp; all_goals first | omega | exact IntWalk.i64_in _ (by omega)⟩) (by assumption) ?_
                  try simp only [Act.put]
                  refine wpAnyH_take (i := 3) (v := .slice (some ⟨g, 0, none⟩) m1 m1) rfl (by kernel_rfl) (by kernel_rfl) (by kernel_rfl) (fun _ _ _ h => h) (Or.inl ⟨by kernel_rfl, fun w hSw => by (try dsimp only at hSw); go_simp; all_goals first | omega | exact IntWalk.i64_in _ (by omega)⟩) (by assumption) ?_
                  try simp only [Act.put]
                  refine wpAnyH_take (i := 4) (v := .agg #[.int .i64 p, .slice A2 m2.length c2]) rfl (by kernel_rfl) (by kernel_rfl) (by kernel_rfl) (fun _ _ _ h => h) (Or.inl ⟨by kernel_rfl, fun w hSw => by (try dsimp only at hSw); go_simp; all_goals first | omega | exact IntWalk.i64_in _ (by omega)⟩) (by assumption) ?_
                  try simp only [Act.put]
                  refine wpAnyH_take (i := 5) (v := .slice (some ⟨g, 0, none⟩) m1 m1) rfl (by kernel_rfl) (by kernel_rfl) (by kernel_rfl) (fun _ _ _ h => h) (Or.inl ⟨by kernel_rfl, fun w hSw => by (try dsimp only at hSw); go_simp; all_goals first | omega | exact IntWalk.i64_in _ (by omega)⟩) (by assumption) ?_
                  try simp only [Act.put]
                  refine wpAnyH_ready (rs := [6]) (by kernel_rfl) (by simp) (AllReadyH.cons rfl (fun K hK => ?_) AllReadyH.nil)
                  try simp only [Act.put, List.getElem_toArray, List.getElem_cons_zero, List.getElem_cons_succ, List.setIfInBounds_toArray, List.set_cons_zero, List.set_cons_succ]
                  go_simp
                  refine hK.out _ _ ⟨G11.out.cells.1, G11.out.cells.2.1⟩ (fun hHeld => ?_)
                  clear hK K q0 q1 q2 q3
                  try simp only [Act.put, List.setIfInBounds_toArray, List.set_cons_zero, List.set_cons_succ]
                  refine wpAnyH_done (by kernel_rfl) ?_ _
                  try simp only [Act.put, List.getElem_toArray, List.getElem_cons_zero, List.getElem_cons_succ, List.setIfInBounds_toArray, List.set_cons_zero, List.set_cons_succ]
                  generalize ((w9.setCell ⟨w.heap.size, 0, none⟩ (.int .i64 p)).setCell ⟨w.heap.size, 1, none⟩ (.slice A2 m2.length c2)).drew = w11 at *
                  go_wp2_with fail
                  go_step3
                  have hjj := HJ.out
                  refine (show 0 = 0 ∧ J _ _ from ⟨rfl, ?_⟩)
                  rw [hjj]
                  exact ⟨m1, g, (s0, s1, s2, s3, s4) :: [], A2, c2, m2, L.set m1 (s0, s1, s2, s3, s4), ⟨_, _, _, _, _, _, _, _, _, _, _, _, _, _, _, _, _, _, _, _, _, _, _, _, _, _, _, _, _, _, _, _, _, _, _, _, _, _, _, _, _, _, _, _, _, _, _, _, _, _, _, _, _, _, _, _, _, _, _, _, _, _, _, _, _, _, _, _, rfl⟩, HH2.out, HG2.out, by have := HM1.out; omega, by rw [HL.out, ← HM1.out]; exact set_last m1 [] _, by rw [List.length_set]; exact HLN.out, HF2.out, HJ11.out⟩
                  
            · have hvP : v = P := by have := HP.out; omega
              rw [hvP] at HFS
              go_wp2_with fail
              go_roundw
              case rel => exact ⟨rfl, 1, .inr (.inl rfl), by first | rfl | go_num, fun _ => HFS.out, fun h => by omega, HI.out⟩
              case measure => simp [intOf]
        by_cases hk1 : k = 1
        · subst hk1
          obtain ⟨x0, x1, _, _⟩ := HI.out.x.cells
          go_wp2_with fail
          clear x0 x1
          go_loopw [5, 36] (fun v5 i wr => v5 = .slice (some ⟨g, 0, none⟩) N N ∧ ∃ v : Nat, (v : Int) ≤ p ∧ i = .int .i64 v ∧ fstN (fun v => undo3 p (v : Int) l) v = none ∧ FndI w wr w.heap.size p A cap l g N L) (fun _ i _ => (p - intOf i).toNat)
          case atStart => exact ⟨rfl, 0, by have := HPR.out; omega, rfl, rfl, HI.out⟩
          case round =>
            obtain ⟨rfl, v, hv, rfl, hfs, hi⟩ := hrel
            have HI := Lib.hid hi
            have HFS := Lib.hid hfs
            clear hi hfs
            have hv8 : v ≤ 8 := by have := HP.out; omega
            by_cases hlt : (v : Int) < p
            · obtain ⟨x0, x1, f0, f1⟩ := HI.out.x.cells
              go_wp2_with fail
              clear x0 x1 f0 f1
              cases hr : undo3 p (v : Int) l with
              | none =>
                refine (takeBack2_c p (v : Int) l A cap wr HI.out.bars HG.out ⟨by omega, hlt⟩ hl0 none (fun a b c h => by have := near_three (P := P) (v := v) (by have := HG.out; rw [HP.out] at this; exact this) HH.out (by have := HP.out; omega) h; rwa [← HP.out] at this) hr).mono ?_
                rintro e w6 ⟨rfl, hb⟩
                have hb7 := new_below w6 (.cells #[.int .i64 0, .int .i64 0, .int .i64 0, .int .i64 0, .int .i64 0] 155)
                have hb8 := new_below (w6.alloc (.cells #[.int .i64 0, .int .i64 0, .int .i64 0, .int .i64 0, .int .i64 0] 155)) (.cells #[.int .i64 p, .slice A l.length cap] 26)
                have HI8 := Lib.hid (((HI.out.below hb).below hb7).below hb8)
                clear hb hb7 hb8
                go_wp2_with fail
                generalize ((w6.alloc (.cells #[.int .i64 0, .int .i64 0, .int .i64 0, .int .i64 0, .int .i64 0] 155)).alloc (.cells #[.int .i64 p, .slice A l.length cap] 26)) = w8 at *
                go_roundw
                case rel => exact ⟨rfl, v + 1, by omega, by go_num, fstN_miss HFS.out hr, HI8.out⟩
                case measure => simp [intOf]; omega
              | some x =>
                by_cases hn1 : N = 1
                · exfalso
                  have h9 := undo3_none (p := p) (v := (v : Int)) (m := l) (by omega)
                  rw [h9] at hr
                  cases hr
                · obtain ⟨y, hu, hh2, hg2, hf2⟩ := findN_round (P := P) (n := m1) [] (by have := HG.out; rw [HP.out] at this; exact this) (by have := HH.out; rw [← HM1.out] at this; exact this) (by have := HM1.out; omega)
                  rw [← HP.out] at hu hg2 hf2
                  have hyx := find_first3 hu (by rw [show p.toNat = P by have := HP.out; omega]; exact h2 (by omega)) HFS.out hlt hr
                  subst hyx
                  refine (takeBack2_c p (v : Int) l A cap wr HI.out.bars HG.out ⟨by omega, hlt⟩ hl0 (some y) (fun a b c h => by have := near_three (P := P) (v := v) (by have := HG.out; rw [HP.out] at this; exact this) HH.out (by have := HP.out; omega) h; rwa [← HP.out] at this) hr).mono ?_
                  obtain ⟨⟨s0, s1, s2, s3, s4⟩, m2⟩ := y
                  simp only at hh2 hg2 hf2
                  rintro e w6 ⟨A2, c2, rfl, hb2, hb⟩
                  simp only
                  have hone2 := hh2.one
                  have HH2 := Lib.hid hh2
                  have HG2 := Lib.hid hg2
                  have HF2 := Lib.hid (show findN p m1 m2 ((s0, s1, s2, s3, s4) :: []) = V from hf2.symm.trans (by rw [HM1.out]; exact HF.out))
                  have HI6 := Lib.hid (HI.out.below hb)
                  obtain ⟨hi2, hbi⟩ := hb2
                  have HL6 := Lib.hid hbi
                  have HGW := Lib.hid HI.out.row.2.1
                  have hwz := hb.size
                  clear hb hbi hu hh2 hg2 hf2 hr
                  have hb7 := new_below w6 (.cells #[.int .i64 s0, .int .i64 s1, .int .i64 s2, .int .i64 s3, .int .i64 s4] 155)
                  have hb8 := new_below (w6.alloc (.cells #[.int .i64 s0, .int .i64 s1, .int .i64 s2, .int .i64 s3, .int .i64 s4] 155)) (.cells #[.int .i64 p, .slice A2 m2.length c2] 26)
                  have hs7 : (w6.alloc (.cells #[.int .i64 s0, .int .i64 s1, .int .i64 s2, .int .i64 s3, .int .i64 s4] 155)).heap.size = w6.heap.size + 1 := by simp
                  have hs8 : ((w6.alloc (.cells #[.int .i64 s0, .int .i64 s1, .int .i64 s2, .int .i64 s3, .int .i64 s4] 155)).alloc (.cells #[.int .i64 p, .slice A2 m2.length c2] 26)).heap.size = w6.heap.size + 2 := by simp
                  have HC5 := Lib.hid ((cel5_new w6 (.int .i64 s0) (.int .i64 s1) (.int .i64 s2) (.int .i64 s3) (.int .i64 s4) 155).kept hb8)
                  have hc6 := cel2_new (w6.alloc (.cells #[.int .i64 s0, .int .i64 s1, .int .i64 s2, .int .i64 s3, .int .i64 s4] 155)) (.int .i64 p) (.slice A2 m2.length c2) 26
                  rw [hs7] at hc6
                  have HC6 := Lib.hid hc6
                  have HI8 := Lib.hid ((HI6.out.below hb7).below hb8)
                  have HL8 := Lib.hid ((HL6.out.within (within_of hb7) (.inr (Nat.zero_le _))).within (within_of hb8) (.inr (Nat.zero_le _)))
                  have HS8 := Lib.hid hs8
                  clear hb7 hb8 hs7 hs8 hc6
                  go_upto_region 13 with fail
                  generalize ((w6.alloc (.cells #[.int .i64 s0, .int .i64 s1, .int .i64 s2, .int .i64 s3, .int .i64 s4] 155)).alloc (.cells #[.int .i64 p, .slice A2 m2.length c2] 26)) = w8 at *
                  have hL1 : m1 < L.length := by have := HM1.out; have := HLN.out; have := HLE.out; omega
                  obtain ⟨t0, t1, t2, t3, t4⟩ := HC5.out.cells
                  have hrow8 := HI8.out.row.2.2
                  obtain ⟨g0, g1, g2, g3, g4⟩ := stepCells_get L m1 hL1
                  have hd0 := (hrow8.cellAt (m1 * 5) (by omega)).trans g0
                  have hd1 := (hrow8.cellAt (m1 * 5 + 1) (by omega)).trans g1
                  have hd2 := (hrow8.cellAt (m1 * 5 + 2) (by omega)).trans g2
                  have hd3 := (hrow8.cellAt (m1 * 5 + 3) (by omega)).trans g3
                  have hd4 := (hrow8.cellAt (m1 * 5 + 4) (by omega)).trans g4
                  have hf0 := hrow8.frozenAt (m1 * 5)
                  have hf1 := hrow8.frozenAt (m1 * 5 + 1)
                  have hf2 := hrow8.frozenAt (m1 * 5 + 2)
                  have hf3 := hrow8.frozenAt (m1 * 5 + 3)
                  have hf4 := hrow8.frozenAt (m1 * 5 + 4)
                  have hst0 := hrow8.stored (m1 * 5) (.int .i64 s0)
                  have hst1 := hst0.1.stored (m1 * 5 + 1) (.int .i64 s1)
                  have hst2 := hst1.1.stored (m1 * 5 + 2) (.int .i64 s2)
                  have hst3 := hst2.1.stored (m1 * 5 + 3) (.int .i64 s3)
                  have hst4 := hst3.1.stored (m1 * 5 + 4) (.int .i64 s4)
                  have hg5 := (((hst0.2.trans_ hst1.2).trans_ hst2.2).trans_ hst3.2).trans_ hst4.2
                  have hst5 := hst4.1
                  rw [stepCells_set L m1 (s0, s1, s2, s3, s4)] at hst5
                  have HST := Lib.hid hst5
                  have HG5 := Lib.hid hg5
                  have hm1n : (m1 : Int) < (N : Int) := by have := HM1.out; omega
                  clear hst0 hst1 hst2 hst3 hst4 hst5 hg5 g0 g1 g2 g3 g4 hrow8
                  go_upto_region 15 with fail
                  clear t0 t1 t2 t3 t4 hd0 hd1 hd2 hd3 hd4 hf0 hf1 hf2 hf3 hf4
                  generalize (((((w8.setCell ⟨g, m1 * 5, none⟩ (.int .i64 s0)).setCell ⟨g, m1 * 5 + 1, none⟩ (.int .i64 s1)).setCell ⟨g, m1 * 5 + 2, none⟩ (.int .i64 s2)).setCell ⟨g, m1 * 5 + 3, none⟩ (.int .i64 s3)).setCell ⟨g, m1 * 5 + 4, none⟩ (.int .i64 s4)) = w9 at *
                  have hgs : g < w8.heap.size := HI8.out.row.2.1
                  have HW9 : Within g (g + 1) w8 w9 := ⟨HG5.out.os, HG5.out.tape, HG5.out.output, HG5.out.size, fun j hj hd => HG5.out.block j hj (by simp; omega)⟩
                  have hs9 := HG5.out.size
                  have hgw := HGW.out
                  have hgne := HI8.out.row.1
                  have X9 := Lib.hid (HI8.out.x.within HW9 (by omega))
                  have G9 := Lib.hid (HC6.out.within HW9 (by omega))
                  have L9 := Lib.hid (HL8.out.within HW9 (by omega))
                  have B9 := Lib.hid (within_on HI8.out.bel HW9 HI8.out.bel.size (.inl (HI8.out.row.2.2.lt g rfl).1))
                  have R9 := Lib.hid (show SRow w w9 w.heap.size g N (L.set m1 (s0, s1, s2, s3, s4)) from ⟨hgne, Nat.lt_of_lt_of_le hgs hs9, by rw [List.length_set]; exact HST.out⟩)
                  have hdr : Below w9.heap.size w9 w9.drew := (Below.refl _ _).drew
                  have G10 := Lib.hid (G9.out.kept hdr)
                  have hne : w6.heap.size + 1 ≠ w.heap.size := by have := HI6.out.x.lt; omega
                  obtain ⟨hx2, hw2⟩ := ret2 X9.out (.int .i64 p) (.slice A2 m2.length c2)
                  have hd2 : Below ((w9.setCell ⟨w.heap.size, 0, none⟩ (.int .i64 p)).setCell ⟨w.heap.size, 1, none⟩ (.slice A2 m2.length c2)).heap.size ((w9.setCell ⟨w.heap.size, 0, none⟩ (.int .i64 p)).setCell ⟨w.heap.size, 1, none⟩ (.slice A2 m2.length c2)) ((w9.setCell ⟨w.heap.size, 0, none⟩ (.int .i64 p)).setCell ⟨w.heap.size, 1, none⟩ (.slice A2 m2.length c2)).drew := (Below.refl _ _).drew
                  have G11 := Lib.hid ((G9.out.within hw2 (by omega)).kept hd2)
                  have HJ11 := Lib.hid ((show FndI w ((w9.setCell ⟨w.heap.size, 0, none⟩ (.int .i64 p)).setCell ⟨w.heap.size, 1, none⟩ (.slice A2 m2.length c2)) w.heap.size p A2 c2 m2 g N (L.set m1 (s0, s1, s2, s3, s4)) from
                    ⟨hx2, (L9.out.within hw2 (by have := HI.out.x.lt; omega)).at, R9.out.set hw2, within_on B9.out hw2 B9.out.size (.inl (Nat.le_refl _)), Nat.le_refl _⟩).below hd2)
                  have hm1n' : (m1 : Int) ≤ (N : Int) := by omega
                  clear HW9 hdr hx2 hw2 hd2
                  obtain ⟨q0, q1, q2, q3⟩ := X9.out.cells
                  go_wp2_with fail
                  refine wp_region_held_drew (S := (fun W' : World => W'.cell? ⟨w6.heap.size + 1, 0, none⟩ = some (.int .i64 p) ∧ W'.cell? ⟨w6.heap.size + 1, 1, none⟩ = some (.slice A2 m2.length c2))) (by kernel_rfl) ?_ (fun hHeld => ?_)
                  · exact ⟨G10.out.cells.1, G10.out.cells.2.1⟩
                  refine wpAnyH_take (i := 0) (v := .slice (some ⟨g, 0, none⟩) N N) rfl (by kernel_rfl) (by kernel_rfl) (by kernel_rfl) (fun _ _ _ h => h) (Or.inl ⟨by kernel_rfl, fun w hSw => by (try dsimp only at hSw); go_simp; all_goals first | omega | exact IntWalk.i64_in _ (by omega)⟩) (by assumption) ?_
                  try simp only [Act.put, List.setIfInBounds_toArray]
                  refine wpAnyH_take (i := 1) (v := .int .i64 (m1 : Int)) rfl (by kernel_rfl) (by kernel_rfl) (by kernel_rfl) (fun _ _ _ h => h) (Or.inl ⟨by kernel_rfl, fun w hSw => by (try dsimp only at hSw); go_simp; all_goals first | omega | exact IntWalk.i64_in _ (by omega)⟩) (by assumption) ?_
                  try simp only [Act.put]
                  refine wpAnyH_take (i := 2) (v := .int .i64 (m1 : Int)) rfl (by kernel_rfl) (by kernel_rfl) (by kernel_rfl) (fun _ _ _ h => h) (Or.inl ⟨by kernel_rfl, fun w hSw => by (try dsimp only at hSw); go_simp; all_goals first | omega | exact IntWalk.i64_in _ (by omega)⟩) (by assumption) ?_
                  try simp only [Act.put]
                  refine wpAnyH_take (i := 3) (v := .slice (some ⟨g, 0, none⟩) m1 m1) rfl (by kernel_rfl) (by kernel_rfl) (by kernel_rfl) (fun _ _ _ h => h) (Or.inl ⟨by kernel_rfl, fun w hSw => by (try dsimp only at hSw); go_simp; all_goals first | omega | exact IntWalk.i64_in _ (by omega)⟩) (by assumption) ?_
                  try simp only [Act.put]
                  refine wpAnyH_take (i := 4) (v := .agg #[.int .i64 p, .slice A2 m2.length c2]) rfl (by kernel_rfl) (by kernel_rfl) (by kernel_rfl) (fun _ _ _ h => h) (Or.inl ⟨by kernel_rfl, fun w hSw => by (try dsimp only at hSw); go_simp; all_goals first | omega | exact IntWalk.i64_in _ (by omega)⟩) (by assumption) ?_
                  try simp only [Act.put]
                  refine wpAnyH_take (i := 5) (v := .slice (some ⟨g, 0, none⟩) m1 m1) rfl (by kernel_rfl) (by kernel_rfl) (by kernel_rfl) (fun _ _ _ h => h) (Or.inl ⟨by kernel_rfl, fun w hSw => by (try dsimp only at hSw); go_simp; all_goals first | omega | exact IntWalk.i64_in _ (by omega)⟩) (by assumption) ?_
                  try simp only [Act.put]
                  refine wpAnyH_ready (rs := [6]) (by kernel_rfl) (by simp) (AllReadyH.cons rfl (fun K hK => ?_) AllReadyH.nil)
                  try simp only [Act.put, List.getElem_toArray, List.getElem_cons_zero, List.getElem_cons_succ, List.setIfInBounds_toArray, List.set_cons_zero, List.set_cons_succ]
                  go_simp
                  refine hK.out _ _ ⟨G11.out.cells.1, G11.out.cells.2.1⟩ (fun hHeld => ?_)
                  clear hK K q0 q1 q2 q3
                  try simp only [Act.put, List.setIfInBounds_toArray, List.set_cons_zero, List.set_cons_succ]
                  refine wpAnyH_done (by kernel_rfl) ?_ _
                  try simp only [Act.put, List.getElem_toArray, List.getElem_cons_zero, List.getElem_cons_succ, List.setIfInBounds_toArray, List.set_cons_zero, List.set_cons_succ]
                  generalize ((w9.setCell ⟨w.heap.size, 0, none⟩ (.int .i64 p)).setCell ⟨w.heap.size, 1, none⟩ (.slice A2 m2.length c2)).drew = w11 at *
                  go_wp2_with fail
                  go_step3
                  have hjj := HJ.out
                  refine (show 0 = 0 ∧ J _ _ from ⟨rfl, ?_⟩)
                  rw [hjj]
                  exact ⟨m1, g, (s0, s1, s2, s3, s4) :: [], A2, c2, m2, L.set m1 (s0, s1, s2, s3, s4), ⟨_, _, _, _, _, _, _, _, _, _, _, _, _, _, _, _, _, _, _, _, _, _, _, _, _, _, _, _, _, _, _, _, _, _, _, _, _, _, _, _, _, _, _, _, _, _, _, _, _, _, _, _, _, _, _, _, _, _, _, _, _, _, _, _, _, _, _, _, rfl⟩, HH2.out, HG2.out, by have := HM1.out; omega, by rw [HL.out, ← HM1.out]; exact set_last m1 [] _, by rw [List.length_set]; exact HLN.out, HF2.out, HJ11.out⟩
                  
            · have hvP : v = P := by have := HP.out; omega
              rw [hvP] at HFS
              go_wp2_with fail
              go_roundw
              case rel => exact ⟨rfl, 2, .inr (.inr rfl), by first | rfl | go_num, fun _ => h2 (by omega), fun _ => HFS.out, HI.out⟩
              case measure => simp [intOf]
        obtain rfl : k = 2 := by omega
        by_cases hn1 : N = 1
        · have HE0 : V = (0, 0, (l.getD 0 (0, 0)).1, (l.getD 0 (0, 0)).2, 0) :: [] := by
            have h1 := HH.out
            have h2 := HF.out
            rw [hn1] at h1 h2
            rw [HP.out] at h2
            exact h2.symm.trans (findN_end [] h1).2
          obtain ⟨B, off, rfl, hB1, hB2, hB3⟩ := bars_off HI.out.x HI.out.bars hl0
          obtain ⟨c0, c1⟩ := hB3 0 hl0
          obtain ⟨y0, hy0⟩ : ∃ y, (l.getD 0 (0, 0)).1 = y := ⟨_, rfl⟩
          obtain ⟨y1, hy1⟩ : ∃ y, (l.getD 0 (0, 0)).2 = y := ⟨_, rfl⟩
          rw [hy0] at c0 HE0
          rw [hy1] at c1 HE0
          rw [Nat.zero_mul, Nat.add_zero] at c0 c1
          have hm10 : m1 = 0 := by have := HM1.out; omega
          have HE := Lib.hid (show V = L.set m1 (0, 0, y0, y1, 0) by
            rw [HE0, HL.out, ← HM1.out, set_last m1 [] _, hm10]
            rfl)
          have HVN := Lib.hid (show V.length = N by rw [HE.out, List.length_set]; exact HLN.out)
          have hL1 : m1 < L.length := by have := HM1.out; have := HLN.out; have := HLE.out; omega
          clear hB3 hy0 hy1 HE0 hm10 hn1
          have hrow8 := HI.out.row.2.2
          obtain ⟨g0, g1, g2, g3, g4⟩ := stepCells_get L m1 hL1
          have hd0 := (hrow8.cellAt (m1 * 5) (by omega)).trans g0
          have hd1 := (hrow8.cellAt (m1 * 5 + 1) (by omega)).trans g1
          have hd2 := (hrow8.cellAt (m1 * 5 + 2) (by omega)).trans g2
          have hd3 := (hrow8.cellAt (m1 * 5 + 3) (by omega)).trans g3
          have hd4 := (hrow8.cellAt (m1 * 5 + 4) (by omega)).trans g4
          have hf0 := hrow8.frozenAt (m1 * 5)
          have hf1 := hrow8.frozenAt (m1 * 5 + 1)
          have hf2 := hrow8.frozenAt (m1 * 5 + 2)
          have hf3 := hrow8.frozenAt (m1 * 5 + 3)
          have hf4 := hrow8.frozenAt (m1 * 5 + 4)
          have hst0 := hrow8.stored (m1 * 5) (.int .i64 0)
          have hst1 := hst0.1.stored (m1 * 5 + 1) (.int .i64 0)
          have hst2 := hst1.1.stored (m1 * 5 + 2) (.int .i64 y0)
          have hst3 := hst2.1.stored (m1 * 5 + 3) (.int .i64 y1)
          have hst4 := hst3.1.stored (m1 * 5 + 4) (.int .i64 0)
          have hg5 := (((hst0.2.trans_ hst1.2).trans_ hst2.2).trans_ hst3.2).trans_ hst4.2
          have hst5 := hst4.1
          rw [stepCells_set L m1 (0, 0, y0, y1, 0)] at hst5
          have hgs : g < wr.heap.size := HI.out.row.2.1
          have hgne := HI.out.row.1
          have HW9 : Within g (g + 1) wr _ := ⟨hg5.os, hg5.tape, hg5.output, hg5.size, fun j hj hd => hg5.block j hj (by simp; omega)⟩
          have hgl := (HI.out.row.2.2.lt g rfl).1
          have X11 := Lib.hid ((HI.out.x.within HW9 (by omega)).kept (Below.refl _ _).drew)
          have HOW := Lib.hid (own_below hst5 (Below.refl _ _).drew)
          have HBW := Lib.hid (below_on (within_on HI.out.bel HW9 HI.out.bel.size (.inl hgl)) (Below.refl _ _).drew (Nat.le_trans HI.out.bel.size hg5.size))
          have HGL := Lib.hid (And.intro hgl (Nat.lt_of_lt_of_le hgs hg5.size))
          have KX := Lib.hid (HI.out.x.kept (Below.refl wr.heap.size wr).drew)
          have hm1n : (m1 : Int) < (N : Int) := by have := HM1.out; omega
          have hl0' : (0 : Int) < (l.length : Int) := by omega
          clear hst0 hst1 hst2 hst3 hst4 hst5 hg5 g0 g1 g2 g3 g4 hrow8 HW9
          obtain ⟨x0, x1, f0, f1⟩ := HI.out.x.cells
          go_wp2_with fail
          refine wp_region_held_drew (S := (fun W' : World => W'.cell? ⟨w.heap.size, 0, none⟩ = some (.int .i64 p) ∧ W'.cell? ⟨w.heap.size, 1, none⟩ = some (.slice (some ⟨B, off, none⟩) l.length cap))) (by kernel_rfl) ?_ (fun hHeld => ?_)
          · exact ⟨KX.out.cells.1, KX.out.cells.2.1⟩
          refine wpAnyH_take (i := 0) (v := .slice (some ⟨g, 0, none⟩) N N) rfl (by kernel_rfl) (by kernel_rfl) (by kernel_rfl) (fun _ _ _ h => h) (Or.inl ⟨by kernel_rfl, fun w hSw => by (try dsimp only at hSw); go_simp; all_goals first | omega | exact IntWalk.i64_in _ (by omega)⟩) (by assumption) ?_
          try simp only [Act.put, List.setIfInBounds_toArray]
          refine wpAnyH_take (i := 1) (v := .int .i64 (m1 : Int)) rfl (by kernel_rfl) (by kernel_rfl) (by kernel_rfl) (fun _ _ _ h => h) (Or.inl ⟨by kernel_rfl, fun w hSw => by (try dsimp only at hSw); go_simp; all_goals first | omega | exact IntWalk.i64_in _ (by omega)⟩) (by assumption) ?_
          try simp only [Act.put]
          refine wpAnyH_take (i := 2) (v := .pointer (some ⟨w.heap.size, 1, none⟩)) rfl (by kernel_rfl) (by kernel_rfl) (by kernel_rfl) (fun _ _ _ h => h) (Or.inl ⟨by kernel_rfl, fun w hSw => by (try dsimp only at hSw); go_simp; all_goals first | omega | exact IntWalk.i64_in _ (by omega)⟩) (by assumption) ?_
          try simp only [Act.put]
          refine wpAnyH_take (i := 3) (v := .slice (some ⟨B, off, none⟩) l.length cap) rfl (by kernel_rfl) (by kernel_rfl) (by kernel_rfl) (fun _ _ _ h => h) (Or.inl ⟨by kernel_rfl, fun w hSw => by (try dsimp only at hSw); go_simp; all_goals first | omega | exact IntWalk.i64_in _ (by omega)⟩) (by assumption) ?_
          try simp only [Act.put]
          refine wpAnyH_take (i := 4) (v := .pointer (some ⟨B, off, none⟩)) rfl (by kernel_rfl) (by kernel_rfl) (by kernel_rfl) (fun _ _ _ h => h) (Or.inl ⟨by kernel_rfl, fun w hSw => by (try dsimp only at hSw); go_simp; all_goals first | omega | exact IntWalk.i64_in _ (by omega)⟩) (by assumption) ?_
          try simp only [Act.put]
          refine wpAnyH_take (i := 5) (v := .pointer (some ⟨B, off, none⟩)) rfl (by kernel_rfl) (by kernel_rfl) (by kernel_rfl) (fun _ _ _ h => h) (Or.inl ⟨by kernel_rfl, fun w hSw => by (try dsimp only at hSw); go_simp; all_goals first | omega | exact IntWalk.i64_in _ (by omega)⟩) (by assumption) ?_
          try simp only [Act.put]
          refine wpAnyH_take (i := 7) (v := .pointer (some ⟨w.heap.size, 1, none⟩)) rfl (by kernel_rfl) (by kernel_rfl) (by kernel_rfl) (fun _ _ _ h => h) (Or.inl ⟨by kernel_rfl, fun w hSw => by (try dsimp only at hSw); go_simp; all_goals first | omega | exact IntWalk.i64_in _ (by omega)⟩) (by assumption) ?_
          try simp only [Act.put]
          refine wpAnyH_take (i := 8) (v := .slice (some ⟨B, off, none⟩) l.length cap) rfl (by kernel_rfl) (by kernel_rfl) (by kernel_rfl) (fun _ _ _ h => h) (Or.inl ⟨by kernel_rfl, fun w hSw => by (try dsimp only at hSw); go_simp; all_goals first | omega | exact IntWalk.i64_in _ (by omega)⟩) (by assumption) ?_
          try simp only [Act.put]
          refine wpAnyH_take (i := 9) (v := .pointer (some ⟨B, off, none⟩)) rfl (by kernel_rfl) (by kernel_rfl) (by kernel_rfl) (fun _ _ _ h => h) (Or.inl ⟨by kernel_rfl, fun w hSw => by (try dsimp only at hSw); go_simp; all_goals first | omega | exact IntWalk.i64_in _ (by omega)⟩) (by assumption) ?_
          try simp only [Act.put]
          refine wpAnyH_take (i := 10) (v := .pointer (some ⟨B, off + 1, none⟩)) rfl (by kernel_rfl) (by kernel_rfl) (by kernel_rfl) (fun _ _ _ h => h) (Or.inl ⟨by kernel_rfl, fun w hSw => by (try dsimp only at hSw); go_simp; all_goals first | omega | exact IntWalk.i64_in _ (by omega)⟩) (by assumption) ?_
          try simp only [Act.put]
          refine wpAnyH_ready (rs := [6, 11]) (by kernel_rfl) (by simp) (AllReadyH.cons rfl (fun K hK => ?_) (AllReadyH.cons rfl (fun K hK => ?_) AllReadyH.nil))
          · go_simp
            refine hK.out _ _ ⟨KX.out.cells.1, KX.out.cells.2.1⟩ (fun hHeld => ?_)
            clear hK K
            try simp only [Act.put, List.setIfInBounds_toArray, List.set_cons_zero, List.set_cons_succ]
            refine wpAnyH_ready (rs := [11]) (by kernel_rfl) (by simp) (AllReadyH.cons rfl (fun K hK => ?_) AllReadyH.nil)
            go_simp
            refine hK.out _ _ ⟨KX.out.cells.1, KX.out.cells.2.1⟩ (fun hHeld => ?_)
            clear hK K
            try simp only [Act.put, List.setIfInBounds_toArray, List.set_cons_zero, List.set_cons_succ]
            refine wpAnyH_take (i := 12) (v := .agg #[.int .i64 0, .int .i64 0, .int .i64 y0, .int .i64 y1, .int .i64 0]) rfl (by kernel_rfl) (by kernel_rfl) (by kernel_rfl) (fun _ _ _ h => h) (Or.inl ⟨by kernel_rfl, fun w hSw => by (try dsimp only at hSw); go_simp; all_goals first | omega | exact IntWalk.i64_in _ (by omega)⟩) (by assumption) ?_
            try simp only [Act.put, List.setIfInBounds_toArray]
            refine wpAnyH_take (i := 13) (v := .pointer (some ⟨g, m1 * 5, none⟩)) rfl (by kernel_rfl) (by kernel_rfl) (by kernel_rfl) (fun _ _ _ h => h) (Or.inl ⟨by kernel_rfl, fun w hSw => by (try dsimp only at hSw); go_simp; all_goals first | omega | exact IntWalk.i64_in _ (by omega)⟩) (by assumption) ?_
            try simp only [Act.put]
            refine wpAnyH_ready (rs := [14]) (by kernel_rfl) (by simp) (AllReadyH.cons rfl (fun K hK => ?_) AllReadyH.nil)
            try simp only [Act.put, List.getElem_toArray, List.getElem_cons_zero, List.getElem_cons_succ, List.setIfInBounds_toArray, List.set_cons_zero, List.set_cons_succ]
            go_simp
            refine hK.out _ _ ⟨X11.out.cells.1, X11.out.cells.2.1⟩ (fun hHeld => ?_)
            clear hK K
            try simp only [Act.put, List.setIfInBounds_toArray, List.set_cons_zero, List.set_cons_succ]
            refine wpAnyH_done (by kernel_rfl) ?_ _
            try simp only [Act.put, List.getElem_toArray, List.getElem_cons_zero, List.getElem_cons_succ, List.setIfInBounds_toArray, List.set_cons_zero, List.set_cons_succ]
            go_wp2_with fail
            simp only [Exit.jump]
            refine bodyPost_ret (v := .tuple #[.slice (some ⟨g, 0, none⟩) N N, .bool true]) ?_ rfl ⟨some ⟨g, 0, none⟩, N, by rw [HVN.out], ⟨Nat.le_refl _, .inr ⟨g, rfl, HGL.out.1, HGL.out.2, by have h9 := HOW.out; rw [HLN.out] at h9; rw [HVN.out, HE.out]; exact h9⟩⟩, HBW.out⟩
            simp [results, Try.results80, go_sem]
          · go_simp
            refine hK.out _ _ ⟨KX.out.cells.1, KX.out.cells.2.1⟩ (fun hHeld => ?_)
            clear hK K
            try simp only [Act.put, List.setIfInBounds_toArray, List.set_cons_zero, List.set_cons_succ]
            refine wpAnyH_ready (rs := [6]) (by kernel_rfl) (by simp) (AllReadyH.cons rfl (fun K hK => ?_) AllReadyH.nil)
            go_simp
            refine hK.out _ _ ⟨KX.out.cells.1, KX.out.cells.2.1⟩ (fun hHeld => ?_)
            clear hK K
            try simp only [Act.put, List.setIfInBounds_toArray, List.set_cons_zero, List.set_cons_succ]
            refine wpAnyH_take (i := 12) (v := .agg #[.int .i64 0, .int .i64 0, .int .i64 y0, .int .i64 y1, .int .i64 0]) rfl (by kernel_rfl) (by kernel_rfl) (by kernel_rfl) (fun _ _ _ h => h) (Or.inl ⟨by kernel_rfl, fun w hSw => by (try dsimp only at hSw); go_simp; all_goals first | omega | exact IntWalk.i64_in _ (by omega)⟩) (by assumption) ?_
            try simp only [Act.put, List.setIfInBounds_toArray]
            refine wpAnyH_take (i := 13) (v := .pointer (some ⟨g, m1 * 5, none⟩)) rfl (by kernel_rfl) (by kernel_rfl) (by kernel_rfl) (fun _ _ _ h => h) (Or.inl ⟨by kernel_rfl, fun w hSw => by (try dsimp only at hSw); go_simp; all_goals first | omega | exact IntWalk.i64_in _ (by omega)⟩) (by assumption) ?_
            try simp only [Act.put]
            refine wpAnyH_ready (rs := [14]) (by kernel_rfl) (by simp) (AllReadyH.cons rfl (fun K hK => ?_) AllReadyH.nil)
            try simp only [Act.put, List.getElem_toArray, List.getElem_cons_zero, List.getElem_cons_succ, List.setIfInBounds_toArray, List.set_cons_zero, List.set_cons_succ]
            go_simp
            refine hK.out _ _ ⟨X11.out.cells.1, X11.out.cells.2.1⟩ (fun hHeld => ?_)
            clear hK K
            try simp only [Act.put, List.setIfInBounds_toArray, List.set_cons_zero, List.set_cons_succ]
            refine wpAnyH_done (by kernel_rfl) ?_ _
            try simp only [Act.put, List.getElem_toArray, List.getElem_cons_zero, List.getElem_cons_succ, List.setIfInBounds_toArray, List.set_cons_zero, List.set_cons_succ]
            go_wp2_with fail
            simp only [Exit.jump]
            refine bodyPost_ret (v := .tuple #[.slice (some ⟨g, 0, none⟩) N N, .bool true]) ?_ rfl ⟨some ⟨g, 0, none⟩, N, by rw [HVN.out], ⟨Nat.le_refl _, .inr ⟨g, rfl, HGL.out.1, HGL.out.2, by have h9 := HOW.out; rw [HLN.out] at h9; rw [HVN.out, HE.out]; exact h9⟩⟩, HBW.out⟩
            simp [results, Try.results80, go_sem]
        · exfalso
          obtain ⟨y, hu, _⟩ := findN_round (P := P) (n := m1) [] (by have := HG.out; rw [HP.out] at this; exact this) (by have := HH.out; rw [← HM1.out] at this; exact this) (by have := HM1.out; omega)
          rw [← HP.out] at hu
          have hpt : p.toNat = P := by have := HP.out; omega
          exact undo_end hu (by rw [hpt]; exact h2 (by omega)) (by rw [hpt]; exact h3 rfl)
    · intro a' wr hj
      rw [HJ.out] at hj
      obtain ⟨n, g, acc, D, c, m, L, ⟨u6, u7, u8, u9, u10, u11, u12, u13, u14, u15, u16, u17, u18, u19, u20, u21, u22, u23, u24, u25, u26, u27, u28, u29, u30, u31, u32, u33, u34, u35, u36, u37, u38, u39, u40, u41, u42, u43, u44, u45, u46, u47, u48, u49, u50, u51, u52, u53, u54, u55, u56, u57, u58, u59, u60, u61, u62, u63, u64, u65, u66, u67, u68, u69, u70, u71, u72, u73, rfl⟩, hh, hg, hn1, hL, hLl, hf, hi⟩ := hj
      have HI := Lib.hid hi
      have HL := Lib.hid hL
      have HH := Lib.hid hh
      have HG := Lib.hid hg
      have HF := Lib.hid hf
      have HLN := Lib.hid hLl
      have hnN : 1 ≤ n ∧ n ≤ N := by rw [hL] at hLl; simp at hLl; omega
      have HLE := Lib.hid hnN.2
      clear hi hL hh hg hf hLl HMN HX1 HL1 HB1 HH0 HG0 HV hwp hn1
      have hh1 := HH.out.one
      obtain ⟨m1, hm1⟩ : ∃ m1, m1 + 1 = n := ⟨n - 1, by omega⟩
      have hwn : IntKind.i64.wrap ((n : Int) - 1) = (m1 : Int) := by rw [IntKind.wrap_i64]; omega
      have HM1 := Lib.hid hm1
      have hl0 : 0 < m.length := by omega
      clear hm1
      go_wp2_with fail
      go_loopw [5, 31] (fun v5 i wr => v5 = .slice (some ⟨g, 0, none⟩) n n ∧ ∃ k : Int, (k = 0 ∨ k = 1 ∨ k = 2) ∧ i = .int .i64 k ∧ (k ≠ 0 → fstN (fun v => undo2 (v : Int) m) P = none) ∧ (k = 2 → fstN (fun v => undo3 p (v : Int) m) P = none) ∧ FndI w wr w.heap.size p D c m g N L) (fun _ i _ => 2 - (intOf i).toNat)
      case atStart => exact ⟨rfl, 0, .inl rfl, rfl, fun h => absurd rfl h, fun h => by omega, HI.out⟩
      case round =>
        obtain ⟨rfl, k, hk, rfl, h2, h3, hi⟩ := hrel
        have HI := Lib.hid hi
        clear hi
        by_cases hk0 : k = 0
        · subst hk0
          obtain ⟨x0, x1, _, _⟩ := HI.out.x.cells
          go_wp2_with fail
          clear x0 x1
          go_loopw [5, 36] (fun v5 i wr => v5 = .slice (some ⟨g, 0, none⟩) n n ∧ ∃ v : Nat, (v : Int) ≤ p ∧ i = .int .i64 v ∧ fstN (fun v => undo2 (v : Int) m) v = none ∧ FndI w wr w.heap.size p D c m g N L) (fun _ i _ => (p - intOf i).toNat)
          case atStart => exact ⟨rfl, 0, by have := HPR.out; omega, rfl, rfl, HI.out⟩
          case round =>
            obtain ⟨rfl, v, hv, rfl, hfs, hi⟩ := hrel
            have HI := Lib.hid hi
            have HFS := Lib.hid hfs
            clear hi hfs
            have hv8 : v ≤ 8 := by have := HP.out; omega
            by_cases hlt : (v : Int) < p
            · obtain ⟨x0, x1, f0, f1⟩ := HI.out.x.cells
              go_wp2_with fail
              clear x0 x1 f0 f1
              cases hr : undo2 (v : Int) m with
              | none =>
                refine (takeBack1_c p (v : Int) m D c wr HI.out.bars HG.out ⟨by omega, hlt⟩ hl0 none hr).mono ?_
                rintro e w6 ⟨rfl, hb⟩
                have hb7 := new_below w6 (.cells #[.int .i64 0, .int .i64 0, .int .i64 0, .int .i64 0, .int .i64 0] 155)
                have hb8 := new_below (w6.alloc (.cells #[.int .i64 0, .int .i64 0, .int .i64 0, .int .i64 0, .int .i64 0] 155)) (.cells #[.int .i64 p, .slice D m.length c] 26)
                have HI8 := Lib.hid (((HI.out.below hb).below hb7).below hb8)
                clear hb hb7 hb8
                go_wp2_with fail
                generalize ((w6.alloc (.cells #[.int .i64 0, .int .i64 0, .int .i64 0, .int .i64 0, .int .i64 0] 155)).alloc (.cells #[.int .i64 p, .slice D m.length c] 26)) = w8 at *
                go_roundw
                case rel => exact ⟨rfl, v + 1, by omega, by go_num, fstN_miss HFS.out hr, HI8.out⟩
                case measure => simp [intOf]; omega
              | some x =>
                by_cases hn1 : n = 1
                · exfalso
                  have h9 := undo2_none (v := (v : Int)) (m := m) (by omega)
                  rw [h9] at hr
                  cases hr
                · obtain ⟨y, hu, hh2, hg2, hf2⟩ := findN_round (P := P) (n := m1) acc (by have := HG.out; rw [HP.out] at this; exact this) (by have := HH.out; rw [← HM1.out] at this; exact this) (by have := HM1.out; omega)
                  rw [← HP.out] at hu hg2 hf2
                  have hyx := find_first2 hu HFS.out hlt hr
                  subst hyx
                  refine (takeBack1_c p (v : Int) m D c wr HI.out.bars HG.out ⟨by omega, hlt⟩ hl0 (some y) hr).mono ?_
                  obtain ⟨⟨s0, s1, s2, s3, s4⟩, m2⟩ := y
                  simp only at hh2 hg2 hf2
                  rintro e w6 ⟨A2, c2, rfl, hb2, hb⟩
                  simp only
                  have hone2 := hh2.one
                  have HH2 := Lib.hid hh2
                  have HG2 := Lib.hid hg2
                  have HF2 := Lib.hid (show findN p m1 m2 ((s0, s1, s2, s3, s4) :: acc) = V from hf2.symm.trans (by rw [HM1.out]; exact HF.out))
                  have HI6 := Lib.hid (HI.out.below hb)
                  obtain ⟨hi2, hbi⟩ := hb2
                  have HL6 := Lib.hid hbi
                  have HGW := Lib.hid HI.out.row.2.1
                  have hwz := hb.size
                  clear hb hbi hu hh2 hg2 hf2 hr
                  have hb7 := new_below w6 (.cells #[.int .i64 s0, .int .i64 s1, .int .i64 s2, .int .i64 s3, .int .i64 s4] 155)
                  have hb8 := new_below (w6.alloc (.cells #[.int .i64 s0, .int .i64 s1, .int .i64 s2, .int .i64 s3, .int .i64 s4] 155)) (.cells #[.int .i64 p, .slice A2 m2.length c2] 26)
                  have hs7 : (w6.alloc (.cells #[.int .i64 s0, .int .i64 s1, .int .i64 s2, .int .i64 s3, .int .i64 s4] 155)).heap.size = w6.heap.size + 1 := by simp
                  have hs8 : ((w6.alloc (.cells #[.int .i64 s0, .int .i64 s1, .int .i64 s2, .int .i64 s3, .int .i64 s4] 155)).alloc (.cells #[.int .i64 p, .slice A2 m2.length c2] 26)).heap.size = w6.heap.size + 2 := by simp
                  have HC5 := Lib.hid ((cel5_new w6 (.int .i64 s0) (.int .i64 s1) (.int .i64 s2) (.int .i64 s3) (.int .i64 s4) 155).kept hb8)
                  have hc6 := cel2_new (w6.alloc (.cells #[.int .i64 s0, .int .i64 s1, .int .i64 s2, .int .i64 s3, .int .i64 s4] 155)) (.int .i64 p) (.slice A2 m2.length c2) 26
                  rw [hs7] at hc6
                  have HC6 := Lib.hid hc6
                  have HI8 := Lib.hid ((HI6.out.below hb7).below hb8)
                  have HL8 := Lib.hid ((HL6.out.within (within_of hb7) (.inr (Nat.zero_le _))).within (within_of hb8) (.inr (Nat.zero_le _)))
                  have HS8 := Lib.hid hs8
                  clear hb7 hb8 hs7 hs8 hc6
                  go_upto_region 13 with fail
                  generalize ((w6.alloc (.cells #[.int .i64 s0, .int .i64 s1, .int .i64 s2, .int .i64 s3, .int .i64 s4] 155)).alloc (.cells #[.int .i64 p, .slice A2 m2.length c2] 26)) = w8 at *
                  have hL1 : m1 < L.length := by have := HM1.out; have := HLN.out; have := HLE.out; omega
                  obtain ⟨t0, t1, t2, t3, t4⟩ := HC5.out.cells
                  have hrow8 := HI8.out.row.2.2
                  obtain ⟨g0, g1, g2, g3, g4⟩ := stepCells_get L m1 hL1
                  have hd0 := (hrow8.cellAt (m1 * 5) (by omega)).trans g0
                  have hd1 := (hrow8.cellAt (m1 * 5 + 1) (by omega)).trans g1
                  have hd2 := (hrow8.cellAt (m1 * 5 + 2) (by omega)).trans g2
                  have hd3 := (hrow8.cellAt (m1 * 5 + 3) (by omega)).trans g3
                  have hd4 := (hrow8.cellAt (m1 * 5 + 4) (by omega)).trans g4
                  have hf0 := hrow8.frozenAt (m1 * 5)
                  have hf1 := hrow8.frozenAt (m1 * 5 + 1)
                  have hf2 := hrow8.frozenAt (m1 * 5 + 2)
                  have hf3 := hrow8.frozenAt (m1 * 5 + 3)
                  have hf4 := hrow8.frozenAt (m1 * 5 + 4)
                  have hst0 := hrow8.stored (m1 * 5) (.int .i64 s0)
                  have hst1 := hst0.1.stored (m1 * 5 + 1) (.int .i64 s1)
                  have hst2 := hst1.1.stored (m1 * 5 + 2) (.int .i64 s2)
                  have hst3 := hst2.1.stored (m1 * 5 + 3) (.int .i64 s3)
                  have hst4 := hst3.1.stored (m1 * 5 + 4) (.int .i64 s4)
                  have hg5 := (((hst0.2.trans_ hst1.2).trans_ hst2.2).trans_ hst3.2).trans_ hst4.2
                  have hst5 := hst4.1
                  rw [stepCells_set L m1 (s0, s1, s2, s3, s4)] at hst5
                  have HST := Lib.hid hst5
                  have HG5 := Lib.hid hg5
                  have hm1n : (m1 : Int) < (n : Int) := by have := HM1.out; omega
                  clear hst0 hst1 hst2 hst3 hst4 hst5 hg5 g0 g1 g2 g3 g4 hrow8
                  go_upto_region 15 with fail
                  clear t0 t1 t2 t3 t4 hd0 hd1 hd2 hd3 hd4 hf0 hf1 hf2 hf3 hf4
                  generalize (((((w8.setCell ⟨g, m1 * 5, none⟩ (.int .i64 s0)).setCell ⟨g, m1 * 5 + 1, none⟩ (.int .i64 s1)).setCell ⟨g, m1 * 5 + 2, none⟩ (.int .i64 s2)).setCell ⟨g, m1 * 5 + 3, none⟩ (.int .i64 s3)).setCell ⟨g, m1 * 5 + 4, none⟩ (.int .i64 s4)) = w9 at *
                  have hgs : g < w8.heap.size := HI8.out.row.2.1
                  have HW9 : Within g (g + 1) w8 w9 := ⟨HG5.out.os, HG5.out.tape, HG5.out.output, HG5.out.size, fun j hj hd => HG5.out.block j hj (by simp; omega)⟩
                  have hs9 := HG5.out.size
                  have hgw := HGW.out
                  have hgne := HI8.out.row.1
                  have X9 := Lib.hid (HI8.out.x.within HW9 (by omega))
                  have G9 := Lib.hid (HC6.out.within HW9 (by omega))
                  have L9 := Lib.hid (HL8.out.within HW9 (by omega))
                  have B9 := Lib.hid (within_on HI8.out.bel HW9 HI8.out.bel.size (.inl (HI8.out.row.2.2.lt g rfl).1))
                  have R9 := Lib.hid (show SRow w w9 w.heap.size g N (L.set m1 (s0, s1, s2, s3, s4)) from ⟨hgne, Nat.lt_of_lt_of_le hgs hs9, by rw [List.length_set]; exact HST.out⟩)
                  have hdr : Below w9.heap.size w9 w9.drew := (Below.refl _ _).drew
                  have G10 := Lib.hid (G9.out.kept hdr)
                  have hne : w6.heap.size + 1 ≠ w.heap.size := by have := HI6.out.x.lt; omega
                  obtain ⟨hx2, hw2⟩ := ret2 X9.out (.int .i64 p) (.slice A2 m2.length c2)
                  have hd2 : Below ((w9.setCell ⟨w.heap.size, 0, none⟩ (.int .i64 p)).setCell ⟨w.heap.size, 1, none⟩ (.slice A2 m2.length c2)).heap.size ((w9.setCell ⟨w.heap.size, 0, none⟩ (.int .i64 p)).setCell ⟨w.heap.size, 1, none⟩ (.slice A2 m2.length c2)) ((w9.setCell ⟨w.heap.size, 0, none⟩ (.int .i64 p)).setCell ⟨w.heap.size, 1, none⟩ (.slice A2 m2.length c2)).drew := (Below.refl _ _).drew
                  have G11 := Lib.hid ((G9.out.within hw2 (by omega)).kept hd2)
                  have HJ11 := Lib.hid ((show FndI w ((w9.setCell ⟨w.heap.size, 0, none⟩ (.int .i64 p)).setCell ⟨w.heap.size, 1, none⟩ (.slice A2 m2.length c2)) w.heap.size p A2 c2 m2 g N (L.set m1 (s0, s1, s2, s3, s4)) from
                    ⟨hx2, (L9.out.within hw2 (by have := HI.out.x.lt; omega)).at, R9.out.set hw2, within_on B9.out hw2 B9.out.size (.inl (Nat.le_refl _)), Nat.le_refl _⟩).below hd2)
                  have hm1n' : (m1 : Int) ≤ (n : Int) := by omega
                  clear HW9 hdr hx2 hw2 hd2
                  obtain ⟨q0, q1, q2, q3⟩ := X9.out.cells
                  go_wp2_with fail
                  refine wp_region_held_drew (S := (fun W' : World => W'.cell? ⟨w6.heap.size + 1, 0, none⟩ = some (.int .i64 p) ∧ W'.cell? ⟨w6.heap.size + 1, 1, none⟩ = some (.slice A2 m2.length c2))) (by kernel_rfl) ?_ (fun hHeld => ?_)
                  · exact ⟨G10.out.cells.1, G10.out.cells.2.1⟩
                  refine wpAnyH_take (i := 0) (v := .slice (some ⟨g, 0, none⟩) n n) rfl (by kernel_rfl) (by kernel_rfl) (by kernel_rfl) (fun _ _ _ h => h) (Or.inl ⟨by kernel_rfl, fun w hSw => by (try dsimp only at hSw); go_simp; all_goals first | omega | exact IntWalk.i64_in _ (by omega)⟩) (by assumption) ?_
                  try simp only [Act.put, List.setIfInBounds_toArray]
                  refine wpAnyH_take (i := 1) (v := .int .i64 (m1 : Int)) rfl (by kernel_rfl) (by kernel_rfl) (by kernel_rfl) (fun _ _ _ h => h) (Or.inl ⟨by kernel_rfl, fun w hSw => by (try dsimp only at hSw); go_simp; all_goals first | omega | exact IntWalk.i64_in _ (by omega)⟩) (by assumption) ?_
                  try simp only [Act.put]
                  refine wpAnyH_take (i := 2) (v := .int .i64 (m1 : Int)) rfl (by kernel_rfl) (by kernel_rfl) (by kernel_rfl) (fun _ _ _ h => h) (Or.inl ⟨by kernel_rfl, fun w hSw => by (try dsimp only at hSw); go_simp; all_goals first | omega | exact IntWalk.i64_in _ (by omega)⟩) (by assumption) ?_
                  try simp only [Act.put]
                  refine wpAnyH_take (i := 3) (v := .slice (some ⟨g, 0, none⟩) m1 m1) rfl (by kernel_rfl) (by kernel_rfl) (by kernel_rfl) (fun _ _ _ h => h) (Or.inl ⟨by kernel_rfl, fun w hSw => by (try dsimp only at hSw); go_simp; all_goals first | omega | exact IntWalk.i64_in _ (by omega)⟩) (by assumption) ?_
                  try simp only [Act.put]
                  refine wpAnyH_take (i := 4) (v := .agg #[.int .i64 p, .slice A2 m2.length c2]) rfl (by kernel_rfl) (by kernel_rfl) (by kernel_rfl) (fun _ _ _ h => h) (Or.inl ⟨by kernel_rfl, fun w hSw => by (try dsimp only at hSw); go_simp; all_goals first | omega | exact IntWalk.i64_in _ (by omega)⟩) (by assumption) ?_
                  try simp only [Act.put]
                  refine wpAnyH_take (i := 5) (v := .slice (some ⟨g, 0, none⟩) m1 m1) rfl (by kernel_rfl) (by kernel_rfl) (by kernel_rfl) (fun _ _ _ h => h) (Or.inl ⟨by kernel_rfl, fun w hSw => by (try dsimp only at hSw); go_simp; all_goals first | omega | exact IntWalk.i64_in _ (by omega)⟩) (by assumption) ?_
                  try simp only [Act.put]
                  refine wpAnyH_ready (rs := [6]) (by kernel_rfl) (by simp) (AllReadyH.cons rfl (fun K hK => ?_) AllReadyH.nil)
                  try simp only [Act.put, List.getElem_toArray, List.getElem_cons_zero, List.getElem_cons_succ, List.setIfInBounds_toArray, List.set_cons_zero, List.set_cons_succ]
                  go_simp
                  refine hK.out _ _ ⟨G11.out.cells.1, G11.out.cells.2.1⟩ (fun hHeld => ?_)
                  clear hK K q0 q1 q2 q3
                  try simp only [Act.put, List.setIfInBounds_toArray, List.set_cons_zero, List.set_cons_succ]
                  refine wpAnyH_done (by kernel_rfl) ?_ _
                  try simp only [Act.put, List.getElem_toArray, List.getElem_cons_zero, List.getElem_cons_succ, List.setIfInBounds_toArray, List.set_cons_zero, List.set_cons_succ]
                  generalize ((w9.setCell ⟨w.heap.size, 0, none⟩ (.int .i64 p)).setCell ⟨w.heap.size, 1, none⟩ (.slice A2 m2.length c2)).drew = w11 at *
                  go_wp2_with fail
                  go_step3
                  have hjj := HJ.out
                  refine (show 0 = 0 ∧ J _ _ ∧ M _ _ < M _ _ from ⟨rfl, ?_, by rw [HM.out]; simp [slN]; have := HM1.out; omega⟩)
                  rw [hjj]
                  exact ⟨m1, g, (s0, s1, s2, s3, s4) :: acc, A2, c2, m2, L.set m1 (s0, s1, s2, s3, s4), ⟨_, _, _, _, _, _, _, _, _, _, _, _, _, _, _, _, _, _, _, _, _, _, _, _, _, _, _, _, _, _, _, _, _, _, _, _, _, _, _, _, _, _, _, _, _, _, _, _, _, _, _, _, _, _, _, _, _, _, _, _, _, _, _, _, _, _, _, _, rfl⟩, HH2.out, HG2.out, by have := HM1.out; omega, by rw [HL.out, ← HM1.out]; exact set_last m1 acc _, by rw [List.length_set]; exact HLN.out, HF2.out, HJ11.out⟩
                  
            · have hvP : v = P := by have := HP.out; omega
              rw [hvP] at HFS
              go_wp2_with fail
              go_roundw
              case rel => exact ⟨rfl, 1, .inr (.inl rfl), by first | rfl | go_num, fun _ => HFS.out, fun h => by omega, HI.out⟩
              case measure => simp [intOf]
        by_cases hk1 : k = 1
        · subst hk1
          obtain ⟨x0, x1, _, _⟩ := HI.out.x.cells
          go_wp2_with fail
          clear x0 x1
          go_loopw [5, 36] (fun v5 i wr => v5 = .slice (some ⟨g, 0, none⟩) n n ∧ ∃ v : Nat, (v : Int) ≤ p ∧ i = .int .i64 v ∧ fstN (fun v => undo3 p (v : Int) m) v = none ∧ FndI w wr w.heap.size p D c m g N L) (fun _ i _ => (p - intOf i).toNat)
          case atStart => exact ⟨rfl, 0, by have := HPR.out; omega, rfl, rfl, HI.out⟩
          case round =>
            obtain ⟨rfl, v, hv, rfl, hfs, hi⟩ := hrel
            have HI := Lib.hid hi
            have HFS := Lib.hid hfs
            clear hi hfs
            have hv8 : v ≤ 8 := by have := HP.out; omega
            by_cases hlt : (v : Int) < p
            · obtain ⟨x0, x1, f0, f1⟩ := HI.out.x.cells
              go_wp2_with fail
              clear x0 x1 f0 f1
              cases hr : undo3 p (v : Int) m with
              | none =>
                refine (takeBack2_c p (v : Int) m D c wr HI.out.bars HG.out ⟨by omega, hlt⟩ hl0 none (fun a b c h => by have := near_three (P := P) (v := v) (by have := HG.out; rw [HP.out] at this; exact this) HH.out (by have := HP.out; omega) h; rwa [← HP.out] at this) hr).mono ?_
                rintro e w6 ⟨rfl, hb⟩
                have hb7 := new_below w6 (.cells #[.int .i64 0, .int .i64 0, .int .i64 0, .int .i64 0, .int .i64 0] 155)
                have hb8 := new_below (w6.alloc (.cells #[.int .i64 0, .int .i64 0, .int .i64 0, .int .i64 0, .int .i64 0] 155)) (.cells #[.int .i64 p, .slice D m.length c] 26)
                have HI8 := Lib.hid (((HI.out.below hb).below hb7).below hb8)
                clear hb hb7 hb8
                go_wp2_with fail
                generalize ((w6.alloc (.cells #[.int .i64 0, .int .i64 0, .int .i64 0, .int .i64 0, .int .i64 0] 155)).alloc (.cells #[.int .i64 p, .slice D m.length c] 26)) = w8 at *
                go_roundw
                case rel => exact ⟨rfl, v + 1, by omega, by go_num, fstN_miss HFS.out hr, HI8.out⟩
                case measure => simp [intOf]; omega
              | some x =>
                by_cases hn1 : n = 1
                · exfalso
                  have h9 := undo3_none (p := p) (v := (v : Int)) (m := m) (by omega)
                  rw [h9] at hr
                  cases hr
                · obtain ⟨y, hu, hh2, hg2, hf2⟩ := findN_round (P := P) (n := m1) acc (by have := HG.out; rw [HP.out] at this; exact this) (by have := HH.out; rw [← HM1.out] at this; exact this) (by have := HM1.out; omega)
                  rw [← HP.out] at hu hg2 hf2
                  have hyx := find_first3 hu (by rw [show p.toNat = P by have := HP.out; omega]; exact h2 (by omega)) HFS.out hlt hr
                  subst hyx
                  refine (takeBack2_c p (v : Int) m D c wr HI.out.bars HG.out ⟨by omega, hlt⟩ hl0 (some y) (fun a b c h => by have := near_three (P := P) (v := v) (by have := HG.out; rw [HP.out] at this; exact this) HH.out (by have := HP.out; omega) h; rwa [← HP.out] at this) hr).mono ?_
                  obtain ⟨⟨s0, s1, s2, s3, s4⟩, m2⟩ := y
                  simp only at hh2 hg2 hf2
                  rintro e w6 ⟨A2, c2, rfl, hb2, hb⟩
                  simp only
                  have hone2 := hh2.one
                  have HH2 := Lib.hid hh2
                  have HG2 := Lib.hid hg2
                  have HF2 := Lib.hid (show findN p m1 m2 ((s0, s1, s2, s3, s4) :: acc) = V from hf2.symm.trans (by rw [HM1.out]; exact HF.out))
                  have HI6 := Lib.hid (HI.out.below hb)
                  obtain ⟨hi2, hbi⟩ := hb2
                  have HL6 := Lib.hid hbi
                  have HGW := Lib.hid HI.out.row.2.1
                  have hwz := hb.size
                  clear hb hbi hu hh2 hg2 hf2 hr
                  have hb7 := new_below w6 (.cells #[.int .i64 s0, .int .i64 s1, .int .i64 s2, .int .i64 s3, .int .i64 s4] 155)
                  have hb8 := new_below (w6.alloc (.cells #[.int .i64 s0, .int .i64 s1, .int .i64 s2, .int .i64 s3, .int .i64 s4] 155)) (.cells #[.int .i64 p, .slice A2 m2.length c2] 26)
                  have hs7 : (w6.alloc (.cells #[.int .i64 s0, .int .i64 s1, .int .i64 s2, .int .i64 s3, .int .i64 s4] 155)).heap.size = w6.heap.size + 1 := by simp
                  have hs8 : ((w6.alloc (.cells #[.int .i64 s0, .int .i64 s1, .int .i64 s2, .int .i64 s3, .int .i64 s4] 155)).alloc (.cells #[.int .i64 p, .slice A2 m2.length c2] 26)).heap.size = w6.heap.size + 2 := by simp
                  have HC5 := Lib.hid ((cel5_new w6 (.int .i64 s0) (.int .i64 s1) (.int .i64 s2) (.int .i64 s3) (.int .i64 s4) 155).kept hb8)
                  have hc6 := cel2_new (w6.alloc (.cells #[.int .i64 s0, .int .i64 s1, .int .i64 s2, .int .i64 s3, .int .i64 s4] 155)) (.int .i64 p) (.slice A2 m2.length c2) 26
                  rw [hs7] at hc6
                  have HC6 := Lib.hid hc6
                  have HI8 := Lib.hid ((HI6.out.below hb7).below hb8)
                  have HL8 := Lib.hid ((HL6.out.within (within_of hb7) (.inr (Nat.zero_le _))).within (within_of hb8) (.inr (Nat.zero_le _)))
                  have HS8 := Lib.hid hs8
                  clear hb7 hb8 hs7 hs8 hc6
                  go_upto_region 13 with fail
                  generalize ((w6.alloc (.cells #[.int .i64 s0, .int .i64 s1, .int .i64 s2, .int .i64 s3, .int .i64 s4] 155)).alloc (.cells #[.int .i64 p, .slice A2 m2.length c2] 26)) = w8 at *
                  have hL1 : m1 < L.length := by have := HM1.out; have := HLN.out; have := HLE.out; omega
                  obtain ⟨t0, t1, t2, t3, t4⟩ := HC5.out.cells
                  have hrow8 := HI8.out.row.2.2
                  obtain ⟨g0, g1, g2, g3, g4⟩ := stepCells_get L m1 hL1
                  have hd0 := (hrow8.cellAt (m1 * 5) (by omega)).trans g0
                  have hd1 := (hrow8.cellAt (m1 * 5 + 1) (by omega)).trans g1
                  have hd2 := (hrow8.cellAt (m1 * 5 + 2) (by omega)).trans g2
                  have hd3 := (hrow8.cellAt (m1 * 5 + 3) (by omega)).trans g3
                  have hd4 := (hrow8.cellAt (m1 * 5 + 4) (by omega)).trans g4
                  have hf0 := hrow8.frozenAt (m1 * 5)
                  have hf1 := hrow8.frozenAt (m1 * 5 + 1)
                  have hf2 := hrow8.frozenAt (m1 * 5 + 2)
                  have hf3 := hrow8.frozenAt (m1 * 5 + 3)
                  have hf4 := hrow8.frozenAt (m1 * 5 + 4)
                  have hst0 := hrow8.stored (m1 * 5) (.int .i64 s0)
                  have hst1 := hst0.1.stored (m1 * 5 + 1) (.int .i64 s1)
                  have hst2 := hst1.1.stored (m1 * 5 + 2) (.int .i64 s2)
                  have hst3 := hst2.1.stored (m1 * 5 + 3) (.int .i64 s3)
                  have hst4 := hst3.1.stored (m1 * 5 + 4) (.int .i64 s4)
                  have hg5 := (((hst0.2.trans_ hst1.2).trans_ hst2.2).trans_ hst3.2).trans_ hst4.2
                  have hst5 := hst4.1
                  rw [stepCells_set L m1 (s0, s1, s2, s3, s4)] at hst5
                  have HST := Lib.hid hst5
                  have HG5 := Lib.hid hg5
                  have hm1n : (m1 : Int) < (n : Int) := by have := HM1.out; omega
                  clear hst0 hst1 hst2 hst3 hst4 hst5 hg5 g0 g1 g2 g3 g4 hrow8
                  go_upto_region 15 with fail
                  clear t0 t1 t2 t3 t4 hd0 hd1 hd2 hd3 hd4 hf0 hf1 hf2 hf3 hf4
                  generalize (((((w8.setCell ⟨g, m1 * 5, none⟩ (.int .i64 s0)).setCell ⟨g, m1 * 5 + 1, none⟩ (.int .i64 s1)).setCell ⟨g, m1 * 5 + 2, none⟩ (.int .i64 s2)).setCell ⟨g, m1 * 5 + 3, none⟩ (.int .i64 s3)).setCell ⟨g, m1 * 5 + 4, none⟩ (.int .i64 s4)) = w9 at *
                  have hgs : g < w8.heap.size := HI8.out.row.2.1
                  have HW9 : Within g (g + 1) w8 w9 := ⟨HG5.out.os, HG5.out.tape, HG5.out.output, HG5.out.size, fun j hj hd => HG5.out.block j hj (by simp; omega)⟩
                  have hs9 := HG5.out.size
                  have hgw := HGW.out
                  have hgne := HI8.out.row.1
                  have X9 := Lib.hid (HI8.out.x.within HW9 (by omega))
                  have G9 := Lib.hid (HC6.out.within HW9 (by omega))
                  have L9 := Lib.hid (HL8.out.within HW9 (by omega))
                  have B9 := Lib.hid (within_on HI8.out.bel HW9 HI8.out.bel.size (.inl (HI8.out.row.2.2.lt g rfl).1))
                  have R9 := Lib.hid (show SRow w w9 w.heap.size g N (L.set m1 (s0, s1, s2, s3, s4)) from ⟨hgne, Nat.lt_of_lt_of_le hgs hs9, by rw [List.length_set]; exact HST.out⟩)
                  have hdr : Below w9.heap.size w9 w9.drew := (Below.refl _ _).drew
                  have G10 := Lib.hid (G9.out.kept hdr)
                  have hne : w6.heap.size + 1 ≠ w.heap.size := by have := HI6.out.x.lt; omega
                  obtain ⟨hx2, hw2⟩ := ret2 X9.out (.int .i64 p) (.slice A2 m2.length c2)
                  have hd2 : Below ((w9.setCell ⟨w.heap.size, 0, none⟩ (.int .i64 p)).setCell ⟨w.heap.size, 1, none⟩ (.slice A2 m2.length c2)).heap.size ((w9.setCell ⟨w.heap.size, 0, none⟩ (.int .i64 p)).setCell ⟨w.heap.size, 1, none⟩ (.slice A2 m2.length c2)) ((w9.setCell ⟨w.heap.size, 0, none⟩ (.int .i64 p)).setCell ⟨w.heap.size, 1, none⟩ (.slice A2 m2.length c2)).drew := (Below.refl _ _).drew
                  have G11 := Lib.hid ((G9.out.within hw2 (by omega)).kept hd2)
                  have HJ11 := Lib.hid ((show FndI w ((w9.setCell ⟨w.heap.size, 0, none⟩ (.int .i64 p)).setCell ⟨w.heap.size, 1, none⟩ (.slice A2 m2.length c2)) w.heap.size p A2 c2 m2 g N (L.set m1 (s0, s1, s2, s3, s4)) from
                    ⟨hx2, (L9.out.within hw2 (by have := HI.out.x.lt; omega)).at, R9.out.set hw2, within_on B9.out hw2 B9.out.size (.inl (Nat.le_refl _)), Nat.le_refl _⟩).below hd2)
                  have hm1n' : (m1 : Int) ≤ (n : Int) := by omega
                  clear HW9 hdr hx2 hw2 hd2
                  obtain ⟨q0, q1, q2, q3⟩ := X9.out.cells
                  go_wp2_with fail
                  refine wp_region_held_drew (S := (fun W' : World => W'.cell? ⟨w6.heap.size + 1, 0, none⟩ = some (.int .i64 p) ∧ W'.cell? ⟨w6.heap.size + 1, 1, none⟩ = some (.slice A2 m2.length c2))) (by kernel_rfl) ?_ (fun hHeld => ?_)
                  · exact ⟨G10.out.cells.1, G10.out.cells.2.1⟩
                  refine wpAnyH_take (i := 0) (v := .slice (some ⟨g, 0, none⟩) n n) rfl (by kernel_rfl) (by kernel_rfl) (by kernel_rfl) (fun _ _ _ h => h) (Or.inl ⟨by kernel_rfl, fun w hSw => by (try dsimp only at hSw); go_simp; all_goals first | omega | exact IntWalk.i64_in _ (by omega)⟩) (by assumption) ?_
                  try simp only [Act.put, List.setIfInBounds_toArray]
                  refine wpAnyH_take (i := 1) (v := .int .i64 (m1 : Int)) rfl (by kernel_rfl) (by kernel_rfl) (by kernel_rfl) (fun _ _ _ h => h) (Or.inl ⟨by kernel_rfl, fun w hSw => by (try dsimp only at hSw); go_simp; all_goals first | omega | exact IntWalk.i64_in _ (by omega)⟩) (by assumption) ?_
                  try simp only [Act.put]
                  refine wpAnyH_take (i := 2) (v := .int .i64 (m1 : Int)) rfl (by kernel_rfl) (by kernel_rfl) (by kernel_rfl) (fun _ _ _ h => h) (Or.inl ⟨by kernel_rfl, fun w hSw => by (try dsimp only at hSw); go_simp; all_goals first | omega | exact IntWalk.i64_in _ (by omega)⟩) (by assumption) ?_
                  try simp only [Act.put]
                  refine wpAnyH_take (i := 3) (v := .slice (some ⟨g, 0, none⟩) m1 m1) rfl (by kernel_rfl) (by kernel_rfl) (by kernel_rfl) (fun _ _ _ h => h) (Or.inl ⟨by kernel_rfl, fun w hSw => by (try dsimp only at hSw); go_simp; all_goals first | omega | exact IntWalk.i64_in _ (by omega)⟩) (by assumption) ?_
                  try simp only [Act.put]
                  refine wpAnyH_take (i := 4) (v := .agg #[.int .i64 p, .slice A2 m2.length c2]) rfl (by kernel_rfl) (by kernel_rfl) (by kernel_rfl) (fun _ _ _ h => h) (Or.inl ⟨by kernel_rfl, fun w hSw => by (try dsimp only at hSw); go_simp; all_goals first | omega | exact IntWalk.i64_in _ (by omega)⟩) (by assumption) ?_
                  try simp only [Act.put]
                  refine wpAnyH_take (i := 5) (v := .slice (some ⟨g, 0, none⟩) m1 m1) rfl (by kernel_rfl) (by kernel_rfl) (by kernel_rfl) (fun _ _ _ h => h) (Or.inl ⟨by kernel_rfl, fun w hSw => by (try dsimp only at hSw); go_simp; all_goals first | omega | exact IntWalk.i64_in _ (by omega)⟩) (by assumption) ?_
                  try simp only [Act.put]
                  refine wpAnyH_ready (rs := [6]) (by kernel_rfl) (by simp) (AllReadyH.cons rfl (fun K hK => ?_) AllReadyH.nil)
                  try simp only [Act.put, List.getElem_toArray, List.getElem_cons_zero, List.getElem_cons_succ, List.setIfInBounds_toArray, List.set_cons_zero, List.set_cons_succ]
                  go_simp
                  refine hK.out _ _ ⟨G11.out.cells.1, G11.out.cells.2.1⟩ (fun hHeld => ?_)
                  clear hK K q0 q1 q2 q3
                  try simp only [Act.put, List.setIfInBounds_toArray, List.set_cons_zero, List.set_cons_succ]
                  refine wpAnyH_done (by kernel_rfl) ?_ _
                  try simp only [Act.put, List.getElem_toArray, List.getElem_cons_zero, List.getElem_cons_succ, List.setIfInBounds_toArray, List.set_cons_zero, List.set_cons_succ]
                  generalize ((w9.setCell ⟨w.heap.size, 0, none⟩ (.int .i64 p)).setCell ⟨w.heap.size, 1, none⟩ (.slice A2 m2.length c2)).drew = w11 at *
                  go_wp2_with fail
                  go_step3
                  have hjj := HJ.out
                  refine (show 0 = 0 ∧ J _ _ ∧ M _ _ < M _ _ from ⟨rfl, ?_, by rw [HM.out]; simp [slN]; have := HM1.out; omega⟩)
                  rw [hjj]
                  exact ⟨m1, g, (s0, s1, s2, s3, s4) :: acc, A2, c2, m2, L.set m1 (s0, s1, s2, s3, s4), ⟨_, _, _, _, _, _, _, _, _, _, _, _, _, _, _, _, _, _, _, _, _, _, _, _, _, _, _, _, _, _, _, _, _, _, _, _, _, _, _, _, _, _, _, _, _, _, _, _, _, _, _, _, _, _, _, _, _, _, _, _, _, _, _, _, _, _, _, _, rfl⟩, HH2.out, HG2.out, by have := HM1.out; omega, by rw [HL.out, ← HM1.out]; exact set_last m1 acc _, by rw [List.length_set]; exact HLN.out, HF2.out, HJ11.out⟩
                  
            · have hvP : v = P := by have := HP.out; omega
              rw [hvP] at HFS
              go_wp2_with fail
              go_roundw
              case rel => exact ⟨rfl, 2, .inr (.inr rfl), by first | rfl | go_num, fun _ => h2 (by omega), fun _ => HFS.out, HI.out⟩
              case measure => simp [intOf]
        obtain rfl : k = 2 := by omega
        by_cases hn1 : n = 1
        · have HE0 : V = (0, 0, (m.getD 0 (0, 0)).1, (m.getD 0 (0, 0)).2, 0) :: acc := by
            have h1 := HH.out
            have h2 := HF.out
            rw [hn1] at h1 h2
            rw [HP.out] at h2
            exact h2.symm.trans (findN_end acc h1).2
          obtain ⟨B, off, rfl, hB1, hB2, hB3⟩ := bars_off HI.out.x HI.out.bars hl0
          obtain ⟨c0, c1⟩ := hB3 0 hl0
          obtain ⟨y0, hy0⟩ : ∃ y, (m.getD 0 (0, 0)).1 = y := ⟨_, rfl⟩
          obtain ⟨y1, hy1⟩ : ∃ y, (m.getD 0 (0, 0)).2 = y := ⟨_, rfl⟩
          rw [hy0] at c0 HE0
          rw [hy1] at c1 HE0
          rw [Nat.zero_mul, Nat.add_zero] at c0 c1
          have hm10 : m1 = 0 := by have := HM1.out; omega
          have HE := Lib.hid (show V = L.set m1 (0, 0, y0, y1, 0) by
            rw [HE0, HL.out, ← HM1.out, set_last m1 acc _, hm10]
            rfl)
          have HVN := Lib.hid (show V.length = N by rw [HE.out, List.length_set]; exact HLN.out)
          have hL1 : m1 < L.length := by have := HM1.out; have := HLN.out; have := HLE.out; omega
          clear hB3 hy0 hy1 HE0 hm10 hn1
          have hrow8 := HI.out.row.2.2
          obtain ⟨g0, g1, g2, g3, g4⟩ := stepCells_get L m1 hL1
          have hd0 := (hrow8.cellAt (m1 * 5) (by omega)).trans g0
          have hd1 := (hrow8.cellAt (m1 * 5 + 1) (by omega)).trans g1
          have hd2 := (hrow8.cellAt (m1 * 5 + 2) (by omega)).trans g2
          have hd3 := (hrow8.cellAt (m1 * 5 + 3) (by omega)).trans g3
          have hd4 := (hrow8.cellAt (m1 * 5 + 4) (by omega)).trans g4
          have hf0 := hrow8.frozenAt (m1 * 5)
          have hf1 := hrow8.frozenAt (m1 * 5 + 1)
          have hf2 := hrow8.frozenAt (m1 * 5 + 2)
          have hf3 := hrow8.frozenAt (m1 * 5 + 3)
          have hf4 := hrow8.frozenAt (m1 * 5 + 4)
          have hst0 := hrow8.stored (m1 * 5) (.int .i64 0)
          have hst1 := hst0.1.stored (m1 * 5 + 1) (.int .i64 0)
          have hst2 := hst1.1.stored (m1 * 5 + 2) (.int .i64 y0)
          have hst3 := hst2.1.stored (m1 * 5 + 3) (.int .i64 y1)
          have hst4 := hst3.1.stored (m1 * 5 + 4) (.int .i64 0)
          have hg5 := (((hst0.2.trans_ hst1.2).trans_ hst2.2).trans_ hst3.2).trans_ hst4.2
          have hst5 := hst4.1
          rw [stepCells_set L m1 (0, 0, y0, y1, 0)] at hst5
          have hgs : g < wr.heap.size := HI.out.row.2.1
          have hgne := HI.out.row.1
          have HW9 : Within g (g + 1) wr _ := ⟨hg5.os, hg5.tape, hg5.output, hg5.size, fun j hj hd => hg5.block j hj (by simp; omega)⟩
          have hgl := (HI.out.row.2.2.lt g rfl).1
          have X11 := Lib.hid ((HI.out.x.within HW9 (by omega)).kept (Below.refl _ _).drew)
          have HOW := Lib.hid (own_below hst5 (Below.refl _ _).drew)
          have HBW := Lib.hid (below_on (within_on HI.out.bel HW9 HI.out.bel.size (.inl hgl)) (Below.refl _ _).drew (Nat.le_trans HI.out.bel.size hg5.size))
          have HGL := Lib.hid (And.intro hgl (Nat.lt_of_lt_of_le hgs hg5.size))
          have KX := Lib.hid (HI.out.x.kept (Below.refl wr.heap.size wr).drew)
          have hm1n : (m1 : Int) < (n : Int) := by have := HM1.out; omega
          have hl0' : (0 : Int) < (m.length : Int) := by omega
          clear hst0 hst1 hst2 hst3 hst4 hst5 hg5 g0 g1 g2 g3 g4 hrow8 HW9
          obtain ⟨x0, x1, f0, f1⟩ := HI.out.x.cells
          go_wp2_with fail
          refine wp_region_held_drew (S := (fun W' : World => W'.cell? ⟨w.heap.size, 0, none⟩ = some (.int .i64 p) ∧ W'.cell? ⟨w.heap.size, 1, none⟩ = some (.slice (some ⟨B, off, none⟩) m.length c))) (by kernel_rfl) ?_ (fun hHeld => ?_)
          · exact ⟨KX.out.cells.1, KX.out.cells.2.1⟩
          refine wpAnyH_take (i := 0) (v := .slice (some ⟨g, 0, none⟩) n n) rfl (by kernel_rfl) (by kernel_rfl) (by kernel_rfl) (fun _ _ _ h => h) (Or.inl ⟨by kernel_rfl, fun w hSw => by (try dsimp only at hSw); go_simp; all_goals first | omega | exact IntWalk.i64_in _ (by omega)⟩) (by assumption) ?_
          try simp only [Act.put, List.setIfInBounds_toArray]
          refine wpAnyH_take (i := 1) (v := .int .i64 (m1 : Int)) rfl (by kernel_rfl) (by kernel_rfl) (by kernel_rfl) (fun _ _ _ h => h) (Or.inl ⟨by kernel_rfl, fun w hSw => by (try dsimp only at hSw); go_simp; all_goals first | omega | exact IntWalk.i64_in _ (by omega)⟩) (by assumption) ?_
          try simp only [Act.put]
          refine wpAnyH_take (i := 2) (v := .pointer (some ⟨w.heap.size, 1, none⟩)) rfl (by kernel_rfl) (by kernel_rfl) (by kernel_rfl) (fun _ _ _ h => h) (Or.inl ⟨by kernel_rfl, fun w hSw => by (try dsimp only at hSw); go_simp; all_goals first | omega | exact IntWalk.i64_in _ (by omega)⟩) (by assumption) ?_
          try simp only [Act.put]
          refine wpAnyH_take (i := 3) (v := .slice (some ⟨B, off, none⟩) m.length c) rfl (by kernel_rfl) (by kernel_rfl) (by kernel_rfl) (fun _ _ _ h => h) (Or.inl ⟨by kernel_rfl, fun w hSw => by (try dsimp only at hSw); go_simp; all_goals first | omega | exact IntWalk.i64_in _ (by omega)⟩) (by assumption) ?_
          try simp only [Act.put]
          refine wpAnyH_take (i := 4) (v := .pointer (some ⟨B, off, none⟩)) rfl (by kernel_rfl) (by kernel_rfl) (by kernel_rfl) (fun _ _ _ h => h) (Or.inl ⟨by kernel_rfl, fun w hSw => by (try dsimp only at hSw); go_simp; all_goals first | omega | exact IntWalk.i64_in _ (by omega)⟩) (by assumption) ?_
          try simp only [Act.put]
          refine wpAnyH_take (i := 5) (v := .pointer (some ⟨B, off, none⟩)) rfl (by kernel_rfl) (by kernel_rfl) (by kernel_rfl) (fun _ _ _ h => h) (Or.inl ⟨by kernel_rfl, fun w hSw => by (try dsimp only at hSw); go_simp; all_goals first | omega | exact IntWalk.i64_in _ (by omega)⟩) (by assumption) ?_
          try simp only [Act.put]
          refine wpAnyH_take (i := 7) (v := .pointer (some ⟨w.heap.size, 1, none⟩)) rfl (by kernel_rfl) (by kernel_rfl) (by kernel_rfl) (fun _ _ _ h => h) (Or.inl ⟨by kernel_rfl, fun w hSw => by (try dsimp only at hSw); go_simp; all_goals first | omega | exact IntWalk.i64_in _ (by omega)⟩) (by assumption) ?_
          try simp only [Act.put]
          refine wpAnyH_take (i := 8) (v := .slice (some ⟨B, off, none⟩) m.length c) rfl (by kernel_rfl) (by kernel_rfl) (by kernel_rfl) (fun _ _ _ h => h) (Or.inl ⟨by kernel_rfl, fun w hSw => by (try dsimp only at hSw); go_simp; all_goals first | omega | exact IntWalk.i64_in _ (by omega)⟩) (by assumption) ?_
          try simp only [Act.put]
          refine wpAnyH_take (i := 9) (v := .pointer (some ⟨B, off, none⟩)) rfl (by kernel_rfl) (by kernel_rfl) (by kernel_rfl) (fun _ _ _ h => h) (Or.inl ⟨by kernel_rfl, fun w hSw => by (try dsimp only at hSw); go_simp; all_goals first | omega | exact IntWalk.i64_in _ (by omega)⟩) (by assumption) ?_
          try simp only [Act.put]
          refine wpAnyH_take (i := 10) (v := .pointer (some ⟨B, off + 1, none⟩)) rfl (by kernel_rfl) (by kernel_rfl) (by kernel_rfl) (fun _ _ _ h => h) (Or.inl ⟨by kernel_rfl, fun w hSw => by (try dsimp only at hSw); go_simp; all_goals first | omega | exact IntWalk.i64_in _ (by omega)⟩) (by assumption) ?_
          try simp only [Act.put]
          refine wpAnyH_ready (rs := [6, 11]) (by kernel_rfl) (by simp) (AllReadyH.cons rfl (fun K hK => ?_) (AllReadyH.cons rfl (fun K hK => ?_) AllReadyH.nil))
          · go_simp
            refine hK.out _ _ ⟨KX.out.cells.1, KX.out.cells.2.1⟩ (fun hHeld => ?_)
            clear hK K
            try simp only [Act.put, List.setIfInBounds_toArray, List.set_cons_zero, List.set_cons_succ]
            refine wpAnyH_ready (rs := [11]) (by kernel_rfl) (by simp) (AllReadyH.cons rfl (fun K hK => ?_) AllReadyH.nil)
            go_simp
            refine hK.out _ _ ⟨KX.out.cells.1, KX.out.cells.2.1⟩ (fun hHeld => ?_)
            clear hK K
            try simp only [Act.put, List.setIfInBounds_toArray, List.set_cons_zero, List.set_cons_succ]
            refine wpAnyH_take (i := 12) (v := .agg #[.int .i64 0, .int .i64 0, .int .i64 y0, .int .i64 y1, .int .i64 0]) rfl (by kernel_rfl) (by kernel_rfl) (by kernel_rfl) (fun _ _ _ h => h) (Or.inl ⟨by kernel_rfl, fun w hSw => by (try dsimp only at hSw); go_simp; all_goals first | omega | exact IntWalk.i64_in _ (by omega)⟩) (by assumption) ?_
            try simp only [Act.put, List.setIfInBounds_toArray]
            refine wpAnyH_take (i := 13) (v := .pointer (some ⟨g, m1 * 5, none⟩)) rfl (by kernel_rfl) (by kernel_rfl) (by kernel_rfl) (fun _ _ _ h => h) (Or.inl ⟨by kernel_rfl, fun w hSw => by (try dsimp only at hSw); go_simp; all_goals first | omega | exact IntWalk.i64_in _ (by omega)⟩) (by assumption) ?_
            try simp only [Act.put]
            refine wpAnyH_ready (rs := [14]) (by kernel_rfl) (by simp) (AllReadyH.cons rfl (fun K hK => ?_) AllReadyH.nil)
            try simp only [Act.put, List.getElem_toArray, List.getElem_cons_zero, List.getElem_cons_succ, List.setIfInBounds_toArray, List.set_cons_zero, List.set_cons_succ]
            go_simp
            refine hK.out _ _ ⟨X11.out.cells.1, X11.out.cells.2.1⟩ (fun hHeld => ?_)
            clear hK K
            try simp only [Act.put, List.setIfInBounds_toArray, List.set_cons_zero, List.set_cons_succ]
            refine wpAnyH_done (by kernel_rfl) ?_ _
            try simp only [Act.put, List.getElem_toArray, List.getElem_cons_zero, List.getElem_cons_succ, List.setIfInBounds_toArray, List.set_cons_zero, List.set_cons_succ]
            go_wp2_with fail
            simp only [Exit.jump]
            refine bodyPost_ret (v := .tuple #[.slice (some ⟨g, 0, none⟩) N N, .bool true]) ?_ rfl ⟨some ⟨g, 0, none⟩, N, by rw [HVN.out], ⟨Nat.le_refl _, .inr ⟨g, rfl, HGL.out.1, HGL.out.2, by have h9 := HOW.out; rw [HLN.out] at h9; rw [HVN.out, HE.out]; exact h9⟩⟩, HBW.out⟩
            simp [results, Try.results80, go_sem]
          · go_simp
            refine hK.out _ _ ⟨KX.out.cells.1, KX.out.cells.2.1⟩ (fun hHeld => ?_)
            clear hK K
            try simp only [Act.put, List.setIfInBounds_toArray, List.set_cons_zero, List.set_cons_succ]
            refine wpAnyH_ready (rs := [6]) (by kernel_rfl) (by simp) (AllReadyH.cons rfl (fun K hK => ?_) AllReadyH.nil)
            go_simp
            refine hK.out _ _ ⟨KX.out.cells.1, KX.out.cells.2.1⟩ (fun hHeld => ?_)
            clear hK K
            try simp only [Act.put, List.setIfInBounds_toArray, List.set_cons_zero, List.set_cons_succ]
            refine wpAnyH_take (i := 12) (v := .agg #[.int .i64 0, .int .i64 0, .int .i64 y0, .int .i64 y1, .int .i64 0]) rfl (by kernel_rfl) (by kernel_rfl) (by kernel_rfl) (fun _ _ _ h => h) (Or.inl ⟨by kernel_rfl, fun w hSw => by (try dsimp only at hSw); go_simp; all_goals first | omega | exact IntWalk.i64_in _ (by omega)⟩) (by assumption) ?_
            try simp only [Act.put, List.setIfInBounds_toArray]
            refine wpAnyH_take (i := 13) (v := .pointer (some ⟨g, m1 * 5, none⟩)) rfl (by kernel_rfl) (by kernel_rfl) (by kernel_rfl) (fun _ _ _ h => h) (Or.inl ⟨by kernel_rfl, fun w hSw => by (try dsimp only at hSw); go_simp; all_goals first | omega | exact IntWalk.i64_in _ (by omega)⟩) (by assumption) ?_
            try simp only [Act.put]
            refine wpAnyH_ready (rs := [14]) (by kernel_rfl) (by simp) (AllReadyH.cons rfl (fun K hK => ?_) AllReadyH.nil)
            try simp only [Act.put, List.getElem_toArray, List.getElem_cons_zero, List.getElem_cons_succ, List.setIfInBounds_toArray, List.set_cons_zero, List.set_cons_succ]
            go_simp
            refine hK.out _ _ ⟨X11.out.cells.1, X11.out.cells.2.1⟩ (fun hHeld => ?_)
            clear hK K
            try simp only [Act.put, List.setIfInBounds_toArray, List.set_cons_zero, List.set_cons_succ]
            refine wpAnyH_done (by kernel_rfl) ?_ _
            try simp only [Act.put, List.getElem_toArray, List.getElem_cons_zero, List.getElem_cons_succ, List.setIfInBounds_toArray, List.set_cons_zero, List.set_cons_succ]
            go_wp2_with fail
            simp only [Exit.jump]
            refine bodyPost_ret (v := .tuple #[.slice (some ⟨g, 0, none⟩) N N, .bool true]) ?_ rfl ⟨some ⟨g, 0, none⟩, N, by rw [HVN.out], ⟨Nat.le_refl _, .inr ⟨g, rfl, HGL.out.1, HGL.out.2, by have h9 := HOW.out; rw [HLN.out] at h9; rw [HVN.out, HE.out]; exact h9⟩⟩, HBW.out⟩
            simp [results, Try.results80, go_sem]
        · exfalso
          obtain ⟨y, hu, _⟩ := findN_round (P := P) (n := m1) acc (by have := HG.out; rw [HP.out] at this; exact this) (by have := HH.out; rw [← HM1.out] at this; exact this) (by have := HM1.out; omega)
          rw [← HP.out] at hu
          have hpt : p.toNat = P := by have := HP.out; omega
          exact undo_end hu (by rw [hpt]; exact h2 (by omega)) (by rw [hpt]; exact h3 rfl)

  · obtain ⟨hv1, hv2⟩ := findV_no hyes
    rw [hV] at hv1
    rw [hR] at hv2
    subst hv1
    subst hv2
    obtain ⟨x0, x1, _, _⟩ := HX1.out.cells
    refine wp_scope_straight ?_
    go_wp2_with fail
    clear x0 x1
    have h9 := HMN.out _ HL1.out
    cases hmb : minB p l
    · rw [hmb] at h9
      refine h9.mono ?_
      rintro e w2 ⟨rfl, hb⟩
      have HB2 := Lib.hid (below_on HB1.out hb HB1.out.size)
      clear hb h9
      go_wp2_with fail
      simp only [Exit.noGoto]
      refine bodyPost_ret (v := .tuple #[.slice none 0 0, .bool false]) ?_ rfl ⟨none, 0, rfl, own_snil _ _, HB2.out⟩
      simp [results, Try.results80, go_sem]
    · rw [hmb] at h9
      have hl0 : ¬ 0 < l.length := fun h => hyes ⟨hmb, h⟩
      refine h9.mono ?_
      rintro e w2 ⟨rfl, hb⟩
      have HB2 := Lib.hid (below_on HB1.out hb HB1.out.size)
      obtain ⟨x0, x1, _, _⟩ := (HX1.out.kept hb).cells
      have h0' : ((l.length : Int) == 0) = true := beq_iff_eq.2 (by omega)
      have h0'' : l = [] := List.eq_nil_of_length_eq_zero (by omega)
      clear hb h9
      go_wp2_with fail
      simp only [Exit.noGoto]
      refine bodyPost_ret (v := .tuple #[.slice none 0 0, .bool false]) ?_ rfl ⟨none, 0, rfl, own_snil _ _, HB2.out⟩
      simp [results, Try.results80, go_sem]
end Go.Proofs.Ytdkpmaahinbhlaa
