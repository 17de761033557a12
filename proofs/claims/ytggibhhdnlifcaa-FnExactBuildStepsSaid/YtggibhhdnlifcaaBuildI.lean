/- What the program's BuildSteps answers. No condition. -/
import Derived.Test.YtggibhhdnlifcaaBldM
import Derived.Test.YtggibhhdnlifcaaApplyI
namespace Go.Proofs.Ytggibhhdnlifcaa
open Go.RowKit

set_option maxHeartbeats 8000000 in
set_option maxRecDepth 100000 in
theorem implBuild (p : Int) (l : List Stp) (A : Option Addr) (cap : Nat) (w : World) (hl : StepsAt w w.heap.size A l) (hn : l.length ≤ 1048576) :
    Calls Try.prog 27 #[.int .i64 p, .slice A l.length cap] w (GraphOB w (bldP p l) (bldV p l) (bldB p l)) := by
  have hA1 := new_below w (.cells #[.int .i64 0, .slice none 0 0] 30)
  have hA2 := new_below (w.alloc (.cells #[.int .i64 0, .slice none 0 0] 30)) (.cells #[.int .i64 p, .slice none 0 0] 30)
  have HS1 := Lib.hid (show (w.alloc (.cells #[.int .i64 0, .slice none 0 0] 30)).heap.size = w.heap.size + 1 by simp)
  have HS2 := Lib.hid (show ((w.alloc (.cells #[.int .i64 0, .slice none 0 0] 30)).alloc (.cells #[.int .i64 p, .slice none 0 0] 30)).heap.size = w.heap.size + 2 by simp)
  have HA := Lib.hid (below_on hA1 hA2 hA1.size)
  have HL0 := Lib.hid hl
  have BR2 := Lib.hid ((cel2_new w (.int .i64 0) (.slice none 0 0) 30).kept hA2)
  have hr := cel2_new (w.alloc (.cells #[.int .i64 0, .slice none 0 0] 30)) (.int .i64 p) (.slice none 0 0) 30
  rw [HS1.out] at hr
  have BX2 := Lib.hid hr
  clear hl hA1 hA2 hr
  go_enter Try.func27, Try.ntmps27
  obtain ⟨g0, g1, f0, f1⟩ := BX2.out.cells
  go_wp2_with fail
  clear g0 g1 f0 f1
  generalize ((w.alloc (.cells #[.int .i64 0, .slice none 0 0] 30)).alloc (.cells #[.int .i64 p, .slice none 0 0] 30)) = w2 at *
  refine (implIsGraph p [] none 0 _ (BarsAt.nil _ _ _) (by simp)).mono ?_
  rintro e w3 ⟨rfl, hb3⟩
  have HB3 := Lib.hid (below_on HA.out hb3 HA.out.size)
  have BR3 := Lib.hid (BR2.out.kept hb3)
  have BX3 := Lib.hid (BX2.out.kept hb3)
  have HS3 := Lib.hid (show w.heap.size + 2 ≤ w3.heap.size by have := HS2.out; have := hb3.size; omega)
  clear hb3 BR2 BX2 HA HS2
  cases hg : isGB p [] with
  | false =>
    have HF := Lib.hid (@bld_no0 p l hg)
    have HR := Lib.hid (ret2 BR3.out (.int .i64 0) (.slice none 0 0))
    obtain ⟨r0, r1, q0, q1⟩ := BR3.out.cells
    obtain ⟨s0, s1, _, _⟩ := HR.out.1.cells
    clear hg
    go_wp2_with fail
    refine bodyPost_ret (v := .tuple #[.agg #[.int .i64 0, .slice none 0 0], .bool false]) ?_ rfl ⟨none, 0, by rw [HF.out, (bld_false HF.out).1, (bld_false HF.out).2]; rfl, by rw [(bld_false HF.out).2]; exact own_nil _ _ _ _, within_on HB3.out HR.out.2 HB3.out.size (.inl (Nat.le_refl _))⟩
    simp [results, Try.results27, go_sem, s0, s1]
  | true =>
    have HG := Lib.hid hg
    clear hg
    go_wp2_with fail
    go_loopw [19] (fun i wr => ∃ (k : Nat) (A' : Option Addr) (c' : Nat), k ≤ l.length ∧ i = .int .i64 k ∧ bldR p l k = true ∧ Cel2 wr (w.heap.size + 1) 30 (.int .i64 p) (.slice A' (bldL p l k).length c') ∧ Cel2 wr w.heap.size 30 (.int .i64 0) (.slice none 0 0) ∧ OwnIn wr (w.heap.size + 2) wr.heap.size A' c' (bldL p l k) ∧ Below w.heap.size w wr ∧ w.heap.size + 2 ≤ wr.heap.size) (fun i _ => l.length - (intOf i).toNat)
    case atStart => exact ⟨0, none, 0, by omega, rfl, rfl, BX3.out, BR3.out, own_nil _ _ _ _, HB3.out, HS3.out⟩
    case round =>
      obtain ⟨k, A', c', hk, rfl, hR, hbx, hbr, hown, hb, hsz⟩ := hrel
      have HB := Lib.hid hb
      have HBX := Lib.hid hbx
      have HBR := Lib.hid hbr
      have HOW := Lib.hid hown
      have HSZ := Lib.hid hsz
      have HRK := Lib.hid hR
      have HLL := Lib.hid (bldL_len p l k)
      clear hb hbx hbr hown hsz hR
      by_cases hlt : k < l.length
      · have hi0 : (k : Int) < (l.length : Int) := by omega
        have hbs := HB.out.size
        obtain ⟨b, off, rfl, _, hcell⟩ := (HL0.out.kept HB.out) (by omega)
        obtain ⟨d0, d1, d2, d3, d4⟩ := hcell k hlt
        have HNO := Lib.hid (@bld_no p l k hlt)
        have HNX := Lib.hid (show bldL p l (k + 1) = stepL p (bldL p l k) (l.getD k zS) from rfl)
        have HNR := Lib.hid (fun h : stepR p (bldL p l k) (l.getD k zS) = true => (show bldR p l (k + 1) = true by rw [bldR, HRK.out, h]; rfl))
        obtain ⟨x, hx⟩ : ∃ x, l.getD k zS = x := ⟨_, rfl⟩
        rw [hx] at d0 d1 d2 d3 d4 HNO HNX HNR
        obtain ⟨L, hL⟩ : ∃ L, bldL p l k = L := ⟨_, rfl⟩
        rw [hL] at HBX HOW HLL HNO HNX HNR
        clear hcell hx hL
        obtain ⟨x1, x2, x3, x4, x5⟩ := x
        simp only at d0 d1 d2 d3 d4
        have hal := new_below wr (.cells #[.int .i64 x1, .int .i64 x2, .int .i64 x3, .int .i64 x4, .int .i64 x5] 41)
        obtain ⟨e0, e1, e2, e3, e4⟩ := cells5_new wr x1 x2 x3 x4 x5 41
        have HB4 := Lib.hid (below_on HB.out hal hbs)
        have HX4 := Lib.hid (HBX.out.kept hal)
        have HR4 := Lib.hid (HBR.out.kept hal)
        have HO4 := Lib.hid (HOW.out.within (within_of hal) (.inr (Nat.zero_le _)))
        have HS4 := Lib.hid (show w.heap.size + 2 ≤ (wr.alloc (.cells #[.int .i64 x1, .int .i64 x2, .int .i64 x3, .int .i64 x4, .int .i64 x5] 41)).heap.size by have := HSZ.out; have := hal.size; omega)
        clear hal HBX HBR HOW HB
        obtain ⟨g0, g1, f0, f1⟩ := HX4.out.cells
        go_wp2_with fail
        clear g0 g1 f0 f1 e0 e1 e2 e3 e4 d0 d1 d2 d3 d4
        generalize (wr.alloc (.cells #[.int .i64 x1, .int .i64 x2, .int .i64 x3, .int .i64 x4, .int .i64 x5] 41)) = w4 at *
        refine (implApply (x1, x2, x3, x4, x5) p L A' c' _ HO4.out.bars.at HLL.out).mono ?_
        rintro e w5 ⟨A5, c5, rfl, ho5, hb5⟩
        have hal := new_below w5 (.cells #[.int .i64 p, .slice A5 (stepL p L (x1, x2, x3, x4, x5)).length c5] 30)
        have HN5 := Lib.hid (cel2_new w5 (.int .i64 p) (.slice A5 (stepL p L (x1, x2, x3, x4, x5)).length c5) 30)
        have HO5 := Lib.hid (ho5.within (within_of hal) (.inr (Nat.zero_le _)))
        have HX5 := Lib.hid ((HX4.out.kept hb5).kept hal)
        have HR5 := Lib.hid ((HR4.out.kept hb5).kept hal)
        have hb5' := below_on HB4.out hb5 HB4.out.size
        have HB5 := Lib.hid (below_on hb5' hal hb5'.size)
        have HS5 := Lib.hid (show w4.heap.size ≤ w5.heap.size ∧ w5.heap.size ≤ (w5.alloc (.cells #[.int .i64 p, .slice A5 (stepL p L (x1, x2, x3, x4, x5)).length c5] 30)).heap.size from ⟨hb5.size, hal.size⟩)
        clear ho5 hb5 hb5' hal
        cases hr : stepR p L (x1, x2, x3, x4, x5) with
        | false =>
          have HF := Lib.hid (HNO.out hr)
          have HRR := Lib.hid (ret2 HR5.out (.int .i64 0) (.slice none 0 0))
          obtain ⟨r0, r1, q0, q1⟩ := HR5.out.cells
          obtain ⟨s0, s1, _, _⟩ := HRR.out.1.cells
          clear hr
          go_wp2_with fail
          refine bodyPost_ret (v := .tuple #[.agg #[.int .i64 0, .slice none 0 0], .bool false]) ?_ rfl ⟨none, 0, by rw [HF.out, (bld_false HF.out).1, (bld_false HF.out).2]; rfl, by rw [(bld_false HF.out).2]; exact own_nil _ _ _ _, within_on HB5.out HRR.out.2 HB5.out.size (.inl (Nat.le_refl _))⟩
          simp [results, Try.results27, go_sem, s0, s1]
        | true =>
          have HY := Lib.hid (HNR.out hr)
          clear hr
          obtain ⟨M, hM⟩ : ∃ M, stepL p L (x1, x2, x3, x4, x5) = M := ⟨_, rfl⟩
          rw [hM] at HN5 HO5 HX5 HR5 HB5 HS5 HNX ⊢
          clear hM
          have HRR := Lib.hid (ret2 HX5.out (.int .i64 p) (.slice A5 M.length c5))
          obtain ⟨g0, g1, f0, f1⟩ := HX5.out.cells
          obtain ⟨n0, n1, _, _⟩ := HN5.out.cells
          go_wp2_with fail
          go_roundw
          case rel =>
            have hs := HS5.out
            have hs4 := HS4.out
            have hsw := HRR.out.2.size
            have ho := HO5.out.within HRR.out.2 (.inr (by omega))
            exact ⟨k + 1, A5, c5, by omega, by go_num, HY.out, by rw [HNX.out]; exact HRR.out.1, HR5.out.within HRR.out.2 (.inl (by omega)), by rw [HNX.out]; exact ho.widen (by omega) (by omega) (Nat.le_refl _), within_on HB5.out HRR.out.2 HB5.out.size (.inl (by omega)), by omega⟩
          case measure => simp [intOf]; omega
      · obtain rfl : k = l.length := by omega
        have HE := Lib.hid (bld_yes HG.out HRK.out)
        have HRR := Lib.hid (ret2 HBR.out (.int .i64 p) (.slice A' (bldL p l l.length).length c'))
        obtain ⟨r0, r1, q0, q1⟩ := HBR.out.cells
        obtain ⟨g0, g1, f0, f1⟩ := HBX.out.cells
        obtain ⟨s0, s1, _, _⟩ := HRR.out.1.cells
        have ho := HOW.out.within HRR.out.2 (.inr (by omega))
        have HT0 := Lib.hid (ho.widen (lo' := w.heap.size) (by omega) HRR.out.2.size (Nat.le_refl _))
        clear ho
        go_wp2_with fail
        refine bodyPost_ret (v := .tuple #[.agg #[.int .i64 p, .slice A' (bldL p l l.length).length c'], .bool true]) ?_ rfl ⟨A', c', by rw [HE.out, (bld_true HE.out).1, (bld_true HE.out).2], by rw [(bld_true HE.out).2]; exact HT0.out, within_on HB.out HRR.out.2 HB.out.size (.inl (Nat.le_refl _))⟩
        simp [results, Try.results27, go_sem, s0, s1]
end Go.Proofs.Ytggibhhdnlifcaa
