/- What the program's MoveJoint answers. No condition. -/
import Derived.Test.YtehendofgcebcaaMvM
import Derived.Deep.DeepCutAuto
import Derived.Test.YtehendofgcebcaaIsFI
import Derived.Test.YtehendofgcebcaaHasPt
namespace Go.Proofs.Ytehendofgcebcaa
open Go.RowKit

set_option maxHeartbeats 8000000 in
set_option maxRecDepth 100000 in
theorem implMov (p : Int) (l m : List (Int × Int)) (v x1 x2 : Int) (A : Option Addr) (ca : Nat) (B : Option Addr) (cb : Nat) (lo hi : Nat) (w : World) (hl : FwIn w lo hi A l B m) (hn : l.length + m.length ≤ 1048576) :
    Calls Try.prog 63 #[.agg #[.int .i64 p, .slice A l.length ca, .slice B m.length cb], .int .i64 v, .agg #[.int .i64 x1, .int .i64 x2]] w (FwOB w p l (movL p l m v (x1, x2)) (movB p l m v (x1, x2))) := by
  have hhi := hl.b.1
  have HC := Lib.hid fun (W : World) (h : FwIn W lo hi A l B m) => implIsF p l m A ca B cb lo hi W h hn
  have HCP := Lib.hid fun (W : World) (h : FwIn W lo hi A l B m) => fclone_c p l m A ca B cb lo hi W h hn
  have hf := FbI.new (p := p) (ca := ca) (cb := cb) hl 63
  have hs1 : (w.alloc (.cells #[.int .i64 p, .slice A l.length ca, .slice B m.length cb] 63)).heap.size = w.heap.size + 1 := by simp
  clear hl
  go_enter Try.func63, Try.ntmps63
  go_wp2_with fail
  generalize (w.alloc (.cells #[.int .i64 p, .slice A l.length ca, .slice B m.length cb] 63)) = w1 at *
  have hB := box_new w1 x1 (.int .i64 x2) 76
  have hf1 := hf.below (new_below w1 (.cells #[.int .i64 x1, .int .i64 x2] 76))
  have hs2 : (w1.alloc (.cells #[.int .i64 x1, .int .i64 x2] 76)).heap.size = w1.heap.size + 1 := by simp
  rw [hs1] at hB hs2
  generalize (w1.alloc (.cells #[.int .i64 x1, .int .i64 x2] 76)) = wb at *
  have hr := cel3_new wb (.int .i64 0) (.slice none 0 0) (.slice none 0 0) 63
  have hf2 := hf1.below (new_below wb (.cells #[.int .i64 0, .slice none 0 0, .slice none 0 0] 63))
  have hB2 := hB.kept (new_below wb (.cells #[.int .i64 0, .slice none 0 0, .slice none 0 0] 63))
  have hs3 : (wb.alloc (.cells #[.int .i64 0, .slice none 0 0, .slice none 0 0] 63)).heap.size = wb.heap.size + 1 := by simp
  rw [hs2] at hr hs3
  generalize (wb.alloc (.cells #[.int .i64 0, .slice none 0 0, .slice none 0 0] 63)) = w2 at *
  have HF2 := Lib.hid hf2
  have HB2 := Lib.hid hB2
  have HR2 := Lib.hid hr
  have HS2 := Lib.hid (show w2.heap.size = w.heap.size + 3 by omega)
  clear hf hf1 hf2 hr hB hB2 hs1 hs2 hs3
  by_cases hg : isFB p l m = true
  · rw [hg] at HC
    have HI := Lib.hid (isFB_iff.1 hg)
    have HG := Lib.hid hg
    clear hg
    refine (HC.out _ HF2.out.f).mono ?_
    rintro e w9 ⟨rfl, hb⟩
    have HF9 := Lib.hid (HF2.out.below hb)
    have HB9 := Lib.hid (HB2.out.kept hb)
    have HR9 := Lib.hid (HR2.out.kept hb)
    have HS9 := Lib.hid (show w.heap.size + 3 ≤ w9.heap.size by have := HS2.out; have := hb.size; omega)
    clear hb HC HF2 HB2 HR2
    obtain ⟨_, x0, y1, y2⟩ := HF9.out.x
    go_wp2_with fail
    refine (hasPoint_c p v A l.length ca _).mono ?_
    rintro e w3 ⟨rfl, hb⟩
    have HF3 := Lib.hid (HF9.out.below hb)
    have HB3 := Lib.hid (HB9.out.kept hb)
    have HR3 := Lib.hid (HR9.out.kept hb)
    have HS3 := Lib.hid (show w.heap.size + 3 ≤ w3.heap.size from Nat.le_trans HS9.out hb.size)
    clear hb HF9 HB9 HR9 x0 y1 y2
    obtain ⟨_, x0, y1, y2⟩ := HF3.out.x
    by_cases hp : ptB p v = true
    · have hpv : 0 ≤ v ∧ v < p := by unfold ptB at hp; simpa using hp
      rw [hp]
      obtain ⟨k, rfl⟩ : ∃ k : Nat, v = k := ⟨v.toNat, by omega⟩
      have hk : k < m.length := by have := HI.out.len; omega
      have hki : (k : Int) < (m.length : Int) := by omega
      have HV := Lib.hid (show isFB p l m = true ∧ 0 ≤ (k : Int) ∧ (k : Int) < p from ⟨HG.out, hpv⟩)
      clear hp hpv
      go_wp2_with fail
      refine (HCP.out _ HF3.out.f).mono ?_
      rintro e w4 ⟨A2, c2, B2, d2, rfl, ho, hb⟩
      have hc3 := MvI.new (HF3.out.below hb) (HB3.out.kept hb) (HR3.out.kept hb) (show OwnFw w4 (w.heap.size + 3) w4.heap.size A2 c2 l B2 d2 m from ho.widen HS3.out (Nat.le_refl _) (Nat.le_refl _)) hhi (by have := HS3.out; have := hb.size; omega)
      have HC5 := Lib.hid hc3
      clear hc3 ho hb HF3 HB3 HR3 x0 y1 y2
      obtain ⟨_, z0, z1⟩ := HC5.out.b
      obtain ⟨o0, o1, o2, _, _, _⟩ := HC5.out.o.cells
      obtain ⟨_, x0, y1, y2⟩ := HC5.out.f.x
      obtain ⟨g, rfl, ⟨hc1, hc2⟩, ⟨hf1, hf2⟩, hall, _⟩ := HC5.out.at hk
      have HW := Lib.hid (hall (x1, x2))
      clear hall HC5
      go_upto_region 5 with fail
      clear hc1 hc2 hf1 hf2 z0 z1 x0 y1 y2 o0 o1 o2
      generalize hob : w4.heap.size = ob at *
      clear hob
      generalize (((w4.alloc (.cells #[.int .i64 p, .slice A2 l.length c2, .slice (some ⟨g, 0, none⟩) m.length d2] 63)).setCell ⟨g, k * 2, none⟩ (.int .i64 x1)).setCell ⟨g, k * 2 + 1, none⟩ (.int .i64 x2)) = w6 at *
      obtain ⟨o0, o1, o2, _, _, _⟩ := HW.out.o.cells
      have HC2 := Lib.hid fun (W : World) (h : FwIn W (w.heap.size + 3) ob A2 l (some ⟨g, 0, none⟩) (m.set k (x1, x2))) => implIsF p l (m.set k (x1, x2)) A2 c2 (some ⟨g, 0, none⟩) d2 (w.heap.size + 3) ob W h (by rw [List.length_set]; exact hn)
      rw [List.length_set] at HC2
      go_wp2_with fail
      by_cases hv : isFB p l (m.set k (x1, x2)) = true
      · have HM := Lib.hid (mov_yes HV.out (show isFB p l (m.set (k : Int).toNat (x1, x2)) = true from hv))
        rw [hv] at HC2
        clear hv
        refine (HC2.out _ HW.out.own.reads).mono ?_
        rintro e w7 ⟨rfl, hb⟩
        have HW7 := Lib.hid (HW.out.below hb)
        clear hb HW HC2
        obtain ⟨o0, o1, o2, _, _, _⟩ := HW7.out.o.cells
        obtain ⟨r0, r1, r2, e0, e1, e2⟩ := HW7.out.r.cells
        go_wp2_with fail
        obtain ⟨s0, s1, s2, hO, hB⟩ := HW7.out.ret
        refine bodyPost_ret (v := .tuple #[.agg #[.int .i64 p, .slice A2 l.length c2, .slice (some ⟨g, 0, none⟩) m.length d2], .bool true]) ?_ rfl ⟨A2, c2, (some ⟨g, 0, none⟩), d2, by rw [HM.out.1, HM.out.2, List.length_set], by rw [HM.out.2]; exact hO, hB⟩
        simp [results, Try.results63, go_sem, s0, s1, s2]
      · have hvf : isFB p l (m.set k (x1, x2)) = false := by simpa using hv
        have HM := Lib.hid (mov_no (mov_at HV.out (show isFB p l (m.set (k : Int).toNat (x1, x2)) = false from hvf)))
        rw [hvf] at HC2
        clear hv hvf
        refine (HC2.out _ HW.out.own.reads).mono ?_
        rintro e w7 ⟨rfl, hb⟩
        have HW7 := Lib.hid (HW.out.below hb)
        clear hb HW HC2
        obtain ⟨_, x0, y1, y2⟩ := HW7.out.f.x
        go_wp2_with fail
        refine (HCP.out _ HW7.out.f.f).mono ?_
        rintro e w8 ⟨A3, c3, B3, d3, rfl, ho, hb⟩
        have HW8 := Lib.hid (HW7.out.below hb)
        have HO8 := Lib.hid (show OwnFw w8 (w.heap.size + 2 + 1) w8.heap.size A3 c3 l B3 d3 m from ho.widen (by have := HW7.out.o.lt; have := HW7.out.lt; omega) (Nat.le_refl _) (Nat.le_refl _))
        clear ho hb HW7
        obtain ⟨r0, r1, r2, e0, e1, e2⟩ := HW8.out.r.cells
        go_wp2_with fail
        obtain ⟨s0, s1, s2, hO, hB⟩ := fw_ret HW8.out.r HO8.out HW8.out.f.b (by omega) p
        refine bodyPost_ret (v := .tuple #[.agg #[.int .i64 p, .slice A3 l.length c3, .slice B3 m.length d3], .bool false]) ?_ rfl ⟨A3, c3, B3, d3, by rw [HM.out.1, HM.out.2], by rw [HM.out.2]; exact hO, hB⟩
        simp [results, Try.results63, go_sem, s0, s1, s2]
    · have hpf : ptB p v = false := by simpa using hp
      have HM := Lib.hid (mov_bad (p := p) (l := l) (m := m) (v := v) (x := (x1, x2)) (fun h => hp (by unfold ptB; simpa using h.2)))
      rw [hpf]
      clear hp hpf
      go_wp2_with fail
      refine (HCP.out _ HF3.out.f).mono ?_
      rintro e w8 ⟨A3, c3, B3, d3, rfl, ho, hb⟩
      have HF8 := Lib.hid (HF3.out.below hb)
      have HR8 := Lib.hid (HR3.out.kept hb)
      have HO8 := Lib.hid (show OwnFw w8 (w.heap.size + 2 + 1) w8.heap.size A3 c3 l B3 d3 m from ho.widen (by have := HS3.out; omega) (Nat.le_refl _) (Nat.le_refl _))
      clear ho hb HF3 HR3
      obtain ⟨r0, r1, r2, e0, e1, e2⟩ := HR8.out.cells
      go_wp2_with fail
      obtain ⟨s0, s1, s2, hO, hB⟩ := fw_ret HR8.out HO8.out HF8.out.b (by omega) p
      refine bodyPost_ret (v := .tuple #[.agg #[.int .i64 p, .slice A3 l.length c3, .slice B3 m.length d3], .bool false]) ?_ rfl ⟨A3, c3, B3, d3, by rw [HM.out.1, HM.out.2], by rw [HM.out.2]; exact hO, hB⟩
      simp [results, Try.results63, go_sem, s0, s1, s2]
  · have hgf : isFB p l m = false := by simpa using hg
    rw [hgf] at HC
    have HM := Lib.hid (mov_bad (p := p) (l := l) (m := m) (v := v) (x := (x1, x2)) (fun h => hg h.1))
    clear hg hgf
    refine (HC.out _ HF2.out.f).mono ?_
    rintro e w3 ⟨rfl, hb⟩
    have HF3 := Lib.hid (HF2.out.below hb)
    have HR3 := Lib.hid (HR2.out.kept hb)
    have HS3 := Lib.hid (show w.heap.size + 3 ≤ w3.heap.size by have := HS2.out; have := hb.size; omega)
    clear hb HC HF2 HR2
    obtain ⟨_, x0, y1, y2⟩ := HF3.out.x
    go_wp2_with fail
    refine (HCP.out _ HF3.out.f).mono ?_
    rintro e w8 ⟨A3, c3, B3, d3, rfl, ho, hb⟩
    have HF8 := Lib.hid (HF3.out.below hb)
    have HR8 := Lib.hid (HR3.out.kept hb)
    have HO8 := Lib.hid (show OwnFw w8 (w.heap.size + 2 + 1) w8.heap.size A3 c3 l B3 d3 m from ho.widen (by have := HS3.out; omega) (Nat.le_refl _) (Nat.le_refl _))
    clear ho hb HF3 HR3
    obtain ⟨r0, r1, r2, e0, e1, e2⟩ := HR8.out.cells
    go_wp2_with fail
    obtain ⟨s0, s1, s2, hO, hB⟩ := fw_ret HR8.out HO8.out HF8.out.b (by omega) p
    refine bodyPost_ret (v := .tuple #[.agg #[.int .i64 p, .slice A3 l.length c3, .slice B3 m.length d3], .bool false]) ?_ rfl ⟨A3, c3, B3, d3, by rw [HM.out.1, HM.out.2], by rw [HM.out.2]; exact hO, hB⟩
    simp [results, Try.results63, go_sem, s0, s1, s2]
end Go.Proofs.Ytehendofgcebcaa
