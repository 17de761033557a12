/- What spec.MoveJoint answers. No condition. -/
import Derived.Test.YtehendofgcebcaaMvM
import Derived.Deep.DeepCutAuto
import Derived.Test.YtehendofgcebcaaIsFS
namespace Go.Proofs.Ytehendofgcebcaa
open Go.RowKit

set_option maxHeartbeats 8000000 in
set_option maxRecDepth 100000 in
theorem specMov (p : Int) (l m : List (Int × Int)) (v x1 x2 : Int) (A : Addr) (ca : Nat) (B : Addr) (cb : Nat) (lo hi : Nat) (w : World) (hl : FwIn w lo hi (some A) l (some B) m) (hn : l.length + m.length ≤ 1048576) :
    Calls Try.prog 61 #[.agg #[.int .i64 p, .slice (some A) l.length ca, .slice (some B) m.length cb], .int .i64 v, .agg #[.int .i64 x1, .int .i64 x2]] w (FwOB w p l (movL p l m v (x1, x2)) (movB p l m v (x1, x2))) := by
  have hhi := hl.b.1
  have HC := Lib.hid fun (W : World) (h : FwIn W lo hi (some A) l (some B) m) => specIsF p l m (some A) ca (some B) cb lo hi W h hn
  have HCP := Lib.hid fun (W : World) (h : FwIn W lo hi (some A) l (some B) m) => fcopy_c p l m A ca B cb lo hi W h hn
  have hf := FbI.new (p := p) (ca := ca) (cb := cb) hl 63
  have hs1 : (w.alloc (.cells #[.int .i64 p, .slice (some A) l.length ca, .slice (some B) m.length cb] 63)).heap.size = w.heap.size + 1 := by simp
  clear hl
  go_enter Try.func61, Try.ntmps61
  go_wp2_with fail
  generalize (w.alloc (.cells #[.int .i64 p, .slice (some A) l.length ca, .slice (some B) m.length cb] 63)) = w1 at *
  have hB := box_new w1 x1 (.int .i64 x2) 76
  have hf1 := hf.below (new_below w1 (.cells #[.int .i64 x1, .int .i64 x2] 76))
  have hs2 : (w1.alloc (.cells #[.int .i64 x1, .int .i64 x2] 76)).heap.size = w1.heap.size + 1 := by simp
  rw [hs1] at hB hs2
  generalize (w1.alloc (.cells #[.int .i64 x1, .int .i64 x2] 76)) = wb at *
  have hr := cel3_new wb (.int .i64 0) (.slice none 0 0) (.slice none 0 0) 63
  have hf2 := hf1.below (new_below wb (.cells #[.int .i64 0, .slice none 0 0, .slice none 0 0] 63))
  have hB2 := hB.kept (new_below wb (.cells #[.int .i64 0, .slice none 0 0, .slice none 0 0] 63))
  have hs3 : (wb.alloc (.cells #[.int .i64 0, .slice none 0 0, .slice none 0 0] 63)).heap.size = wb.heap.size + 1 := by simp
  rw [hs2] at hr hs3
  generalize (wb.alloc (.cells #[.int .i64 0, .slice none 0 0, .slice none 0 0] 63)) = w2 at *
  have HF2 := Lib.hid hf2
  have HB2 := Lib.hid hB2
  have HR2 := Lib.hid hr
  have HS2 := Lib.hid (show w2.heap.size = w.heap.size + 3 by omega)
  clear hf hf1 hf2 hr hB hB2 hs1 hs2 hs3
  refine (HCP.out _ HF2.out.f).mono ?_
  rintro e w3 ⟨A2, c2, B2, d2, rfl, ho, hb⟩
  have hc3 := MvI.new (HF2.out.below hb) (HB2.out.kept hb) (HR2.out.kept hb) (show OwnFw w3 (w.heap.size + 3) w3.heap.size A2 c2 l B2 d2 m by have := HS2.out; rwa [this] at ho) hhi (by have := HS2.out; have := hb.size; omega)
  have HC3 := Lib.hid hc3
  obtain ⟨_, x0, y1, y2⟩ := HF2.out.x.kept hb
  clear hc3 ho hb HF2 HB2 HR2
  go_wp2_with fail
  clear x0 y1 y2
  generalize hob : w3.heap.size = ob at *
  clear hob
  generalize (w3.alloc (.cells #[.int .i64 p, .slice A2 l.length c2, .slice B2 m.length d2] 63)) = w4 at *
  by_cases hg : isFB p l m = true
  · rw [hg] at HC
    have HI := Lib.hid (isFB_iff.1 hg)
    have HG := Lib.hid hg
    clear hg
    refine (HC.out _ HC3.out.f.f).mono ?_
    rintro e w5 ⟨rfl, hb⟩
    have HC5 := Lib.hid (HC3.out.below hb)
    clear hb HC3 HC
    obtain ⟨_, x0, y1, y2⟩ := HC5.out.f.x
    obtain ⟨o0, o1, o2, _, _, _⟩ := HC5.out.o.cells
    by_cases h0 : v < 0
    · have HM := Lib.hid (mov_bad (p := p) (l := l) (m := m) (v := v) (x := (x1, x2)) (fun h => by omega))
      obtain ⟨r0, r1, r2, e0, e1, e2⟩ := HC5.out.r.cells
      go_wp2_with fail
      obtain ⟨s0, s1, s2, hO, hB⟩ := HC5.out.ret
      refine bodyPost_ret (v := .tuple #[.agg #[.int .i64 p, .slice A2 l.length c2, .slice B2 m.length d2], .bool false]) ?_ rfl ⟨A2, c2, B2, d2, by rw [HM.out.1, HM.out.2], by rw [HM.out.2]; exact hO, hB⟩
      simp [results, Try.results61, go_sem, s0, s1, s2]
    · by_cases h1 : (m.length : Int) ≤ v
      · have HM := Lib.hid (mov_bad (p := p) (l := l) (m := m) (v := v) (x := (x1, x2)) (fun h => by have := HI.out.len; omega))
        obtain ⟨r0, r1, r2, e0, e1, e2⟩ := HC5.out.r.cells
        go_wp2_with fail
        obtain ⟨s0, s1, s2, hO, hB⟩ := HC5.out.ret
        refine bodyPost_ret (v := .tuple #[.agg #[.int .i64 p, .slice A2 l.length c2, .slice B2 m.length d2], .bool false]) ?_ rfl ⟨A2, c2, B2, d2, by rw [HM.out.1, HM.out.2], by rw [HM.out.2]; exact hO, hB⟩
        simp [results, Try.results61, go_sem, s0, s1, s2]
      · obtain ⟨k, rfl⟩ : ∃ k : Nat, v = k := ⟨v.toNat, by omega⟩
        have hk : k < m.length := by omega
        have hki : (k : Int) < (m.length : Int) := by omega
        have HV := Lib.hid (show isFB p l m = true ∧ 0 ≤ (k : Int) ∧ (k : Int) < p from ⟨HG.out, by omega, by have := HI.out.len; omega⟩)
        obtain ⟨g, rfl, ⟨hc1, hc2⟩, ⟨hf1, hf2⟩, hall, _⟩ := HC5.out.at hk
        have HW := Lib.hid (hall (x1, x2))
        obtain ⟨_, z0, z1⟩ := HC5.out.b
        clear hall HC5
        go_upto_region 5 with fail
        clear hc1 hc2 hf1 hf2 z0 z1 x0 y1 y2 o0 o1 o2
        generalize ((w5.setCell ⟨g, k * 2, none⟩ (.int .i64 x1)).setCell ⟨g, k * 2 + 1, none⟩ (.int .i64 x2)) = w6 at *
        obtain ⟨o0, o1, o2, _, _, _⟩ := HW.out.o.cells
        have HC2 := Lib.hid fun (W : World) (h : FwIn W (w.heap.size + 3) ob A2 l (some ⟨g, 0, none⟩) (m.set k (x1, x2))) => specIsF p l (m.set k (x1, x2)) A2 c2 (some ⟨g, 0, none⟩) d2 (w.heap.size + 3) ob W h (by rw [List.length_set]; exact hn)
        rw [List.length_set] at HC2
        go_wp2_with fail
        by_cases hv : isFB p l (m.set k (x1, x2)) = true
        · have HM := Lib.hid (mov_yes HV.out (show isFB p l (m.set (k : Int).toNat (x1, x2)) = true from hv))
          rw [hv] at HC2
          clear hv
          refine (HC2.out _ HW.out.own.reads).mono ?_
          rintro e w7 ⟨rfl, hb⟩
          have HW7 := Lib.hid (HW.out.below hb)
          clear hb HW HC2
          obtain ⟨o0, o1, o2, _, _, _⟩ := HW7.out.o.cells
          obtain ⟨r0, r1, r2, e0, e1, e2⟩ := HW7.out.r.cells
          go_wp2_with fail
          obtain ⟨s0, s1, s2, hO, hB⟩ := HW7.out.ret
          refine bodyPost_ret (v := .tuple #[.agg #[.int .i64 p, .slice A2 l.length c2, .slice (some ⟨g, 0, none⟩) m.length d2], .bool true]) ?_ rfl ⟨A2, c2, (some ⟨g, 0, none⟩), d2, by rw [HM.out.1, HM.out.2, List.length_set], by rw [HM.out.2]; exact hO, hB⟩
          simp [results, Try.results61, go_sem, s0, s1, s2]
        · have hvf : isFB p l (m.set k (x1, x2)) = false := by simpa using hv
          have HM := Lib.hid (mov_no (mov_at HV.out (show isFB p l (m.set (k : Int).toNat (x1, x2)) = false from hvf)))
          rw [hvf] at HC2
          clear hv hvf
          refine (HC2.out _ HW.out.own.reads).mono ?_
          rintro e w7 ⟨rfl, hb⟩
          have HW7 := Lib.hid (HW.out.below hb)
          clear hb HW HC2
          obtain ⟨_, x0, y1, y2⟩ := HW7.out.f.x
          go_wp2_with fail
          refine (HCP.out _ HW7.out.f.f).mono ?_
          rintro e w8 ⟨A3, c3, B3, d3, rfl, ho, hb⟩
          have HW8 := Lib.hid (HW7.out.below hb)
          have HO8 := Lib.hid (show OwnFw w8 (w.heap.size + 2 + 1) w8.heap.size A3 c3 l B3 d3 m from ho.widen (by have := HW7.out.o.lt; have := HW7.out.lt; omega) (Nat.le_refl _) (Nat.le_refl _))
          clear ho hb HW7
          obtain ⟨r0, r1, r2, e0, e1, e2⟩ := HW8.out.r.cells
          go_wp2_with fail
          obtain ⟨s0, s1, s2, hO, hB⟩ := fw_ret HW8.out.r HO8.out HW8.out.f.b (by omega) p
          refine bodyPost_ret (v := .tuple #[.agg #[.int .i64 p, .slice A3 l.length c3, .slice B3 m.length d3], .bool false]) ?_ rfl ⟨A3, c3, B3, d3, by rw [HM.out.1, HM.out.2], by rw [HM.out.2]; exact hO, hB⟩
          simp [results, Try.results61, go_sem, s0, s1, s2]
  · have hgf : isFB p l m = false := by simpa using hg
    rw [hgf] at HC
    have HM := Lib.hid (mov_bad (p := p) (l := l) (m := m) (v := v) (x := (x1, x2)) (fun h => hg h.1))
    clear hg hgf
    refine (HC.out _ HC3.out.f.f).mono ?_
    rintro e w5 ⟨rfl, hb⟩
    have HC5 := Lib.hid (HC3.out.below hb)
    clear hb HC3 HC
    obtain ⟨o0, o1, o2, _, _, _⟩ := HC5.out.o.cells
    obtain ⟨r0, r1, r2, e0, e1, e2⟩ := HC5.out.r.cells
    go_wp2_with fail
    obtain ⟨s0, s1, s2, hO, hB⟩ := HC5.out.ret
    refine bodyPost_ret (v := .tuple #[.agg #[.int .i64 p, .slice A2 l.length c2, .slice B2 m.length d2], .bool false]) ?_ rfl ⟨A2, c2, B2, d2, by rw [HM.out.1, HM.out.2], by rw [HM.out.2]; exact hO, hB⟩
    simp [results, Try.results61, go_sem, s0, s1, s2]
end Go.Proofs.Ytehendofgcebcaa
