/- What the program's MirrorFramework answers: the same as the specification's. No condition. -/
import Derived.Test.YtehendofgcebcaaChg
import Derived.Test.YtehendofgcebcaaIsFI
namespace Go.Proofs.Ytehendofgcebcaa
open Go.RowKit

set_option maxHeartbeats 4000000 in
set_option maxRecDepth 100000 in
theorem withPl_mirror (p : Int) (l m : List (Int × Int)) (A : Option Addr) (ca : Nat) (B : Option Addr) (cb : Nat) (lo hi : Nat) (w : World) (hl : FwIn w lo hi A l B m) (hn : l.length + m.length ≤ 1048576) :
    Calls Try.prog 112 #[.agg #[.int .i64 p, .slice A l.length ca, .slice B m.length cb], .func (.func 113) #[] #[]] w (FwO w p l (chgL mirF p l m)) := by
  have HC := Lib.hid fun (W : World) (h : FwIn W lo hi A l B m) => implIsF p l m A ca B cb lo hi W h hn
  have HCP := Lib.hid fun (W : World) (h : FwIn W lo hi A l B m) => fclone_c p l m A ca B cb lo hi W h hn
  have hhi := hl.b.1
  have hf := FbI.new (p := p) (ca := ca) (cb := cb) hl 63
  have hs1 : (w.alloc (.cells #[.int .i64 p, .slice A l.length ca, .slice B m.length cb] 63)).heap.size = w.heap.size + 1 := by simp
  clear hl
  go_enter Try.func112, Try.ntmps112
  go_wp2_with fail
  generalize (w.alloc (.cells #[.int .i64 p, .slice A l.length ca, .slice B m.length cb] 63)) = w1 at *
  have hr := cel3_new w1 (.int .i64 0) (.slice none 0 0) (.slice none 0 0) 63
  have hf2 := hf.below (new_below w1 (.cells #[.int .i64 0, .slice none 0 0, .slice none 0 0] 63))
  have hs2 : (w1.alloc (.cells #[.int .i64 0, .slice none 0 0, .slice none 0 0] 63)).heap.size = w1.heap.size + 1 := by simp
  rw [hs1] at hr hs2
  generalize (w1.alloc (.cells #[.int .i64 0, .slice none 0 0, .slice none 0 0] 63)) = w2 at *
  have HF2 := Lib.hid hf2
  have HR2 := Lib.hid hr
  have HS2 := Lib.hid hs2
  clear hf hf2 hr hs1 hs2
  refine (HCP.out _ HF2.out.f).mono ?_
  rintro e w3 ⟨A2, c2, B2, d2, rfl, ho, hb⟩
  have hc3 := ChI.new (HF2.out.below hb) (HR2.out.kept hb) (show OwnFw w3 (w.heap.size + 2) w3.heap.size A2 c2 l B2 d2 m by have := HS2.out; rwa [show w2.heap.size = w.heap.size + 2 by omega] at ho) hhi (by have := HS2.out; have := hb.size; omega)
  have HC3 := Lib.hid hc3
  obtain ⟨_, x0, x1, x2⟩ := HF2.out.x.kept hb
  clear hc3 ho hb HF2 HR2
  go_wp2_with fail
  clear x0 x1 x2
  generalize hob : w3.heap.size = ob at *
  clear hob
  generalize (w3.alloc (.cells #[.int .i64 p, .slice A2 l.length c2, .slice B2 m.length d2] 63)) = w4 at *
  by_cases hg : isFB p l m = true
  · rw [hg] at HC
    have HS := Lib.hid (chgL_yes (f := mirF) hg)
    have HI := Lib.hid (isFB_iff.1 hg)
    clear hg
    refine (HC.out _ HC3.out.f.f).mono ?_
    rintro e w5 ⟨rfl, hb⟩
    have HC5 := Lib.hid (HC3.out.below hb)
    obtain ⟨_, x0, x1, x2⟩ := HC5.out.f.x
    clear hb HC3 HC
    go_wp2_with fail
    clear x0 x1 x2
    go_loopw [17] (fun i wr => ∃ k : Nat, k ≤ m.length ∧ i = .int .i64 k ∧ ChI w wr ob lo hi p A ca l B cb m A2 c2 B2 d2 ((m.take k).map mirF ++ m.drop k)) (fun i _ => m.length - (intOf i).toNat)
    case atStart => exact ⟨0, by omega, rfl, HC5.out⟩
    case round =>
      clear HC5
      obtain ⟨k, hk, rfl, hc⟩ := hrel
      have HI3 := Lib.hid hc
      clear hc
      by_cases hlt : k < m.length
      · have hki : (k : Int) < (m.length : Int) := by omega
        obtain ⟨bb, ob', rfl, hbb, hcb⟩ := HI3.out.f.place hlt
        obtain ⟨hp1, hp2⟩ := hcb k hlt
        have hon := HI.out.grid k hlt
        have HSET := Lib.hid (chg_step mirF m k hlt)
        have HGET := Lib.hid (chg_get mirF m k hlt)
        clear hcb
        obtain ⟨x, hx⟩ : ∃ x, m.getD k (0, 0) = x := ⟨_, rfl⟩
        rw [hx] at hp1 hp2 hon HSET HGET
        clear hx
        have HM := Lib.hid fun (W : World) => mirror_c x W hon
        obtain ⟨x1, x2⟩ := x
        clear hon
        go_wp2_with fail
        clear hp1 hp2
        have hal := new_below wr (.cells #[.int .i64 x1, .int .i64 x2] 76)
        have HX4 := Lib.hid (box_new wr x1 (.int .i64 x2) 76)
        have HI4 := Lib.hid (HI3.out.below hal)
        have hlt4 := HI3.out.o.lt
        clear hal HI3
        generalize hpb : wr.heap.size = pb at *
        generalize (wr.alloc (.cells #[.int .i64 x1, .int .i64 x2] 76)) = w6 at *
        clear hpb
        have KK := Lib.hid (fun (W : World) (h : Below w6.heap.size w6 W) => (show W.cell? ⟨ob, 2, none⟩ = some (.slice B2 m.length d2) ∧ W.cell? ⟨pb, 0, none⟩ = some (.int .i64 x1) ∧ W.cell? ⟨pb, 1, none⟩ = some (.int .i64 x2) from
          ⟨(HI4.out.o.kept h).cells.2.2.1, (HX4.out.kept h).2.1, (HX4.out.kept h).2.2⟩))
        have HDR := Lib.hid (show Below w6.heap.size w6 w6.drew from (Below.refl _ _).drew)
        have HID := Lib.hid (HI4.out.below HDR.out)
        obtain ⟨g, rfl, _, _, _, _⟩ := HI4.out.at hlt
        go_wp2_with fail
        go_region_held3 (fun W' => W'.cell? ⟨ob, 2, none⟩ = some (.slice (some ⟨g, 0, none⟩) m.length d2) ∧ W'.cell? ⟨pb, 0, none⟩ = some (.int .i64 x1) ∧ W'.cell? ⟨pb, 1, none⟩ = some (.int .i64 x2))
          (first | exact KK.out _ HDR.out | exact KK.out _ HB7.out | exact ⟨HI8.out.o.cells.2.2.1, HX8.out.2.1, HX8.out.2.2⟩ | fail)
          (first
            | (go_at_call 113; refine (HM.out _).mono ?_; rintro e w7 ⟨rfl, hb⟩; have HB7 := Lib.hid (below_on HDR.out hb HDR.out.size); have HI7 := Lib.hid (HID.out.below hb); obtain ⟨g', hge, ⟨hc1, hc2⟩, ⟨hf1, hf2⟩, hall, _⟩ := HI7.out.at hlt; injection hge with hge; injection hge with hge; subst hge; have hall' := hall (4 - x1, x2); rw [show ((m.take k).map mirF ++ m.drop k).set k (4 - x1, x2) = (m.take (k + 1)).map mirF ++ m.drop (k + 1) from HSET.out] at hall'; have HI8 := Lib.hid hall'; have HX8 := Lib.hid ((HX4.out.kept HB7.out).within ((within_set w7 g (k * 2) (.int .i64 (4 - x1))).trans (within_set _ g (k * 2 + 1) (.int .i64 x2))) (gpb HID.out hlt4 hlt)); clear hb hall hall')
            | fail)
        go_wp2_with fail
        go_roundw
        case rel => exact ⟨k + 1, by omega, by go_num, HI8.out⟩
        case measure => simp [intOf]; omega
      · obtain rfl : k = m.length := by omega
        have hms : (m.take m.length).map mirF ++ m.drop m.length = m.map mirF := by rw [List.take_length, List.drop_length, List.append_nil]
        rw [hms] at HI3
        obtain ⟨r0, r1, r2, e0, e1, e2⟩ := HI3.out.r.cells
        obtain ⟨o0, o1, o2, _, _, _⟩ := HI3.out.o.cells
        go_wp2_with fail
        obtain ⟨s0, s1, s2, hO, hB⟩ := HI3.out.ret
        refine bodyPost_ret (v := .agg #[.int .i64 p, .slice A2 l.length c2, .slice B2 m.length d2]) ?_ rfl ⟨A2, c2, B2, d2, by rw [HS.out, List.length_map], by rw [HS.out]; exact hO, hB⟩
        simp [results, Try.results112, go_sem, s0, s1, s2]
  · have hgf : isFB p l m = false := by simpa using hg
    rw [hgf] at HC
    have HS := Lib.hid (chgL_no (f := mirF) hgf)
    clear hg hgf
    refine (HC.out _ HC3.out.f.f).mono ?_
    rintro e w5 ⟨rfl, hb⟩
    have HI3 := Lib.hid (HC3.out.below hb)
    clear hb HC3
    obtain ⟨r0, r1, r2, e0, e1, e2⟩ := HI3.out.r.cells
    obtain ⟨o0, o1, o2, _, _, _⟩ := HI3.out.o.cells
    go_wp2_with fail
    obtain ⟨s0, s1, s2, hO, hB⟩ := HI3.out.ret
    refine bodyPost_ret (v := .agg #[.int .i64 p, .slice A2 l.length c2, .slice B2 m.length d2]) ?_ rfl ⟨A2, c2, B2, d2, by rw [HS.out], by rw [HS.out]; exact hO, hB⟩
    simp [results, Try.results112, go_sem, s0, s1, s2]

set_option maxHeartbeats 4000000 in
set_option maxRecDepth 100000 in
theorem implMir (p : Int) (l m : List (Int × Int)) (A : Option Addr) (ca : Nat) (B : Option Addr) (cb : Nat) (lo hi : Nat) (w : World) (hl : FwIn w lo hi A l B m) (hn : l.length + m.length ≤ 1048576) :
    Calls Try.prog 57 #[.agg #[.int .i64 p, .slice A l.length ca, .slice B m.length cb]] w (FwO w p l (chgL mirF p l m)) := by
  have HW := Lib.hid fun (W : World) (h : FwIn W lo hi A l B m) => withPl_mirror p l m A ca B cb lo hi W h hn
  have hhi := hl.b.1
  have hf := FbI.new (p := p) (ca := ca) (cb := cb) hl 63
  have hs1 : (w.alloc (.cells #[.int .i64 p, .slice A l.length ca, .slice B m.length cb] 63)).heap.size = w.heap.size + 1 := by simp
  clear hl hhi
  go_enter Try.func57, Try.ntmps57
  go_wp2_with fail
  generalize (w.alloc (.cells #[.int .i64 p, .slice A l.length ca, .slice B m.length cb] 63)) = w1 at *
  have hr := cel3_new w1 (.int .i64 0) (.slice none 0 0) (.slice none 0 0) 63
  have hf2 := hf.below (new_below w1 (.cells #[.int .i64 0, .slice none 0 0, .slice none 0 0] 63))
  have hs2 : (w1.alloc (.cells #[.int .i64 0, .slice none 0 0, .slice none 0 0] 63)).heap.size = w1.heap.size + 1 := by simp
  rw [hs1] at hr hs2
  generalize (w1.alloc (.cells #[.int .i64 0, .slice none 0 0, .slice none 0 0] 63)) = w2 at *
  have HF2 := Lib.hid hf2
  have HR2 := Lib.hid hr
  have HS2 := Lib.hid hs2
  clear hf hf2 hr hs1 hs2
  have HCL := Lib.hid (chgL_len mirF p l m)
  obtain ⟨ms, hms⟩ : ∃ ms, chgL mirF p l m = ms := ⟨_, rfl⟩
  rw [hms] at HW HCL
  have HMS := Lib.hid hms
  clear hms
  refine (HW.out _ HF2.out.f).mono ?_
  rintro e w3 ⟨A2, c2, B2, d2, rfl, ho, hb⟩
  have HF3 := Lib.hid (HF2.out.below hb)
  have HR3 := Lib.hid (HR2.out.kept hb)
  have HO3 := Lib.hid (show OwnFw w3 (w.heap.size + 1 + 1) w3.heap.size A2 c2 l B2 d2 ms by have := HS2.out; rwa [this] at ho)
  clear ho hb HF2 HR2
  obtain ⟨r0, r1, r2, e0, e1, e2⟩ := HR3.out.cells
  go_wp2_with fail
  obtain ⟨c0, c1, c2', hO, hB⟩ := fw_ret HR3.out HO3.out HF3.out.b (by omega) p
  refine bodyPost_ret (v := .agg #[.int .i64 p, .slice A2 l.length c2, .slice B2 ms.length d2]) ?_ rfl ⟨A2, c2, B2, d2, by rw [HMS.out], by rw [HMS.out]; exact hO, hB⟩
  simp [results, Try.results57, go_sem, c0, c1, c2']
end Go.Proofs.Ytehendofgcebcaa
