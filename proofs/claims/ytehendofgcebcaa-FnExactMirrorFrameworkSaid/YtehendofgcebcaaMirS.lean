/- What spec.MirrorFramework answers. No condition. -/
import Derived.Test.YtehendofgcebcaaChg
import Derived.Test.YtehendofgcebcaaIsFS
import Derived.StillTailTactics
namespace Go.Proofs.Ytehendofgcebcaa
open Go.RowKit

set_option maxHeartbeats 4000000 in
set_option maxRecDepth 100000 in
theorem specMir (p : Int) (l m : List (Int × Int)) (A : Addr) (ca : Nat) (B : Addr) (cb : Nat) (lo hi : Nat) (w : World) (hl : FwIn w lo hi (some A) l (some B) m) (hn : l.length + m.length ≤ 1048576) :
    Calls Try.prog 56 #[.agg #[.int .i64 p, .slice (some A) l.length ca, .slice (some B) m.length cb]] w (FwO w p l (chgL mirF p l m)) := by
  have hhi := hl.b.1
  have HC := Lib.hid fun (W : World) (h : FwIn W lo hi (some A) l (some B) m) => specIsF p l m (some A) ca (some B) cb lo hi W h hn
  have HCP := Lib.hid fun (W : World) (h : FwIn W lo hi (some A) l (some B) m) => fcopy_c p l m A ca B cb lo hi W h hn
  have hf := FbI.new (p := p) (ca := ca) (cb := cb) hl 63
  have hs1 : (w.alloc (.cells #[.int .i64 p, .slice (some A) l.length ca, .slice (some B) m.length cb] 63)).heap.size = w.heap.size + 1 := by simp
  clear hl
  go_enter Try.func56, Try.ntmps56
  go_wp2_with fail
  generalize (w.alloc (.cells #[.int .i64 p, .slice (some A) l.length ca, .slice (some B) m.length cb] 63)) = w1 at *
  have hr := cel3_new w1 (.int .i64 0) (.slice none 0 0) (.slice none 0 0) 63
  have hf2 := hf.below (new_below w1 (.cells #[.int .i64 0, .slice none 0 0, .slice none 0 0] 63))
  have hs2 : (w1.alloc (.cells #[.int .i64 0, .slice none 0 0, .slice none 0 0] 63)).heap.size = w1.heap.size + 1 := by simp
  rw [hs1] at hr hs2
  generalize (w1.alloc (.cells #[.int .i64 0, .slice none 0 0, .slice none 0 0] 63)) = w2 at *
  have HF2 := Lib.hid hf2
  have HR2 := Lib.hid hr
  have HS2 := Lib.hid hs2
  clear hf hf2 hr hs1 hs2
  refine (HCP.out _ HF2.out.f).mono ?_
  rintro e w3 ⟨A2, c2, B2, d2, rfl, ho, hb⟩
  have hc3 := ChI.new (HF2.out.below hb) (HR2.out.kept hb) (show OwnFw w3 (w.heap.size + 2) w3.heap.size A2 c2 l B2 d2 m by have := HS2.out; rwa [show w2.heap.size = w.heap.size + 2 by omega] at ho) hhi (by have := HS2.out; have := hb.size; omega)
  have HC3 := Lib.hid hc3
  clear hc3 ho hb HF2 HR2
  go_wp2_with fail
  generalize hob : w3.heap.size = ob at *
  clear hob
  generalize (w3.alloc (.cells #[.int .i64 p, .slice A2 l.length c2, .slice B2 m.length d2] 63)) = w4 at *
  by_cases hg : isFB p l m = true
  · rw [hg] at HC
    have HS := Lib.hid (chgL_yes (f := mirF) hg)
    have HI := Lib.hid (isFB_iff.1 hg)
    clear hg
    go_loopw [4] (fun i wr => ∃ k : Nat, k ≤ m.length ∧ i = .int .i64 k ∧ ChI w wr ob lo hi p (some A) ca l (some B) cb m A2 c2 B2 d2 ((m.take k).map mirF ++ m.drop k)) (fun i _ => m.length - (intOf i).toNat)
    case atStart => exact ⟨0, by omega, rfl, HC3.out⟩
    case round =>
      clear HC3
      obtain ⟨k, hk, rfl, hc⟩ := hrel
      have HI3 := Lib.hid hc
      clear hc
      obtain ⟨_, x0, x1, x2⟩ := HI3.out.f.x
      obtain ⟨o0, o1, o2, _, _, _⟩ := HI3.out.o.cells
      by_cases hlt : k < m.length
      · have hki : (k : Int) < (m.length : Int) := by omega
        go_wp2_with fail
        refine (HC.out _ HI3.out.f.f).mono ?_
        rintro e w5 ⟨rfl, hb⟩
        have HI5 := Lib.hid (HI3.out.below hb)
        clear hb HI3 x0 x1 x2 o0 o1 o2
        obtain ⟨g, rfl, ⟨hc1, hc2⟩, ⟨hf1, hf2⟩, hall, hone⟩ := HI5.out.at hlt
        obtain ⟨bb, ob', hBe, hbb, hcb⟩ := HI5.out.f.place hlt
        cases hBe
        obtain ⟨hp1, hp2⟩ := hcb k hlt
        have hon := HI.out.grid k hlt
        have hget := chg_get mirF m k hlt
        have hset := chg_step mirF m k hlt
        rw [hget] at hc1 hc2 hone
        have HALL := Lib.hid hall
        have HONE := Lib.hid hone
        have HSET := Lib.hid hset
        clear hall hone hset hget hcb
        obtain ⟨x, hx⟩ : ∃ x, m.getD k (0, 0) = x := ⟨_, rfl⟩
        rw [hx] at hc1 hc2 hp1 hp2 hon HSET HONE
        clear hx
        obtain ⟨x1, x2⟩ := x
        obtain ⟨⟨n1, n2⟩, n3, n4⟩ := hon
        simp only at n1 n2 n3 n4 hc1 hc2 hp1 hp2
        obtain ⟨_, y0, y1, y2⟩ := HI5.out.f.x
        obtain ⟨o0, o1, o2, _, _, _⟩ := HI5.out.o.cells
        go_wp2_with fail
        go_still_tail 10, (by kernel_rfl)
        change wpList _ _ _ _ _ w5.drew
        have HD := Lib.hid (show ChI w ((w5.setCell ⟨g, k * 2, none⟩ (.int .i64 (4 - x1))).drew) ob lo hi p (some A) ca l (some ⟨bb, ob', none⟩) cb m A2 c2 (some ⟨g, 0, none⟩) d2 ((m.take (k + 1)).map mirF ++ m.drop (k + 1)) by
          have := HONE.out (4 - x1)
          rw [show ((m.take k).map mirF ++ m.drop k).set k (4 - x1, x2) = (m.take (k + 1)).map mirF ++ m.drop (k + 1) from HSET.out] at this
          exact this.below (show Below _ _ _ from (Below.refl _ _).drew))
        go_wp2_with fail
        go_roundw
        case rel => exact ⟨k + 1, by omega, by go_num, HD.out⟩
        case measure => simp [intOf]; omega
      · obtain rfl : k = m.length := by omega
        have hms : (m.take m.length).map mirF ++ m.drop m.length = m.map mirF := by rw [List.take_length, List.drop_length, List.append_nil]
        rw [hms] at HI3
        obtain ⟨r0, r1, r2, e0, e1, e2⟩ := HI3.out.r.cells
        go_wp2_with fail
        obtain ⟨s0, s1, s2, hO, hB⟩ := HI3.out.ret
        refine bodyPost_ret (v := .agg #[.int .i64 p, .slice A2 l.length c2, .slice B2 m.length d2]) ?_ rfl ⟨A2, c2, B2, d2, by rw [HS.out, List.length_map], by rw [HS.out]; exact hO, hB⟩
        simp [results, Try.results56, go_sem, s0, s1, s2]
  · have hgf : isFB p l m = false := by simpa using hg
    rw [hgf] at HC
    have HS := Lib.hid (chgL_no (f := mirF) hgf)
    clear hg hgf
    go_loopw [4] (fun i wr => i = .int .i64 0 ∧ ChI w wr ob lo hi p (some A) ca l (some B) cb m A2 c2 B2 d2 m) (fun _ _ => 0)
    case atStart => exact ⟨rfl, HC3.out⟩
    case round =>
      clear HC3
      obtain ⟨rfl, hc⟩ := hrel
      have HI3 := Lib.hid hc
      clear hc
      obtain ⟨_, x0, x1, x2⟩ := HI3.out.f.x
      obtain ⟨o0, o1, o2, _, _, _⟩ := HI3.out.o.cells
      by_cases h0 : 0 < m.length
      · go_wp2_with fail
        refine (HC.out _ HI3.out.f.f).mono ?_
        rintro e w5 ⟨rfl, hb⟩
        have HI5 := Lib.hid (HI3.out.below hb)
        clear hb HI3 x0 x1 x2 o0 o1 o2
        obtain ⟨o0, o1, o2, _, _, _⟩ := HI5.out.o.cells
        obtain ⟨r0, r1, r2, e0, e1, e2⟩ := HI5.out.r.cells
        go_wp2_with fail
        obtain ⟨s0, s1, s2, hO, hB⟩ := HI5.out.ret
        refine bodyPost_ret (v := .agg #[.int .i64 p, .slice A2 l.length c2, .slice B2 m.length d2]) ?_ rfl ⟨A2, c2, B2, d2, by rw [HS.out], by rw [HS.out]; exact hO, hB⟩
        simp [results, Try.results56, go_sem, s0, s1, s2]
      · obtain ⟨r0, r1, r2, e0, e1, e2⟩ := HI3.out.r.cells
        go_wp2_with fail
        obtain ⟨s0, s1, s2, hO, hB⟩ := HI3.out.ret
        refine bodyPost_ret (v := .agg #[.int .i64 p, .slice A2 l.length c2, .slice B2 m.length d2]) ?_ rfl ⟨A2, c2, B2, d2, by rw [HS.out], by rw [HS.out]; exact hO, hB⟩
        simp [results, Try.results56, go_sem, s0, s1, s2]
end Go.Proofs.Ytehendofgcebcaa
