/- What impl.Graph.freed answers: a graph without a point's bars. No condition. -/
import Derived.Test.YtdkpmaahinbhlaaFzFreD
import Derived.Test.YtdkpmaahinbhlaaFzCopy
import Derived.Test.YtdkpmaahinbhlaaFzJoin
namespace Go.Proofs.Ytdkpmaahinbhlaa
open Go.RowKit

set_option maxHeartbeats 8000000 in
set_option maxRecDepth 100000 in
theorem freed_c (p v : Int) (l : List (Int × Int)) (A : Option Addr) (cap : Nat) (w : World) (hl : BarsAt w w.heap.size A l) (hn : l.length ≤ 1048576) (h0 : 0 < l.length) :
    Calls Try.prog 210 #[.agg #[.int .i64 p, .slice A l.length cap], .int .i64 v] w (GraphO w p (offI v l)) := by
  have hA1 := new_below w (.cells #[.int .i64 p, .slice A l.length cap] 26)
  have hA2 := new_below (w.alloc (.cells #[.int .i64 p, .slice A l.length cap] 26)) (.cells #[.int .i64 v] 3)
  have hA3 := new_below ((w.alloc (.cells #[.int .i64 p, .slice A l.length cap] 26)).alloc (.cells #[.int .i64 v] 3)) (.cells #[.int .i64 0, .slice none 0 0] 26)
  have e1 : (w.alloc (.cells #[.int .i64 p, .slice A l.length cap] 26)).heap.size = w.heap.size + 1 := by simp
  have e2 : ((w.alloc (.cells #[.int .i64 p, .slice A l.length cap] 26)).alloc (.cells #[.int .i64 v] 3)).heap.size = w.heap.size + 2 := by simp
  have e3 : (((w.alloc (.cells #[.int .i64 p, .slice A l.length cap] 26)).alloc (.cells #[.int .i64 v] 3)).alloc (.cells #[.int .i64 0, .slice none 0 0] 26)).heap.size = w.heap.size + 3 := by simp
  have HA := Lib.hid (below_on (below_on hA1 hA2 hA1.size) hA3 (below_on hA1 hA2 hA1.size).size)
  have HL := Lib.hid (((hl.on hA1).on hA2).on hA3)
  have hv : ((w.alloc (.cells #[.int .i64 p, .slice A l.length cap] 26)).alloc (.cells #[.int .i64 v] 3)).cell? ⟨w.heap.size + 1, 0, none⟩ = some (.int .i64 v) := by
    rw [← e1, World.cell?_alloc_at _ _ _ _ rfl]; rfl
  have HV := Lib.hid ((hA3.cell (p := ⟨w.heap.size + 1, 0, none⟩) (by rw [e2]; show w.heap.size + 1 < w.heap.size + 2; omega)).trans hv)
  have hr := cel2_new ((w.alloc (.cells #[.int .i64 p, .slice A l.length cap] 26)).alloc (.cells #[.int .i64 v] 3)) (.int .i64 0) (.slice none 0 0) 26
  rw [e2] at hr
  have HR := Lib.hid hr
  have HGR := Lib.hid (((cel2_new w (.int .i64 p) (.slice A l.length cap) 26).kept hA2).kept hA3)
  have HS := Lib.hid e3
  clear hl hA1 hA2 hA3 e1 e2 e3 hv hr
  go_enter Try.func210, Try.ntmps210
  go_wp2_with (go_at_call 239; refine (clone_c p l A cap _ HL.out hn).mono ?_; rintro e w3 ⟨Ac, cc, rfl, ho, hb⟩; have HB3 := Lib.hid hb; have HO3 := Lib.hid ho; clear ho hb)
  obtain ⟨gA, rfl, hge, hgl, hown⟩ : ∃ g, Ac = some ⟨g, 0, none⟩ ∧ _ := by
    rcases HO3.out.2 with h | h
    · rw [h] at h0; simp at h0
    · exact h
  rw [HS.out] at hge hown
  have hcap : l.length ≤ cc ∧ cc ≤ 9223372036854775807 := by
    rcases hown.2 with ⟨h1, _⟩ | ⟨g', cap', cur, h1, _, _, h4, h5, _⟩
    · cases h1
    · cases h1; exact ⟨h4, by unfold maxLen at h5; omega⟩
  have hs3 := HB3.out.size
  rw [HS.out] at hs3
  have hb4 := new_below w3 (.cells #[.int .i64 p, .slice (some ⟨gA, 0, none⟩) l.length cc] 26)
  have hz4 : (w3.alloc (.cells #[.int .i64 p, .slice (some ⟨gA, 0, none⟩) l.length cc] 26)).heap.size = w3.heap.size + 1 := by simp
  have HX4 := Lib.hid (cel2_new w3 (.int .i64 p) (.slice (some ⟨gA, 0, none⟩) l.length cc) 26)
  have HV4 := Lib.hid ((hb4.cell (p := ⟨w.heap.size + 1, 0, none⟩) (by show w.heap.size + 1 < w3.heap.size; omega)).trans ((HB3.out.cell (p := ⟨w.heap.size + 1, 0, none⟩) (by rw [HS.out]; show w.heap.size + 1 < w.heap.size + 3; omega)).trans HV.out))
  have HR4 := Lib.hid ((HR.out.kept HB3.out).kept hb4)
  have HB4 := Lib.hid (below_on HB3.out hb4 HB3.out.size)
  have HO4 := Lib.hid (own_block hown (hb4.block gA hgl))
  have HGE := Lib.hid (And.intro hge hgl)
  clear hown hb4
  refine (delFB_c v l gA cc (w.heap.size + 1) (w.heap.size + 3) _ HO4.out HV4.out (by omega) (by omega) hn hcap.1 hcap.2).mono ?_
  rintro e w5 ⟨rfl, ho5, hw5⟩
  have HX5 := Lib.hid (HX4.out.within hw5 (.inr (by omega)))
  have HR5 := Lib.hid (HR4.out.within hw5 (.inl (by omega)))
  have HO5 := Lib.hid ho5
  have HB5 := Lib.hid (show Below w.heap.size w w5 from within_on (below_on HA.out HB4.out (HA.out.size)) hw5 (below_on HA.out HB4.out HA.out.size).size (.inl (by omega)))
  have HZ5 := Lib.hid hw5.size
  obtain ⟨q0, q1, q2, q3⟩ := HX5.out.cells
  obtain ⟨r0, r1, r2, r3⟩ := HR5.out.cells
  clear ho5 hw5 hcap
  go_wp2_with fail
  have hw6 := within_set w5 w3.heap.size 1 (.slice (some ⟨gA, 0, none⟩) (offI v l).length cc)
  have hr6 := HR5.out.within hw6 (.inl (by omega))
  obtain ⟨hx, hw7⟩ := ret2 hr6 (.int .i64 p) (.slice (some ⟨gA, 0, none⟩) (offI v l).length cc)
  obtain ⟨s0, s1, _, _⟩ := hx.cells
  have hz := HGE.out
  have hg5 : gA < w5.heap.size := Nat.lt_of_lt_of_le (by omega) HZ5.out
  have ho6 := own_block HO5.out (hw6.block gA hg5 (by omega))
  have ho7 := own_block ho6 (hw7.block gA (Nat.lt_of_lt_of_le hg5 hw6.size) (by omega))
  have hb6 := within_on HB5.out hw6 HB5.out.size (.inl (by omega))
  have hb7 := within_on hb6 hw7 hb6.size (.inl (by omega))
  refine bodyPost_ret (v := .agg #[.int .i64 p, .slice (some ⟨gA, 0, none⟩) (offI v l).length cc]) ?_ rfl ⟨some ⟨gA, 0, none⟩, cc, rfl, ⟨Nat.le_refl _, .inr ⟨gA, rfl, by omega, Nat.lt_of_lt_of_le (Nat.lt_of_lt_of_le hg5 hw6.size) hw7.size, own_base ho7 (by omega)⟩⟩, hb7⟩
  simp [results, Try.results210, go_sem, s0, s1]
end Go.Proofs.Ytdkpmaahinbhlaa
