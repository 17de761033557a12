/- What spec.l2Copy answers: a copy of the call's own. No condition. -/
import Derived.Test.YtdkpmaahinbhlaaFzB1
namespace Go.Proofs.Ytdkpmaahinbhlaa
open Go.RowKit

set_option maxHeartbeats 2000000 in
set_option maxRecDepth 100000 in
theorem copy_c (p : Int) (l : List (Int × Int)) (a : Addr) (cap : Nat) (w : World) (hl : BarsAt w w.heap.size (some a) l) (hn : l.length ≤ 1048576) :
    Calls Try.prog 164 #[.agg #[.int .i64 p, .slice (some a) l.length cap]] w (GraphO w p l) := by
  obtain ⟨i0, hi0, hz0, hz1, hz2⟩ := info_parts infoBar
  have hA1 := new_below w (.cells #[.int .i64 p, .slice (some a) l.length cap] 26)
  have hA2 := new_below (w.alloc (.cells #[.int .i64 p, .slice (some a) l.length cap] 26)) (.cells #[.int .i64 0, .slice none 0 0] 26)
  have hA := below_on hA1 hA2 hA1.size
  have hsz1 : (w.alloc (.cells #[.int .i64 p, .slice (some a) l.length cap] 26)).heap.size = w.heap.size + 1 := by simp
  have hsz2 : ((w.alloc (.cells #[.int .i64 p, .slice (some a) l.length cap] 26)).alloc (.cells #[.int .i64 0, .slice none 0 0] 26)).heap.size = w.heap.size + 2 := by simp
  have hX := (box_new w p (.slice (some a) l.length cap) 26).kept hA2
  have hR := box_new (w.alloc (.cells #[.int .i64 p, .slice (some a) l.length cap] 26)) 0 (.slice none 0 0) 26
  have hF : ((w.alloc (.cells #[.int .i64 p, .slice (some a) l.length cap] 26)).alloc (.cells #[.int .i64 0, .slice none 0 0] 26)).frozen? ⟨(w.alloc (.cells #[.int .i64 p, .slice (some a) l.length cap] 26)).heap.size, 0, none⟩ = false ∧ ((w.alloc (.cells #[.int .i64 p, .slice (some a) l.length cap] 26)).alloc (.cells #[.int .i64 0, .slice none 0 0] 26)).frozen? ⟨(w.alloc (.cells #[.int .i64 p, .slice (some a) l.length cap] 26)).heap.size, 1, none⟩ = false := ⟨World.frozen?_alloc_at _ _ _ _ rfl, World.frozen?_alloc_at _ _ _ _ rfl⟩
  rw [hsz1] at hR hF
  have HLA := Lib.hid (hl.on hA)
  go_enter Try.func164, Try.ntmps164
  go_wp2_with fail
  generalize ((w.alloc (.cells #[.int .i64 p, .slice (some a) l.length cap] 26)).alloc (.cells #[.int .i64 0, .slice none 0 0] 26)) = w1 at *
  have hal := new_below w1 (.cells #[] 108)
  have HM := Lib.hid (World.ownsRow_made (base := w1.heap.size) (e := 108) (size := 2) w1 #[] 0 (Nat.le_refl _) (by unfold maxLen; omega) (by simp))
  have HC := Lib.hid (show ∀ j u, (barCells l)[j]? = some u → ((w1.alloc (.cells #[] 108)).drew).cell? (a.add j) = some u from fun j u hj => by
    have hlt : j < l.length * 2 := by
      have := (List.getElem?_eq_some_iff.1 hj).1
      rwa [barCells_len] at this
    obtain ⟨b, off, e, hb, hc⟩ := HLA.out (by omega)
    cases e
    have hadd : (⟨b, off, none⟩ : Addr).add j = ⟨b, off + j, none⟩ := by unfold Addr.add; split <;> simp_all
    rw [hadd]
    exact (hal.cell (p := ⟨b, off + j, none⟩) hb).trans (barCells_at hc j u hj))
  have HAD := Lib.hid (below_on hA hal hA.size)
  have HXD := Lib.hid (hX.kept hal)
  have HRD := Lib.hid (hR.kept hal)
  have HFD := Lib.hid (show (w1.alloc (.cells #[] 108)).frozen? ⟨w.heap.size + 1, 0, none⟩ = false ∧ (w1.alloc (.cells #[] 108)).frozen? ⟨w.heap.size + 1, 1, none⟩ = false from ⟨(hal.frozen (p := ⟨w.heap.size + 1, 0, none⟩) hR.1).trans hF.1, (hal.frozen (p := ⟨w.heap.size + 1, 1, none⟩) hR.1).trans hF.2⟩)
  obtain ⟨_, x0, x1⟩ := hX
  have HSZ := Lib.hid hsz2
  clear hl hA1 hA2 hA hsz1 hsz2 hR hF hal
  go_region_law (refine step_own (by rfl) _ _ _ (by rfl) w1.heap.size 108 i0 _ 2 16 Try.underlying24 hi0 hz0 hz1 hz2 rfl (by omega) _ 0 [] (by rfl) HM.out.drew a l.length cap (barCells l) (by rfl) (barCells_len l) HC.out (barCells_one l) (by unfold maxLen; omega) (by omega) (by simp) ?_; intro v' w3 ho hg; rw [Nat.zero_add, List.nil_append] at ho; obtain ⟨A2, c2, rfl⟩ := own_shape ho; have hb : Below w1.heap.size (w1.alloc (.cells #[] 108)) w3 := ((Below.refl _ _).drew).grown hg (by simp) (fun k hk => by cases hk; exact Nat.le_refl _); have hlt : w.heap.size + 1 < w1.heap.size := (by have := HSZ.out; omega); have y0 := (hb.cell (p := ⟨w.heap.size, 0, none⟩) (show w.heap.size < w1.heap.size by omega)).trans HXD.out.2.1; have z0 := (hb.cell (p := ⟨w.heap.size + 1, 0, none⟩) hlt).trans HRD.out.2.1; have z1 := (hb.cell (p := ⟨w.heap.size + 1, 1, none⟩) hlt).trans HRD.out.2.2; have f0 := (hb.frozen (p := ⟨w.heap.size + 1, 0, none⟩) hlt).trans HFD.out.1; have f1 := (hb.frozen (p := ⟨w.heap.size + 1, 1, none⟩) hlt).trans HFD.out.2; have HO := Lib.hid ho; have HB := Lib.hid (HAD.out.trans (hb.mono (by omega))); have HZ := Lib.hid (And.intro z0 z1); have HLT := Lib.hid hlt; clear ho hb hg hlt)
  all_goals
    go_wp2_with fail
    obtain ⟨s0, s1⟩ := ret_cells (p := p) (v := .slice A2 l.length c2) HZ.out.1 HZ.out.2
    obtain ⟨r1, r2⟩ := row_ret HO.out HB.out (r := w.heap.size + 1) (by omega) HLT.out (.int .i64 p) (.slice A2 l.length c2)
    refine bodyPost_ret (v := .agg #[.int .i64 p, .slice A2 l.length c2]) ?_ rfl ⟨A2, c2, rfl, ?_, ?_⟩
    · simp [results, Try.results164, go_sem, s0, s1]
    · first | exact r1 | exact r1.drew
    · first | exact r2 | exact r2.drew
end Go.Proofs.Ytdkpmaahinbhlaa
