/- What spec.l7Drop answers: a graph without a point's bars. No condition. -/
import Derived.Test.YtdkpmaahinbhlaaFzB2
import Derived.Test.YtdkpmaahinbhlaaFzB3
namespace Go.Proofs.Ytdkpmaahinbhlaa
open Go.RowKit

def offI (v : Int) (l : List (Int × Int)) : List (Int × Int) := l.filter fun x => !endB v x
theorem offI_len (v : Int) (l : List (Int × Int)) : (offI v l).length ≤ l.length := List.length_filter_le _ _
theorem offI_succ (v : Int) (l : List (Int × Int)) (j : Nat) (hj : j < l.length) : offI v (l.take (j + 1)) = offI v (l.take j) ++ if (!endB v (l.getD j (0, 0))) = true then [l.getD j (0, 0)] else [] := by
  have h : l.take (j + 1) = l.take j ++ [l.getD j (0, 0)] := by
    rw [List.take_succ_eq_append_getElem hj]
    simp [List.getD, List.getElem?_eq_getElem hj]
  unfold offI
  rw [h, List.filter_append]
  generalize l.getD j (0, 0) = y
  rw [List.filter_cons, List.filter_nil]

set_option maxHeartbeats 4000000 in
set_option maxRecDepth 100000 in
theorem drop_c (p v : Int) (l : List (Int × Int)) (A : Option Addr) (cap : Nat) (w : World) (hl : BarsAt w w.heap.size A l) (hn : l.length ≤ 1048576) :
    Calls Try.prog 205 #[.agg #[.int .i64 p, .slice A l.length cap], .int .i64 v] w (GraphO w p (offI v l)) := by
  have hA1 := new_below w (.cells #[.int .i64 p, .slice A l.length cap] 26)
  have hA2 := new_below (w.alloc (.cells #[.int .i64 p, .slice A l.length cap] 26)) (.cells #[.int .i64 0, .slice none 0 0] 26)
  have hsz1 : (w.alloc (.cells #[.int .i64 p, .slice A l.length cap] 26)).heap.size = w.heap.size + 1 := by simp
  have hsz2 : ((w.alloc (.cells #[.int .i64 p, .slice A l.length cap] 26)).alloc (.cells #[.int .i64 0, .slice none 0 0] 26)).heap.size = w.heap.size + 2 := by simp
  have HA := Lib.hid (below_on hA1 hA2 hA1.size)
  have HLW := Lib.hid hl
  have BX := Lib.hid ((box_new w p (.slice A l.length cap) 26).kept hA2)
  have hR := box_new (w.alloc (.cells #[.int .i64 p, .slice A l.length cap] 26)) 0 (.slice none 0 0) 26
  have hF : ((w.alloc (.cells #[.int .i64 p, .slice A l.length cap] 26)).alloc (.cells #[.int .i64 0, .slice none 0 0] 26)).frozen? ⟨(w.alloc (.cells #[.int .i64 p, .slice A l.length cap] 26)).heap.size, 0, none⟩ = false ∧ ((w.alloc (.cells #[.int .i64 p, .slice A l.length cap] 26)).alloc (.cells #[.int .i64 0, .slice none 0 0] 26)).frozen? ⟨(w.alloc (.cells #[.int .i64 p, .slice A l.length cap] 26)).heap.size, 1, none⟩ = false := ⟨World.frozen?_alloc_at _ _ _ _ rfl, World.frozen?_alloc_at _ _ _ _ rfl⟩
  rw [hsz1] at hR hF
  have HR := Lib.hid hR
  have HF := Lib.hid hF
  have hG := gbox_made ((w.alloc (.cells #[.int .i64 p, .slice A l.length cap] 26)).alloc (.cells #[.int .i64 0, .slice none 0 0] 26)) w.heap.size [w.heap.size, w.heap.size + 1] p (by rw [hsz2]; omega) (fun o ho => by rw [hsz2]; simp at ho; omega)
  rw [hsz2] at hG
  have HG := Lib.hid hG
  clear hl hA1 hA2 hsz1 hR hF hG
  go_enter Try.func205, Try.ntmps205
  go_wp2_with fail
  have HSZ2 := Lib.hid hsz2
  clear hsz2
  generalize ((((w.alloc (.cells #[.int .i64 p, .slice A l.length cap] 26)).alloc (.cells #[.int .i64 0, .slice none 0 0] 26)).alloc (.cells #[] 108)).alloc (.cells #[.int .i64 p, .slice (some ⟨w.heap.size + 2, 0, none⟩) 0 0] 26)) = w1 at *
  generalize ((w.alloc (.cells #[.int .i64 p, .slice A l.length cap] 26)).alloc (.cells #[.int .i64 0, .slice none 0 0] 26)) = w0 at *
  go_loopw [6] (fun i wr => ∃ k : Nat, k ≤ l.length ∧ i = .int .i64 k ∧ ∃ A' c', GBox w.heap.size w0 wr (w.heap.size + 2 + 1) [w.heap.size, w.heap.size + 1] p A' c' (offI v (l.take k))) (fun i _ => l.length - (intOf i).toNat)
  case atStart => exact ⟨0, by omega, rfl, _, _, HG.out⟩
  case round =>
    obtain ⟨k, hk, rfl, A', c', hst⟩ := hrel
    have HST := Lib.hid hst
    have HBW := Lib.hid (HA.out.trans hst.2.2.2.2.2.1)
    have hbs : w.heap.size ≤ wr.heap.size := Nat.le_of_lt (Nat.lt_of_le_of_lt hst.2.2.2.2.2.2 hst.1.1)
    have b1 := (hst.cell (o := w.heap.size) (k := 1) (by simp)).trans BX.out.2.2
    clear hst
    by_cases hlt : k < l.length
    · have hik : (k : Int) < (l.length : Int) := by omega
      obtain ⟨b0, off, rfl, hbB, hcell⟩ := HLW.out (by omega)
      have hc1 := (HBW.out.cell (p := ⟨b0, off + k * 2, none⟩) hbB).trans (hcell k hlt).1
      have hc2 := (HBW.out.cell (p := ⟨b0, off + k * 2 + 1, none⟩) hbB).trans (hcell k hlt).2
      clear hcell
      have hsu := offI_succ v l k hlt
      have hll := offI_len v (l.take k)
      rw [List.length_take] at hll
      obtain ⟨x, hx⟩ : ∃ x, l.getD k (0, 0) = x := ⟨_, rfl⟩
      rw [hx] at hc1 hc2 hsu
      clear hx
      obtain ⟨x1, x2⟩ := x
      have hee := endB_eq v x1 x2
      simp only at hc1 hc2
      have HSU := Lib.hid hsu
      have HEE := Lib.hid hee
      clear hsu hee
      obtain ⟨L, hL⟩ : ∃ L, L = offI v (l.take k) := ⟨_, rfl⟩
      rw [← hL] at HST HSU hll
      have HLL := Lib.hid hL
      clear hL
      obtain ⟨hlt0, g1, g2⟩ := HST.out.1
      by_cases c1 : x1 = v
      · have e1 : (x1 != v) = false := by simpa using c1
        have e2 : (x1 == v) = true := by simpa using c1
        have he : endB v (x1, x2) = true := by rw [HEE.out, e2]; rfl
        have HE := Lib.hid (show offI v (l.take (k + 1)) = L by rw [HSU.out, if_neg (by rw [he]; simp), List.append_nil])
        clear c1 he
        go_wp2_with fail
        go_roundw
        case rel => exact ⟨k + 1, by omega, by go_num, A', c', by rw [HE.out]; exact HST.out⟩
        case measure => simp [intOf]; omega
      · have e1 : (x1 != v) = true := by simpa using c1
        have e2 : (x1 == v) = false := by simpa using c1
        clear c1
        by_cases c2 : x2 = v
        · have e3 : (x2 != v) = false := by simpa using c2
          have e4 : (x2 == v) = true := by simpa using c2
          have he : endB v (x1, x2) = true := by rw [HEE.out, e2, e4]; rfl
          have HE := Lib.hid (show offI v (l.take (k + 1)) = L by rw [HSU.out, if_neg (by rw [he]; simp), List.append_nil])
          clear c2 he
          go_wp2_with fail
          go_roundw
          case rel => exact ⟨k + 1, by omega, by go_num, A', c', by rw [HE.out]; exact HST.out⟩
          case measure => simp [intOf]; omega
        have e3 : (x2 != v) = true := by simpa using c2
        have e4 : (x2 == v) = false := by simpa using c2
        have he : endB v (x1, x2) = false := by rw [HEE.out, e2, e4]; rfl
        have HE := Lib.hid (show offI v (l.take (k + 1)) = L ++ [(x1, x2)] by rw [HSU.out, if_pos (by rw [he]; rfl)])
        clear c2 he
        obtain ⟨i0, hi0, hz0, hz1, hz2⟩ := info_parts infoBar
        have gf := HST.out.2.1
        go_wp2_with fail
        go_region_law (refine step_append_lies _ (by rfl) _ _ _ (by rfl) w.heap.size 108 i0 _ 2 16 Try.underlying24 hi0 hz0 hz1 hz2 rfl (by omega) _ L.length (barCells L) (by rfl) ((HST.out.2.2.2.1.alloc _).drew) ⟨wr.heap.size, 0, none⟩ 1 1 [.int .i64 x1, .int .i64 x2] (by rfl) (by rfl) (World.news_of_block (cs := #[.int .i64 x1, .int .i64 x2]) (t := 108) (fr := (0, 0)) (heap_alloc_new wr _)) (by simp [Value.oneCell']) (by omega) (by unfold maxLen; omega) (by omega) (by simp; omega) (wr.heap.size + 1) (by simp) ?_; intro gg cap2 w1' hown1 hgrow hat hlt; obtain ⟨c0, c1, f1, hG2⟩ := HST.out.push2 (x1, x2) hown1 hgrow hat; have HG2 := Lib.hid hG2; clear hown1 hgrow hat hG2)
        all_goals
          go_wp2_with fail
          go_roundw
          case rel => exact ⟨k + 1, by omega, by go_num, _, cap2, by rw [HE.out]; first | exact HG2.out | exact HG2.out.drew⟩
          case measure => simp [intOf]; omega
    · obtain rfl : k = l.length := by omega
      rw [List.take_length] at HST
      obtain ⟨_, g1, g2⟩ := HST.out.1
      have r0 := (HST.out.cell (o := w.heap.size + 1) (k := 0) (by simp)).trans HR.out.2.1
      have r1 := (HST.out.cell (o := w.heap.size + 1) (k := 1) (by simp)).trans HR.out.2.2
      have f0 := (HST.out.frozen (o := w.heap.size + 1) (k := 0) (by simp)).trans HF.out.1
      have f1 := (HST.out.frozen (o := w.heap.size + 1) (k := 1) (by simp)).trans HF.out.2
      have hr := HST.out.ret (o := w.heap.size + 1) (by simp) (by omega) (.int .i64 p) (.slice A' (offI v l).length c')
      have HRT := Lib.hid hr
      have s0 : ((wr.setCell ⟨w.heap.size + 1, 0, none⟩ (.int .i64 p)).setCell ⟨w.heap.size + 1, 1, none⟩ (.slice A' (offI v l).length c')).cell? ⟨w.heap.size + 1, 0, none⟩ = some (.int .i64 p) := by
        rw [World.cell?_setCell_other _ _ _ _ (by intro e; simp at e)]
        exact World.cell?_setCell_same _ _ _ r0
      have s1 : ((wr.setCell ⟨w.heap.size + 1, 0, none⟩ (.int .i64 p)).setCell ⟨w.heap.size + 1, 1, none⟩ (.slice A' (offI v l).length c')).cell? ⟨w.heap.size + 1, 1, none⟩ = some (.slice A' (offI v l).length c') := by
        have r2 : (wr.setCell ⟨w.heap.size + 1, 0, none⟩ (.int .i64 p)).cell? ⟨w.heap.size + 1, 1, none⟩ = some (.slice none 0 0) := by
          rw [World.cell?_setCell_other _ _ _ _ (by intro e; simp at e)]
          exact r1
        exact World.cell?_setCell_same _ _ _ r2
      clear hr
      go_wp2_with fail
      refine bodyPost_ret (v := .agg #[.int .i64 p, .slice A' (offI v l).length c']) ?_ rfl ⟨A', c', rfl, HRT.out.1, HA.out.trans HRT.out.2⟩
      simp [results, Try.results205, go_sem, s0, s1]
end Go.Proofs.Ytdkpmaahinbhlaa
