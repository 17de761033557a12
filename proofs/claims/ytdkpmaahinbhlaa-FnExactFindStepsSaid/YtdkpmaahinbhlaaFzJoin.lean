/- Bars from a point to several others: what impl.Graph.joined answers. No condition. -/
import Derived.Test.YtdkpmaahinbhlaaFzStepM
import Derived.Test.YtdkpmaahinbhlaaFzAdd
import Derived.Test.YtdkpmaahinbhlaaFzB1
namespace Go.Proofs.Ytdkpmaahinbhlaa
open Go.RowKit

/-- A box of two cells. -/
def Cel2 (W : World) (b : Nat) (T : TypeId) (v0 v1 : Value) : Prop := W.heap[b]? = some (.cells #[v0, v1] T (0, 0))
theorem Cel2.lt {W : World} {b : Nat} {T : TypeId} {v0 v1 : Value} (h : Cel2 W b T v0 v1) : b < W.heap.size := (Array.getElem?_eq_some_iff.1 h).1
theorem Cel2.cells {W : World} {b : Nat} {T : TypeId} {v0 v1 : Value} (h : Cel2 W b T v0 v1) :
    W.cell? ⟨b, 0, none⟩ = some v0 ∧ W.cell? ⟨b, 1, none⟩ = some v1 ∧ W.frozen? ⟨b, 0, none⟩ = false ∧ W.frozen? ⟨b, 1, none⟩ = false := by
  refine ⟨?_, ?_, frozen_of_row W b 0 _ T h, frozen_of_row W b 1 _ T h⟩
  · rw [cell_of_row W b 0 _ T (0, 0) h]; rfl
  · rw [cell_of_row W b 1 _ T (0, 0) h]; rfl
theorem Cel2.within {W W' : World} {b lo hi : Nat} {T : TypeId} {v0 v1 : Value} (h : Cel2 W b T v0 v1) (hw : Within lo hi W W') (hd : b < lo ∨ hi ≤ b) : Cel2 W' b T v0 v1 := (hw.block b h.lt hd).trans h
theorem Cel2.kept {W W' : World} {b : Nat} {T : TypeId} {v0 v1 : Value} (h : Cel2 W b T v0 v1) (hb : Below W.heap.size W W') : Cel2 W' b T v0 v1 := (hb.block b h.lt).trans h
theorem Cel2.set0 {W : World} {b : Nat} {T : TypeId} {v0 v1 : Value} (h : Cel2 W b T v0 v1) (u : Value) : Cel2 (W.setCell ⟨b, 0, none⟩ u) b T u v1 := heap_setCell_same W b 0 _ T u h
theorem Cel2.set1 {W : World} {b : Nat} {T : TypeId} {v0 v1 : Value} (h : Cel2 W b T v0 v1) (u : Value) : Cel2 (W.setCell ⟨b, 1, none⟩ u) b T v0 u := heap_setCell_same W b 1 _ T u h
theorem cel2_new (w : World) (v0 v1 : Value) (T : TypeId) : Cel2 (w.alloc (.cells #[v0, v1] T)) w.heap.size T v0 v1 := heap_alloc_new w _
theorem ret2 {W : World} {b : Nat} {T : TypeId} {a0 a1 : Value} (h : Cel2 W b T a0 a1) (v0 v1 : Value) : Cel2 ((W.setCell ⟨b, 0, none⟩ v0).setCell ⟨b, 1, none⟩ v1) b T v0 v1 ∧ Within b (b + 1) W ((W.setCell ⟨b, 0, none⟩ v0).setCell ⟨b, 1, none⟩ v1) :=
  ⟨(h.set0 v0).set1 v1, (within_set W b 0 v0).trans (within_set _ b 1 v1)⟩

set_option maxHeartbeats 8000000 in
set_option maxRecDepth 100000 in
theorem joined_c (p v : Int) (l : List (Int × Int)) (A : Option Addr) (cap : Nat) (zs : List Int) (zb zlo zhi : Nat) (w : World) (hl : BarsAt w w.heap.size A l) (hG : IsG p l) (hv : 0 ≤ v ∧ v < p) (hz : ∀ j, j < zs.length → (0 ≤ zs.getD j 0 ∧ zs.getD j 0 < p) ∧ v ≠ zs.getD j 0) (h24 : l.length + zs.length ≤ 24) (h0 : 0 < zs.length) (hzi : IntsIn w zlo zhi (some ⟨zb, 0, none⟩) zs) :
    Calls Try.prog 211 #[.agg #[.int .i64 p, .slice A l.length cap], .int .i64 v, .slice (some ⟨zb, 0, none⟩) zs.length zs.length] w (GraphO w p (joinL v l zs zs.length)) := by
  have hA1 := new_below w (.cells #[.int .i64 p, .slice A l.length cap] 26)
  have hA2 := new_below (w.alloc (.cells #[.int .i64 p, .slice A l.length cap] 26)) (.cells #[.int .i64 0, .slice none 0 0] 26)
  have HS1 := Lib.hid (show (w.alloc (.cells #[.int .i64 p, .slice A l.length cap] 26)).heap.size = w.heap.size + 1 by simp)
  have HS2 := Lib.hid (show ((w.alloc (.cells #[.int .i64 p, .slice A l.length cap] 26)).alloc (.cells #[.int .i64 0, .slice none 0 0] 26)).heap.size = w.heap.size + 2 by simp)
  have HA := Lib.hid (below_on hA1 hA2 hA1.size)
  have HL2 := Lib.hid ((hl.on hA1).on hA2)
  have HZ2 := Lib.hid ((hzi.within (within_of hA1) (.inr (Nat.zero_le _))).within (within_of hA2) (.inr (Nat.zero_le _)))
  have BX2 := Lib.hid ((cel2_new w (.int .i64 p) (.slice A l.length cap) 26).kept hA2)
  have hr := cel2_new (w.alloc (.cells #[.int .i64 p, .slice A l.length cap] 26)) (.int .i64 0) (.slice none 0 0) 26
  rw [HS1.out] at hr
  have BR2 := Lib.hid hr
  have HZH := Lib.hid (show zhi ≤ w.heap.size from hzi.1)
  have HADD := Lib.hid (fun (n : Nat) (hn : n < zs.length) => joinL_add hG hv hz n hn (by omega))
  have HLEN := Lib.hid (fun n => joinL_len v l zs n)
  clear hl hA1 hA2 hr hzi hz hG hv
  go_enter Try.func211, Try.ntmps211
  go_wp2_with fail
  generalize ((w.alloc (.cells #[.int .i64 p, .slice A l.length cap] 26)).alloc (.cells #[.int .i64 0, .slice none 0 0] 26)) = w2 at *
  go_loopw [11] (fun i wr => ∃ (k : Nat) (A' : Option Addr) (c' : Nat), k ≤ zs.length ∧ i = .int .i64 k ∧ Cel2 wr w.heap.size 26 (.int .i64 p) (.slice A' (joinL v l zs k).length c') ∧ Cel2 wr (w.heap.size + 1) 26 (.int .i64 0) (.slice none 0 0) ∧ BarsAt wr wr.heap.size A' (joinL v l zs k) ∧ (0 < k → ∃ lo, w.heap.size + 2 ≤ lo ∧ OwnIn wr lo wr.heap.size A' c' (joinL v l zs k)) ∧ Below w.heap.size w wr ∧ IntsIn wr zlo zhi (some ⟨zb, 0, none⟩) zs ∧ w.heap.size + 2 ≤ wr.heap.size) (fun i _ => zs.length - (intOf i).toNat)
  case atStart => exact ⟨0, A, cap, by omega, rfl, BX2.out, BR2.out, HL2.out, fun h => absurd h (by omega), HA.out, HZ2.out, by have := HS2.out; omega⟩
  case round =>
    obtain ⟨k, A', c', hk, rfl, hbx, hbr, hba, hown, hb, hzz, hsz⟩ := hrel
    have HB := Lib.hid hb
    have HBX := Lib.hid hbx
    have HBR := Lib.hid hbr
    have HBA := Lib.hid hba
    have HOW := Lib.hid hown
    have HZZ := Lib.hid hzz
    have HSZ := Lib.hid hsz
    have HJL := Lib.hid (HLEN.out k)
    clear hb hbx hbr hba hown hzz hsz
    by_cases hlt : k < zs.length
    · have hi0 : (k : Int) < (zs.length : Int) := by omega
      have hbs := HB.out.size
      obtain ⟨b, off, e, _, _, hcell⟩ := HZZ.out.2 (by omega)
      cases e
      have hc := hcell k hlt
      rw [Nat.zero_add] at hc
      have HAD := Lib.hid (HADD.out k hlt)
      obtain ⟨x, hx⟩ : ∃ x, zs.getD k 0 = x := ⟨_, rfl⟩
      rw [hx] at hc HAD
      obtain ⟨L, hL⟩ : ∃ L, joinL v l zs k = L := ⟨_, rfl⟩
      rw [hL] at HBX HBA HAD HJL
      clear hcell hx hL HOW
      obtain ⟨g0, g1, f0, f1⟩ := HBX.out.cells
      go_wp2_with fail
      refine (implAdd p v x L A' c' _ HBA.out (by have := HJL.out; omega)).mono ?_
      rintro e w3 ⟨A3, c3, rfl, ho3, hb3⟩
      rw [HAD.out] at ho3 ⊢
      obtain ⟨L3, hL3⟩ : ∃ L3, joinL v l zs (k + 1) = L3 := ⟨_, rfl⟩
      rw [hL3] at ho3 ⊢
      have HL3 := Lib.hid hL3
      have HO3 := Lib.hid ho3
      have HX3 := Lib.hid (HBX.out.kept hb3)
      have HR3 := Lib.hid (HBR.out.kept hb3)
      have HZ3 := Lib.hid (HZZ.out.within (within_of hb3) (.inr (Nat.zero_le _)))
      have HB3 := Lib.hid (below_on HB.out hb3 hbs)
      have HS3 := Lib.hid hb3.size
      clear ho3 hb3 hL3 g0 g1 f0 f1 hc
      obtain ⟨g0, g1, f0, f1⟩ := HX3.out.cells
      have hset := ret2 HX3.out (.int .i64 p) (.slice A3 L3.length c3)
      have HST := Lib.hid hset.1
      have HWI := Lib.hid hset.2
      clear hset
      go_wp2_with fail
      go_roundw
      case rel =>
        have hs := HSZ.out
        have hs3 := HS3.out
        have hsw := HWI.out.size
        have ho := HO3.out.within HWI.out (.inr (by omega))
        have hoo : OwnIn ((w3.setCell ⟨w.heap.size, 0, none⟩ (.int .i64 p)).setCell ⟨w.heap.size, 1, none⟩ (.slice A3 L3.length c3)) wr.heap.size ((w3.setCell ⟨w.heap.size, 0, none⟩ (.int .i64 p)).setCell ⟨w.heap.size, 1, none⟩ (.slice A3 L3.length c3)).heap.size A3 c3 L3 := by simpa using ho
        exact ⟨k + 1, A3, c3, by omega, by go_num, by rw [HL3.out]; exact HST.out, HR3.out.within HWI.out (by omega), by rw [HL3.out]; exact ho.bars.at, fun _ => ⟨_, hs, by rw [HL3.out]; exact hoo⟩, within_on HB3.out HWI.out HB3.out.size (.inl (Nat.le_refl _)), HZ3.out.within HWI.out (.inl HZH.out), by omega⟩
      case measure => simp [intOf]; omega
    · obtain rfl : k = zs.length := by omega
      obtain ⟨lo, hlo, ho⟩ := HOW.out h0
      obtain ⟨g0, g1, f0, f1⟩ := HBX.out.cells
      obtain ⟨r0, r1, q0, q1⟩ := HBR.out.cells
      obtain ⟨s0, s1⟩ := ret_cells (p := p) (v := .slice A' (joinL v l zs zs.length).length c') r0 r1
      obtain ⟨t0, t1⟩ := ownIn_ret ho HB.out (r := w.heap.size + 1) (by omega) (by omega) (.int .i64 p) (.slice A' (joinL v l zs zs.length).length c')
      have HT0 := Lib.hid t0
      have HT1 := Lib.hid t1
      clear t0 t1 ho
      go_wp2_with fail
      refine bodyPost_ret (v := .agg #[.int .i64 p, .slice A' (joinL v l zs zs.length).length c']) ?_ rfl ⟨A', c', rfl, ?_, ?_⟩
      · simp [results, Try.results211, go_sem, s0, s1]
      · exact HT0.out
      · exact HT1.out
end Go.Proofs.Ytdkpmaahinbhlaa
