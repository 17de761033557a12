/- What impl.DecodeHex answers: for every string. No condition. -/
import Derived.Test.YtooklpeiaedokaaDoorDecHexM
namespace Go.Proofs.YtooklpeiaedokaaDoor
open Go.RowKit

theorem iter_setCell (w : World) (s : ByteArray) (p g j : Nat) (u : Value) (h : g < w.heap.size) : (w.iter s p).setCell ⟨g, j, none⟩ u = (w.setCell ⟨g, j, none⟩ u).iter s p := by
  simp only [World.iter, World.alloc, World.setCell]
  congr 1
  apply Array.ext_getElem?
  intro i
  rw [Array.getElem?_modify, Array.getElem?_push, Array.getElem?_push, Array.getElem?_modify, Array.size_modify]
  by_cases hi : i = w.heap.size
  · subst hi
    rw [if_neg (by omega)]
    simp
  · simp [hi]

theorem idxRune_hex (r : Nat) (w : World) (h : r < 128) :
    Calls Tryd.prog 27 #[.string (ByteArray.mk #[48, 49, 50, 51, 52, 53, 54, 55, 56, 57, 97, 98, 99, 100, 101, 102]), .int .i32 (r : Int)] w fun e w' => e = .returned (.int .i64 (hexVal (r : Int))) ∧ w = w' :=
  (Tryd.strings_IndexRune_ascii _ (r : Int) w (by omega) (by omega)).mono fun e w' ⟨he, hw⟩ => ⟨by rw [he]; congr 2; exact ix_hex r h, hw.symm⟩

theorem idxRune_hex_e (r : Nat) (v : Int) (w : World) (h : r < 128) (hv : hexVal (r : Int) = v) :
    Calls Tryd.prog 27 #[.string (ByteArray.mk #[48, 49, 50, 51, 52, 53, 54, 55, 56, 57, 97, 98, 99, 100, 101, 102]), .int .i32 (r : Int)] w fun e w' => e = .returned (.int .i64 v) ∧ w = w' := by
  subst hv
  exact idxRune_hex r w h

set_option maxHeartbeats 800000 in
set_option maxRecDepth 100000 in
theorem implDecHex (s : ByteArray) (w : World) (hs : s.size ≤ 1048576) :
    Calls Tryd.prog 16 #[.string s] w fun e w' => e = .returned (.tuple #[.string (dhS s), .bool (dhB s)]) ∧ Below w.heap.size w w' := by
  by_cases hodd : s.size % 2 = 1
  · have Q := Lib.hid (dh_no (s := s) fun h => by have := h.1; omega)
    have ho : ((s.size : Int) % 2 != 0) = true := by simp; omega
    clear hodd
    go_enter Tryd.func16, Tryd.ntmps16
    go_wp2_with fail
    go_ret2
    exact ⟨by rw [Q.out.1, Q.out.2]; rfl, Below.refl _ _⟩
  · have ho : ((s.size : Int) % 2 != 0) = false := by simp; omega
    have hev : s.size % 2 = 0 := by omega
    have HEV := Lib.hid hev
    clear hodd hev
    go_enter Tryd.func16, Tryd.ntmps16
    go_wp2_with (at_make; refine wpList_mkn _ rfl _ _ 22 rfl w.heap.size 5 (.int .u8 0) 1 Tryd.underlying22 infoU8 rfl _ _ _ _ (s.size / 2) rfl rfl (by omega) (by omega) (by omega) (by unfold maxLen; omega) (Nat.le_refl _) ?_; intro w0 hown0 hb0)
    have hg0 : w.heap.size < w0.heap.size := (hown0.lt w.heap.size rfl).2
    go_loopw [7] (fun _ wr => ∃ (k : Nat) (w1 : World), k ≤ s.size ∧ wr = w1.iter s k ∧ w1.heap.size = w0.heap.size ∧ w1.ownsRow w.heap.size 5 1 (.slice (some ⟨w.heap.size, 0, none⟩) (s.size / 2) (s.size / 2)) (s.size / 2) ((rw_ s k).map (Value.int .u8)) ∧ (∀ j, j < k → 0 ≤ hv s j) ∧ Below w.heap.size w w1) (fun _ wr => s.size - wr.iterPos w0.heap.size)
    case atStart => exact ⟨0, w0, by omega, rfl, rfl, by rw [rw_zero]; exact hown0, fun j hj => absurd hj (by omega), hb0⟩
    case round =>
      obtain ⟨k, w1, hk, rfl, hsz, hown, hok, hb⟩ := hrel
      have HB := Lib.hid hb
      have HOK := Lib.hid hok
      have HSZ := Lib.hid hsz
      clear hb hok hown0 hb0 ho
      have hip : ∀ p, (w1.iter s p).iterPos w0.heap.size = p := fun p => by rw [← hsz]; exact World.iterPos_iter _ _ _
      have HIP := Lib.hid hip
      have hbi : Below w.heap.size w (w1.iter s k) := HB.out.alloc (by omega) _
      have HBI := Lib.hid hbi
      clear hip hbi
      by_cases hlt : k < s.size
      · have he := byteAt_eq s k hlt
        have hi : (k : Int) < (s.size : Int) := by omega
        by_cases ha : (s[k]'hlt).toNat < 128
        · have hnx := fun ty => run_next_ascii (P := Tryd.prog) w1 s k ty hlt ha
          rw [hsz] at hnx
          clear hsz
          have hx : hexVal ((s[k].toNat : Nat) : Int) = hv s k := by unfold hv; rw [he]
          have HX := Lib.hid hx
          have hbd := hv_bd s k
          clear he hx
          by_cases hv0 : 0 ≤ hv s k
          · have hok' : ∀ j, j < k + 1 → 0 ≤ hv s j := fun j hj => by
              by_cases e : j = k
              · subst e; exact hv0
              · exact HOK.out j (by omega)
            have hst := rwAt_step s k hok'
            have hk2 : k / 2 < s.size / 2 := by have := HEV.out; omega
            have hc := hown.cellAt (k / 2) (by omega)
            rw [List.getElem?_map, rw_get s k (k / 2) hk2] at hc
            have hc' : (w1.iter s (k + 1)).cell? ⟨w.heap.size, k / 2, none⟩ = some (.int .u8 (rwAt s k (k / 2))) := by
              rw [(iter_below w1 s (k + 1)).cell (by have := HSZ.out; simp; omega), hc]; rfl
            have hf : (w1.iter s (k + 1)).frozen? ⟨w.heap.size, k / 2, none⟩ = false := by
              rw [(iter_below w1 s (k + 1)).frozen (by have := HSZ.out; simp; omega)]; exact hown.frozenAt _
            have hst2 := hown.stored (k / 2) (.int .u8 (rwAt s (k + 1) (k / 2)))
            rw [← List.map_set, rw_set] at hst2
            have HST := Lib.hid hst2
            have hor := hst.1
            have hlo := hst.2.1
            have hhi := hst.2.2.1
            have HOK' := Lib.hid hok'
            have hi2 : (k : Int) / 2 < ((s.size / 2 : Nat) : Int) := by omega
            have htn : ((k : Int) / 2).toNat = k / 2 := by omega
            clear hst hst2 hc hown hok'
            go_wp2_with fail
            refine (idxRune_hex_e _ (hv s k) _ ha HX.out).mono ?_
            rintro e w2 ⟨rfl, rfl⟩
            go_wp2_with fail
            go_roundw
            case rel => exact ⟨k + 1, w1.setCell ⟨w.heap.size, k / 2, none⟩ (.int .u8 (rwAt s (k + 1) (k / 2))), by omega, by rw [iter_setCell _ _ _ _ _ _ (by have := HSZ.out; omega)], by simp; exact HSZ.out, HST.out.1, HOK'.out, HB.out.setCell (Nat.le_refl _) _⟩
            case measure =>
              rw [iter_setCell _ _ _ _ _ _ (by have := HSZ.out; omega), HIP.out]
              have e : ((w1.setCell ⟨w.heap.size, k / 2, none⟩ (.int .u8 (rwAt s (k + 1) (k / 2)))).iter s (k + 1)).iterPos w0.heap.size = k + 1 := by
                rw [← HSZ.out, ← show (w1.setCell ⟨w.heap.size, k / 2, none⟩ (.int .u8 (rwAt s (k + 1) (k / 2)))).heap.size = w1.heap.size by simp]
                exact World.iterPos_iter _ _ _
              omega
          · have Q := Lib.hid (dh_no (s := s) fun h => hv0 (h.2 _ hlt))
            have hv1 : hv s k < 0 := by omega
            clear hown
            go_wp2_with fail
            refine (idxRune_hex_e _ (hv s k) _ ha HX.out).mono ?_
            rintro e w2 ⟨rfl, rfl⟩
            go_wp2_with fail
            go_ret2
            exact ⟨by rw [Q.out.1, Q.out.2]; rfl, HB.out.alloc (by have := HSZ.out; omega) _⟩
        · have hnx := fun ty => run_next_any (P := Tryd.prog) w1 s k ty hlt
          rw [hsz] at hnx
          have hh := decode_high s k hlt (by omega)
          have hle := decode_le s k
          have hneg : hv s k = -1 := by unfold hv; rw [he]; exact hexVal_high _ (by omega)
          have Q := Lib.hid (dh_no (s := s) fun h => by have := h.2 _ hlt; omega)
          have H128 := Lib.hid (show (128 : Int) ≤ ((Utf8.decode s k).1 : Int) by omega)
          have HLE := Lib.hid (show ((Utf8.decode s k).1 : Int) ≤ 2147483647 by omega)
          clear hsz he hh hle hneg hown
          go_wp2_with fail
          refine (idxRune_high _ _ H128.out HLE.out).mono ?_
          rintro e w2 ⟨rfl, hb2⟩
          have HB2 := Lib.hid hb2
          clear hb2
          go_wp2_with fail
          go_ret2
          exact ⟨by rw [Q.out.1, Q.out.2]; rfl, (HB.out.alloc (by have := HSZ.out; omega) _).trans (HB2.out.mono (by have := HSZ.out; simp [World.iter]; omega))⟩
      · obtain rfl : k = s.size := by omega
        have hnx := fun ty => run_next_end (P := Tryd.prog) w1 s s.size ty (by omega)
        rw [hsz] at hnx
        have Q := Lib.hid (dh_yes (s := s) ⟨HEV.out, HOK.out⟩)
        rw [rw_all s HEV.out] at hown
        have hst := own_string (P := Tryd.prog) (dst := 9) (ns := hd s (s.size / 2)) Tryd.underlying22 Tryd.underlying5 Tryd.underlying9 (hown.alloc (.stringIter s s.size))
        have hst' : (convert 22 9 (.slice (some ⟨w.heap.size, 0, none⟩) (s.size / 2) (s.size / 2))).run Tryd.prog (w1.iter s s.size) = .ok (.string (strOfNums (hd s (s.size / 2)))) (w1.iter s s.size) := hst
        clear hst hsz hown
        go_wp2_with fail
        go_ret2
        exact ⟨by rw [Q.out.1, Q.out.2]; rfl, HB.out.alloc (by have := HSZ.out; omega) _⟩
end Go.Proofs.YtooklpeiaedokaaDoor
