/- The laws' copy of a row of rows (laws.toIntSS) is wholly its own. No condition. -/
import Derived.Test.YtcfgljfpkhefmaaRowsG
import Derived.Test.YtcfgljfpkhefmaaToRows
import Derived.Test.YtcfgljfpkhefmaaIntArg
namespace Go.Proofs.Ytcfgljfpkhefmaa
open Go.RowKit

theorem RowsP.within {W W' : World} {B T lo hi a b : Nat} {zs : List Value} {rs : List (List Int)} (h : RowsP W B T lo hi zs rs) (hw : Within a b W W') (hd : T ≤ a ∨ b ≤ B) : RowsP W' B T lo hi zs rs := by
  obtain ⟨r, S, h1, h2⟩ := h
  refine ⟨r, S, h1, fun k hk => ?_⟩
  obtain ⟨c1, c2, c3, c4, c5⟩ := h2 k hk
  exact ⟨c1, c2.within hw (by omega), c3, c4, c5⟩
theorem RowsP.push {W : World} {B T lo hi q : Nat} {zs : List Value} {rs : List (List Int)} (h : RowsP W B T lo hi zs rs) (hz : zs.length = rs.length) {Ax : Option Addr} {cx : Nat} {x : List Int} (hx : OwnInts W T q Ax cx x) (hB : B ≤ T) (hT : T ≤ q) (hh : hi ≤ T) :
    RowsP W B q lo hi (zs ++ [.slice Ax x.length cx]) (rs ++ [x]) := by
  obtain ⟨r, S, h1, h2⟩ := h
  refine ⟨fun k => if k < rs.length then r k else (T, q), fun k => if k < rs.length then S k else (Ax, cx), fun j k hjk hk => ?_, fun k hk => ?_⟩
  · have hk' : k < rs.length + 1 := by simpa using hk
    by_cases e : k < rs.length
    · have e' : j < rs.length := by omega
      simp only [e, e', if_true]
      exact h1 j k hjk e
    · have e' : j < rs.length := by omega
      simp only [e, e', if_true, if_false]
      have := (h2 j e').2.2.2.1
      exact .inl this
  · have hk' : k < rs.length + 1 := by simpa using hk
    by_cases e : k < rs.length
    · simp only [e, if_true]
      obtain ⟨c1, c2, c3, c4, c5⟩ := h2 k e
      rw [getD_old (by omega), getD_old e]
      exact ⟨c1, c2, c3, by omega, c5⟩
    · obtain rfl : k = rs.length := by omega
      simp only [Nat.lt_irrefl, if_false]
      rw [← hz, getD_new, hz, getD_new]
      exact ⟨rfl, hx, hB, Nat.le_refl _, .inl hh⟩
theorem own_ints_o {w' : World} {base g cap : Nat} {zs : List Int} (h : w'.ownsRow base 3 1 (.slice (some ⟨g, 0, none⟩) zs.length cap) zs.length (intCells zs)) : OwnInts w' base w'.heap.size (some ⟨g, 0, none⟩) cap zs :=
  ⟨Nat.le_refl _, .inr ⟨g, rfl, (h.lt g rfl).1, (h.lt g rfl).2, h⟩⟩

set_option maxHeartbeats 2000000 in
set_option maxRecDepth 100000 in
theorem toRowsO_c (rs : List (List Int)) (A : Option Addr) (cap lo hi : Nat) (w : World) (hl : RowsIn w lo hi A rs) (hn : rs.length ≤ 1048576) (hr : ∀ k, k < rs.length → (rs.getD k []).length ≤ 1048576) :
    Calls Try.prog 16 #[.slice A rs.length cap] w fun e w' => ∃ g, e = .returned (.slice (some ⟨g, 0, none⟩) rs.length rs.length) ∧ RowsOwn w' w.heap.size w'.heap.size (some ⟨g, 0, none⟩) rs ∧ Below w.heap.size w w' := by
  have HL := Lib.hid hl
  have HR := Lib.hid hr
  clear hl hr
  go_enter Try.func16, Try.ntmps16
  go_wp2_with (at_make; refine wpList_mkn _ rfl _ _ 22 rfl w.heap.size 28 (.slice none 0 0) 24 Try.underlying22 infoIntsD rfl _ _ _ _ rs.length rfl rfl rfl rfl (by omega) (by unfold maxLen; omega) (Nat.le_refl _) ?_; intro w0 hown0 hb0)
  go_loopw [4] (fun i wr => ∃ (k : Nat) (zs : List Value), k ≤ rs.length ∧ i = .int .i64 k ∧ zs.length = k ∧ wr.ownsRow w.heap.size 28 1 (.slice (some ⟨w.heap.size, 0, none⟩) rs.length rs.length) rs.length (zs ++ List.replicate (rs.length - k) (.slice none 0 0)) ∧ RowsP wr (w.heap.size + 1) wr.heap.size w.heap.size (w.heap.size + 1) zs (rs.take k) ∧ Below w.heap.size w wr) (fun i _ => rs.length - (intOf i).toNat)
  case atStart => exact ⟨0, [], by omega, rfl, rfl, by rw [List.nil_append, Nat.sub_zero]; exact hown0, ⟨fun _ => (0, 0), fun _ => (none, 0), fun _ _ _ hk => absurd hk (by simp), fun _ hk => absurd hk (by simp)⟩, hb0⟩
  case round =>
    obtain ⟨k, zs, hk, rfl, hz, hown, hv, hb⟩ := hrel
    have HB := Lib.hid hb
    have hbs := hb.size
    have HV := Lib.hid hv
    have HZ := Lib.hid hz
    have hgs1 := (World.ownsRow.lt hown w.heap.size rfl).2
    clear hb hown0 hb0 hv hz
    by_cases hlt : k < rs.length
    · have hi0 : (k : Int) < (rs.length : Int) := by omega
      obtain ⟨b, off, rfl, _, hbh, hcell⟩ := HL.out.2 (by omega)
      obtain ⟨A1, c1, hc, hi1⟩ := hcell k hlt
      have hbw : b < w.heap.size := Nat.lt_of_lt_of_le hbh HL.out.1
      have hcc := (HB.out.cell (p := ⟨b, off + k, none⟩) hbw).trans hc
      have hzl := HR.out k hlt
      have hi2 := hi1.within (within_of HB.out) (.inr (Nat.zero_le _))
      obtain ⟨xs, hxs⟩ : ∃ xs, rs.getD k [] = xs := ⟨_, rfl⟩
      rw [hxs] at hcc hi2 hzl
      have HXS := Lib.hid hxs
      have HI2 := Lib.hid hi2
      have HOWN := Lib.hid hown
      clear hcell hc hi1 hi2 hxs hown
      go_wp2_with fail
      refine (toInts_c xs A1 c1 _ _ _ HI2.out hzl).mono ?_
      rintro e w3 ⟨g, rfl, ho3, hb3⟩
      have hown3 := own_below HOWN.out hb3
      have hlen : (zs ++ List.replicate (rs.length - k) (Value.slice none 0 0)).length = rs.length := by simp [HZ.out]; omega
      have hgs := (World.ownsRow.lt HOWN.out w.heap.size rfl).2
      have hd := (hown3.cellAt k (by omega)).trans (show (zs ++ List.replicate (rs.length - k) (Value.slice none 0 0))[k]? = some (Value.slice none 0 0) by
        rw [List.getElem?_append_right (by rw [HZ.out]; exact Nat.le_refl _), HZ.out, Nat.sub_self, List.getElem?_replicate, if_pos (by omega)])
      have hf := hown3.frozenAt k
      have hst := hown3.stored k (.slice (some ⟨g, 0, none⟩) xs.length xs.length)
      have hstep : (zs ++ List.replicate (rs.length - k) (Value.slice none 0 0)).set k (.slice (some ⟨g, 0, none⟩) xs.length xs.length) = (zs ++ [.slice (some ⟨g, 0, none⟩) xs.length xs.length]) ++ List.replicate (rs.length - (k + 1)) (.slice none 0 0) := by
        obtain ⟨r, hr⟩ : ∃ r, rs.length - k = r + 1 := ⟨rs.length - k - 1, by omega⟩
        rw [List.set_append_right _ _ (by rw [HZ.out]; exact Nat.le_refl _), HZ.out, Nat.sub_self, hr, List.replicate_succ, List.set_cons_zero, show rs.length - (k + 1) = r by omega, List.append_assoc]
        rfl
      rw [hstep] at hst
      have HST := Lib.hid hst.1
      have HBF := Lib.hid ((HB.out.trans (hb3.mono hbs)).grown hst.2 (Nat.le_trans hbs hb3.size) fun g' e => by cases e; exact Nat.le_refl _)
      have hs2 := hst.2.size
      have hw2 : Within w.heap.size (w.heap.size + 1) w3 (w3.setCell ⟨w.heap.size, k, none⟩ (.slice (some ⟨g, 0, none⟩) xs.length xs.length)) := ⟨hst.2.os, hst.2.tape, hst.2.output, hst.2.size, fun j hj hd => hst.2.block j hj (by simp; omega)⟩
      have hnew := (own_ints_o ho3).within hw2 (.inr hgs1)
      have hold := ((HV.out.within (within_of hb3) (.inr (Nat.zero_le _))).within hw2 (.inr (Nat.le_refl _))).push (by rw [HZ.out]; simp; omega) hnew hgs1 hb3.size hgs1
      have htk : rs.take k ++ [xs] = rs.take (k + 1) := by rw [List.take_succ_eq_append_getElem hlt, ← HXS.out]; simp [List.getD, hlt]
      rw [htk] at hold
      have hold2 : RowsP (w3.setCell ⟨w.heap.size, k, none⟩ (.slice (some ⟨g, 0, none⟩) xs.length xs.length)) (w.heap.size + 1) (w3.setCell ⟨w.heap.size, k, none⟩ (.slice (some ⟨g, 0, none⟩) xs.length xs.length)).heap.size w.heap.size (w.heap.size + 1) (zs ++ [.slice (some ⟨g, 0, none⟩) xs.length xs.length]) (rs.take (k + 1)) := by
        obtain ⟨r, S, e1, e2⟩ := hold
        exact ⟨r, S, e1, fun k hk => ⟨(e2 k hk).1, (e2 k hk).2.1, (e2 k hk).2.2.1, Nat.le_trans (e2 k hk).2.2.2.1 hs2, (e2 k hk).2.2.2.2⟩⟩
      have HVN := Lib.hid hold2
      clear hst hstep hown3 hs2 hlen hb3 ho3 hold hold2 hnew hw2 htk
      go_wp2_with fail
      go_roundw
      case rel => exact ⟨k + 1, _, by omega, by go_num, by simp [HZ.out], HST.out, HVN.out, HBF.out⟩
      case measure => simp [intOf]; omega
    · obtain rfl : k = rs.length := by omega
      rw [Nat.sub_self, List.replicate_zero, List.append_nil] at hown
      have HOWN := Lib.hid hown
      clear hown
      go_wp2_with fail
      go_ret
      have hlt' := World.ownsRow.lt HOWN.out w.heap.size rfl
      refine ⟨_, rfl, ⟨Nat.le_refl _, fun hl => ?_⟩, HB.out⟩
      have hV := HV.out
      rw [List.take_length] at hV
      obtain ⟨r, S, e1, e2⟩ := hV
      refine ⟨w.heap.size, r, S, rfl, Nat.le_refl _, hlt'.2, e1, fun k hk => ?_⟩
      obtain ⟨c1, c2, c3, c4, c5⟩ := e2 k hk
      refine ⟨?_, c2, by omega, c4, .inl c3⟩
      rw [← c1, World.ownsRow.cellAt HOWN.out k (by have := HZ.out; omega)]
      simp [List.getD, List.getElem?_eq_getElem (show k < zs.length by have := HZ.out; omega)]
end Go.Proofs.Ytcfgljfpkhefmaa
