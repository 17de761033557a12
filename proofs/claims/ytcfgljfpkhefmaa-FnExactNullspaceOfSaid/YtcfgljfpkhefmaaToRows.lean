/- The laws' copy of a row of rows, and their comparison of two (laws.toIntSS, eqIntSS). No condition. -/
import Derived.Test.YtcfgljfpkhefmaaRowsD
namespace Go.Proofs.Ytcfgljfpkhefmaa
open Go.RowKit

theorem infoIntsD : (Try.prog.info? 28).map (fun i => (i.zero, i.size, i.bytes)) = some (some (.slice none 0 0), 1, 24) := by kernel_rfl
/-- The values zs are the rows rs, each in a block from lo to hi. -/
def RowsV (W : World) (lo hi : Nat) (zs : List Value) (rs : List (List Int)) : Prop :=
  ∀ k, k < rs.length → k < zs.length → ∃ A' c', zs.getD k (.slice none 0 0) = .slice A' (rs.getD k []).length c' ∧ IntsD W lo hi A' (rs.getD k [])

set_option maxHeartbeats 2000000 in
set_option maxRecDepth 100000 in
theorem toRows_c (rs : List (List Int)) (A : Option Addr) (cap lo hi : Nat) (w : World) (hl : RowsD w lo hi A rs) (hn : rs.length ≤ 1048576) (hr : ∀ k, k < rs.length → (rs.getD k []).length ≤ 1048576) :
    Calls Try.prog 16 #[.slice A rs.length cap] w fun e w' => ∃ g, e = .returned (.slice (some ⟨g, 0, none⟩) rs.length rs.length) ∧ RowsD w' w.heap.size w'.heap.size (some ⟨g, 0, none⟩) rs ∧ Below w.heap.size w w' := by
  have HL := Lib.hid hl
  have HR := Lib.hid hr
  clear hl hr
  go_enter Try.func16, Try.ntmps16
  go_wp2_with (at_make; refine wpList_mkn _ rfl _ _ 22 rfl w.heap.size 28 (.slice none 0 0) 24 Try.underlying22 infoIntsD rfl _ _ _ _ rs.length rfl rfl rfl rfl (by omega) (by unfold maxLen; omega) (Nat.le_refl _) ?_; intro w0 hown0 hb0)
  go_loopw [4] (fun i wr => ∃ (k : Nat) (zs : List Value), k ≤ rs.length ∧ i = .int .i64 k ∧ zs.length = k ∧ wr.ownsRow w.heap.size 28 1 (.slice (some ⟨w.heap.size, 0, none⟩) rs.length rs.length) rs.length (zs ++ List.replicate (rs.length - k) (.slice none 0 0)) ∧ RowsV wr (w.heap.size + 1) wr.heap.size zs rs ∧ Below w.heap.size w wr) (fun i _ => rs.length - (intOf i).toNat)
  case atStart => exact ⟨0, [], by omega, rfl, rfl, by rw [List.nil_append, Nat.sub_zero]; exact hown0, fun k _ hk => absurd hk (by simp), hb0⟩
  case round =>
    obtain ⟨k, zs, hk, rfl, hz, hown, hv, hb⟩ := hrel
    have HB := Lib.hid hb
    have hbs := hb.size
    have HV := Lib.hid hv
    have HZ := Lib.hid hz
    clear hb hown0 hb0 hv
    by_cases hlt : k < rs.length
    · have hi0 : (k : Int) < (rs.length : Int) := by omega
      obtain ⟨b, off, rfl, _, hbh, hcell⟩ := HL.out.2 (by omega)
      obtain ⟨A1, c1, hc, hi1⟩ := hcell k hlt
      have hbw : b < w.heap.size := Nat.lt_of_lt_of_le hbh HL.out.1
      have hcc := (HB.out.cell (p := ⟨b, off + k, none⟩) hbw).trans hc
      have hzl := HR.out k hlt
      have hi2 := hi1.kept HB.out.size fun b' _ h2 => HB.out.block b' (Nat.lt_of_lt_of_le h2 HL.out.1)
      obtain ⟨xs, hxs⟩ : ∃ xs, rs.getD k [] = xs := ⟨_, rfl⟩
      rw [hxs] at hcc hi2 hzl
      have HXS := Lib.hid hxs
      have HI2 := Lib.hid hi2
      have HOWN := Lib.hid hown
      clear hcell hc hi1 hi2 hxs hown
      go_wp2_with fail
      refine (toIntsD_c xs A1 c1 _ _ _ HI2.out hzl).mono ?_
      rintro e w3 ⟨g, rfl, ho3, hb3⟩
      have hown3 := own_below HOWN.out hb3
      have hlen : (zs ++ List.replicate (rs.length - k) (Value.slice none 0 0)).length = rs.length := by simp [HZ.out]; omega
      have hgs := (World.ownsRow.lt HOWN.out w.heap.size rfl).2
      have hd := (hown3.cellAt k (by omega)).trans (show (zs ++ List.replicate (rs.length - k) (Value.slice none 0 0))[k]? = some (Value.slice none 0 0) by
        rw [List.getElem?_append_right (by rw [HZ.out]; exact Nat.le_refl _), HZ.out, Nat.sub_self, List.getElem?_replicate, if_pos (by omega)])
      have hf := hown3.frozenAt k
      have hst := hown3.stored k (.slice (some ⟨g, 0, none⟩) xs.length xs.length)
      have hstep : (zs ++ List.replicate (rs.length - k) (Value.slice none 0 0)).set k (.slice (some ⟨g, 0, none⟩) xs.length xs.length) = (zs ++ [.slice (some ⟨g, 0, none⟩) xs.length xs.length]) ++ List.replicate (rs.length - (k + 1)) (.slice none 0 0) := by
        obtain ⟨r, hr⟩ : ∃ r, rs.length - k = r + 1 := ⟨rs.length - k - 1, by omega⟩
        rw [List.set_append_right _ _ (by rw [HZ.out]; exact Nat.le_refl _), HZ.out, Nat.sub_self, hr, List.replicate_succ, List.set_cons_zero, show rs.length - (k + 1) = r by omega, List.append_assoc]
        rfl
      rw [hstep] at hst
      have HST := Lib.hid hst.1
      have HBF := Lib.hid ((HB.out.trans (hb3.mono hbs)).grown hst.2 (Nat.le_trans hbs hb3.size) fun g' e => by cases e; exact Nat.le_refl _)
      have hi3 := own_intsD ho3
      have hs2 := hst.2.size
      have HVN := Lib.hid (show RowsV (w3.setCell ⟨w.heap.size, k, none⟩ (.slice (some ⟨g, 0, none⟩) xs.length xs.length)) (w.heap.size + 1) (w3.setCell ⟨w.heap.size, k, none⟩ (.slice (some ⟨g, 0, none⟩) xs.length xs.length)).heap.size (zs ++ [.slice (some ⟨g, 0, none⟩) xs.length xs.length]) rs from fun j hj hj2 => by
        have hzz := HZ.out
        by_cases e : j < zs.length
        · obtain ⟨A', c', q1, q2⟩ := HV.out j hj e
          refine ⟨A', c', by rw [← q1]; simp [List.getD, List.getElem?_append_left e], ?_⟩
          refine ((q2.below hb3).kept hs2 fun b' h1 h2 => hst.2.block b' (Nat.lt_of_lt_of_le h2 hb3.size) (by simp; omega)).widen (Nat.le_refl _) (Nat.le_trans hb3.size hs2) (Nat.le_refl _)
        · have hj3 : j = zs.length := by simp at hj2; omega
          subst hj3
          rw [HZ.out, HXS.out]
          refine ⟨some ⟨g, 0, none⟩, xs.length, by rw [← HZ.out]; simp [List.getD], ?_⟩
          refine (hi3.kept hs2 fun b' h1 h2 => hst.2.block b' h2 (by simp; omega)).widen (by omega) hs2 (Nat.le_refl _))
      clear hst hstep hown3 hi3 hs2 hlen hb3 ho3
      go_wp2_with fail
      go_roundw
      case rel => exact ⟨k + 1, _, by omega, by go_num, by simp [HZ.out], HST.out, HVN.out, HBF.out⟩
      case measure => simp [intOf]; omega
    · obtain rfl : k = rs.length := by omega
      rw [Nat.sub_self, List.replicate_zero, List.append_nil] at hown
      have HOWN := Lib.hid hown
      clear hown
      go_wp2_with fail
      go_ret
      have hlt' := World.ownsRow.lt HOWN.out w.heap.size rfl
      refine ⟨_, rfl, ⟨Nat.le_refl _, fun hl => ⟨w.heap.size, 0, rfl, Nat.le_refl _, hlt'.2, fun k hk => ?_⟩⟩, HB.out⟩
      obtain ⟨A', c', q1, q2⟩ := HV.out k hk (by have := HZ.out; omega)
      refine ⟨A', c', ?_, q2.widen (by omega) (Nat.le_refl _) (Nat.le_refl _)⟩
      rw [Nat.zero_add, ← q1, World.ownsRow.cellAt HOWN.out k (by have := HZ.out; omega)]
      simp [List.getD, List.getElem?_eq_getElem (show k < zs.length by have := HZ.out; omega)]
end Go.Proofs.Ytcfgljfpkhefmaa
