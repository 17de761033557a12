/- The function value of impl.BridgesOf, and slices.IndexFunc with it. No condition. -/
import Derived.Test.YtdkpmaahinbhlaaFqB2
import Derived.Test.YtdkpmaahinbhlaaFqWo
import Derived.Deep.RegionHeld3
namespace Go.Proofs.Ytdkpmaahinbhlaa
open Go.RowKit

theorem step_allB {P : Nat → Prop} {j : Nat} (h : ∀ u, u < j → P u) (hj : P j) : ∀ u, u < j + 1 → P u := fun u hu => by
  by_cases e : u = j
  · subst e; exact hj
  · exact h u (by omega)
/-- What stands while the function value is called: the set, the graph, the two boxes that it holds. -/
structure BrW (p k c : Int) (l : List (Int × Int)) (A : Option Addr) (cap b sbx rb B : Nat) (W : World) (m : Nat) : Prop where
  set : SetM W b m (allN l.length)
  bars : BarsIn W 0 B A l
  sbox : Cel5 W sbx 128 (.int .i64 p) (.slice A l.length cap) (.int .i64 k) (.int .i64 c) (.map (some b))
  rbox : W.heap[rb]? = some (.cells #[.int .i64 (rankV p k c l)] 3 (0, 0))
section
variable {p k c : Int} {l : List (Int × Int)} {A : Option Addr} {cap b sbx rb B m lo hi : Nat} {W W' : World}
theorem BrW.rlt (h : BrW p k c l A cap b sbx rb B W m) : rb < W.heap.size := (Array.getElem?_eq_some_iff.1 h.rbox).1
theorem BrW.within (h : BrW p k c l A cap b sbx rb B W m) (hw : Within lo hi W W') (h1 : b < lo ∨ hi ≤ b) (h2 : B ≤ lo) (h3 : sbx < lo ∨ hi ≤ sbx) (h4 : rb < lo ∨ hi ≤ rb) : BrW p k c l A cap b sbx rb B W' m :=
  ⟨h.set.within hw h1, h.bars.within hw (.inl h2), h.sbox.within hw h3, (hw.block rb h.rlt h4).trans h.rbox⟩
theorem BrW.map (h : BrW p k c l A cap b sbx rb B W m) {m' : Nat} (hw : Within b (b + 1) W W') (hs : SetM W' b m' (allN l.length)) (h2 : B ≤ b) (h3 : sbx ≠ b) (h4 : rb ≠ b) : BrW p k c l A cap b sbx rb B W' m' :=
  ⟨hs, h.bars.within hw (.inl h2), h.sbox.within hw (by omega), (hw.block rb h.rlt (by omega)).trans h.rbox⟩
theorem BrW.cell (h : BrW p k c l A cap b sbx rb B W m) : W.cell? ⟨rb, 0, none⟩ = some (.int .i64 (rankV p k c l)) := by
  rw [cell_of_row W rb 0 _ _ _ h.rbox]
  rfl
end
set_option maxHeartbeats 4000000 in
set_option maxRecDepth 100000 in
theorem stay_c (p k c : Int) (l : List (Int × Int)) (A : Option Addr) (cap b sbx rb B m : Nat) (j : Nat) (w : World) (hW : BrW p k c l A cap b sbx rb B w m) (hn : l.length ≤ 24) (hB : B ≤ b) (hs : sbx ≠ b) (hr : rb ≠ b) (hj : j < l.length) (hm : m + 1 ≤ 1048576) :
    Calls Try.prog 141 #[.int .i64 (j : Int), .pointer (some ⟨sbx, 0, none⟩), .pointer (some ⟨rb, 0, none⟩)] w fun e w' => e = .returned (.bool (stayB p k c l (j : Int))) ∧ BrW p k c l A cap b sbx rb B w' (m + 1) ∧ Within b (b + 1) w w' := by
  obtain ⟨rv, hrv⟩ : ∃ rv, stayB p k c l (j : Int) = rv := ⟨_, rfl⟩
  rw [hrv]
  unfold stayB at hrv
  have hbw := hW
  have hce := hW.cell
  obtain ⟨x0, x1, x2, x3, x4⟩ := hW.sbox.cells
  have hdr : Below w.heap.size w w.drew := (Below.refl _ _).drew
  have hwd : Within b (b + 1) w w.drew := (within_of hdr).widen (.inl (Nat.le_refl _))
  have HWD := Lib.hid (hW.map hwd (hW.set.within (within_of hdr) (.inr (Nat.zero_le _))) hB hs hr)
  have HDR := Lib.hid hwd
  have HMEM := Lib.hid (show (j : Int) ∈ allN l.length from (allN_mem _ _).2 ⟨by omega, by omega⟩)
  have HWF := Lib.hid (show (Lit.int .i64 (j : Int)).wf = true from WalkArith.wf_i64 (by omega))
  obtain ⟨r, hr1⟩ : ∃ r, rankV p k c l = r := ⟨_, rfl⟩
  obtain ⟨r2, hr2⟩ : ∃ r2, rankSV p k c l ((allN l.length).filter fun z => !decide (z = (j : Int))) = r2 := ⟨_, rfl⟩
  rw [hr1] at hce hrv
  rw [hr2] at hrv
  have HR1 := Lib.hid hr1
  have HR2 := Lib.hid hr2
  have HB := Lib.hid (And.intro hB (And.intro hs hr))
  have HN := Lib.hid (show l.length ≤ 1048576 from by omega)
  have HKK := Lib.hid (show (fun W' => W'.cell? ⟨sbx, 0, none⟩ = some (.int .i64 p) ∧ W'.cell? ⟨sbx, 1, none⟩ = some (.slice A l.length cap) ∧ W'.cell? ⟨sbx, 2, none⟩ = some (.int .i64 k) ∧ W'.cell? ⟨sbx, 3, none⟩ = some (.int .i64 c) ∧ W'.cell? ⟨sbx, 4, none⟩ = some (.map (some b)) ∧ W'.cell? ⟨rb, 0, none⟩ = some (.int .i64 r)) w.drew from ⟨HWD.out.sbox.cells.1, HWD.out.sbox.cells.2.1, HWD.out.sbox.cells.2.2.1, HWD.out.sbox.cells.2.2.2.1, HWD.out.sbox.cells.2.2.2.2, by rw [← hr1]; exact HWD.out.cell⟩)
  have HKF := Lib.hid (fun (W' : World) (m' : Nat) (h : BrW p k c l A cap b sbx rb B W' m') => show (fun W' => W'.cell? ⟨sbx, 0, none⟩ = some (.int .i64 p) ∧ W'.cell? ⟨sbx, 1, none⟩ = some (.slice A l.length cap) ∧ W'.cell? ⟨sbx, 2, none⟩ = some (.int .i64 k) ∧ W'.cell? ⟨sbx, 3, none⟩ = some (.int .i64 c) ∧ W'.cell? ⟨sbx, 4, none⟩ = some (.map (some b)) ∧ W'.cell? ⟨rb, 0, none⟩ = some (.int .i64 r)) W' from ⟨h.sbox.cells.1, h.sbox.cells.2.1, h.sbox.cells.2.2.1, h.sbox.cells.2.2.2.1, h.sbox.cells.2.2.2.2, by rw [← HR1.out]; exact h.cell⟩)
  clear hbw hW hdr hwd hr1 hr2 hB hs hr
  by_cases c9 : r2 = r
  · have HRV := Lib.hid (show rv = true from by rw [← hrv]; exact decide_eq_true c9)
    have d9 : (r2 == r) = true := by simpa using c9
    clear hrv
    go_enter Try.func141, Try.ntmps141
    go_wp2_with fail
    go_region_held3 (fun W' => W'.cell? ⟨sbx, 0, none⟩ = some (.int .i64 p) ∧ W'.cell? ⟨sbx, 1, none⟩ = some (.slice A l.length cap) ∧ W'.cell? ⟨sbx, 2, none⟩ = some (.int .i64 k) ∧ W'.cell? ⟨sbx, 3, none⟩ = some (.int .i64 c) ∧ W'.cell? ⟨sbx, 4, none⟩ = some (.map (some b)) ∧ W'.cell? ⟨rb, 0, none⟩ = some (.int .i64 r))
      (first | exact HKK.out | exact HKF.out _ _ HW5.out | fail)
      (first | (go_at_call 142; refine (rankWo p k c l A cap b m B (allN l.length) (j : Int) _ HWD.out.bars HB.out.1 HWD.out.set HN.out hm HWF.out HMEM.out).mono ?_; rintro e w5 ⟨rfl, hset, hwi⟩; rw [HR2.out]; have HW5 := Lib.hid (HWD.out.map hwi hset HB.out.1 HB.out.2.1 HB.out.2.2); have HWI := Lib.hid (HDR.out.trans hwi); clear hset hwi))
    go_wp2_with fail
    go_ret
    exact ⟨by rw [HRV.out]; rfl, HW5.out, HWI.out⟩
  · have HRV := Lib.hid (show rv = false from by rw [← hrv]; exact decide_eq_false c9)
    have d9 : (r2 == r) = false := by simpa using c9
    clear hrv
    go_enter Try.func141, Try.ntmps141
    go_wp2_with fail
    go_region_held3 (fun W' => W'.cell? ⟨sbx, 0, none⟩ = some (.int .i64 p) ∧ W'.cell? ⟨sbx, 1, none⟩ = some (.slice A l.length cap) ∧ W'.cell? ⟨sbx, 2, none⟩ = some (.int .i64 k) ∧ W'.cell? ⟨sbx, 3, none⟩ = some (.int .i64 c) ∧ W'.cell? ⟨sbx, 4, none⟩ = some (.map (some b)) ∧ W'.cell? ⟨rb, 0, none⟩ = some (.int .i64 r))
      (first | exact HKK.out | exact HKF.out _ _ HW5.out | fail)
      (first | (go_at_call 142; refine (rankWo p k c l A cap b m B (allN l.length) (j : Int) _ HWD.out.bars HB.out.1 HWD.out.set HN.out hm HWF.out HMEM.out).mono ?_; rintro e w5 ⟨rfl, hset, hwi⟩; rw [HR2.out]; have HW5 := Lib.hid (HWD.out.map hwi hset HB.out.1 HB.out.2.1 HB.out.2.2); have HWI := Lib.hid (HDR.out.trans hwi); clear hset hwi))
    go_wp2_with fail
    go_ret
    exact ⟨by rw [HRV.out]; rfl, HW5.out, HWI.out⟩

set_option maxHeartbeats 4000000 in
set_option maxRecDepth 100000 in
theorem idxF_c (p k c : Int) (l : List (Int × Int)) (A : Option Addr) (cap b sbx rb B m : Nat) (Z : Option Addr) (cz lo hi : Nat) (w : World) (hW : BrW p k c l A cap b sbx rb B w m) (hn : l.length ≤ 24) (hB : B ≤ b) (hs : sbx ≠ b) (hr : rb ≠ b) (hz : IntsIn w lo hi Z (allN l.length)) (hzb : hi ≤ b ∨ b < lo) (hm : m + 24 ≤ 1048576) :
    Calls Try.prog 158 #[.slice Z l.length cz, .func (.func 141) #[] #[.pointer (some ⟨sbx, 0, none⟩), .pointer (some ⟨rb, 0, none⟩)]] w fun e w' => ∃ m', BrW p k c l A cap b sbx rb B w' m' ∧ m' ≤ m + l.length ∧ Within b (b + 1) w w' ∧ ((e = .returned (.int .i64 (-1)) ∧ ∀ j : Nat, j < l.length → stayB p k c l (j : Int) = false) ∨ ∃ i : Nat, i < l.length ∧ e = .returned (.int .i64 (i : Int)) ∧ stayB p k c l (i : Int) = true ∧ m' ≤ m + i + 1 ∧ ∀ j : Nat, j < i → stayB p k c l (j : Int) = false) := by
  have HW0 := Lib.hid hW
  have HZ := Lib.hid hz
  have HB := Lib.hid (And.intro hB (And.intro hs hr))
  have HZL := Lib.hid (allN_len l.length)
  clear hW hz hB hs hr
  go_enter Try.func158, Try.ntmps158
  go_wp2_with fail
  go_loopw [8] (fun i wr => ∃ j : Nat, j ≤ l.length ∧ i = .int .i64 j ∧ (∀ u : Nat, u < j → stayB p k c l (u : Int) = false) ∧ BrW p k c l A cap b sbx rb B wr (m + j) ∧ Within b (b + 1) w wr) (fun i _ => l.length - (intOf i).toNat)
  case atStart => exact ⟨0, Nat.zero_le _, rfl, fun u hu => absurd hu (Nat.not_lt_zero _), HW0.out, Within.refl _ _ _⟩
  case round =>
    obtain ⟨j, hj, rfl, hall, hw, hwi⟩ := hrel
    have HALL := Lib.hid hall
    have HW := Lib.hid hw
    have HWI := Lib.hid hwi
    clear hall hw
    by_cases hlt : j < l.length
    · have hji : (j : Int) < (l.length : Int) := by omega
      obtain ⟨zb, zo, rfl, hzc⟩ := row_at (HZ.out.within hwi hzb) (by rw [allN_len]; omega)
      have hz := hzc j (by rw [allN_len]; omega)
      rw [allN_get _ _ hlt] at hz
      clear hzc hwi
      cases hst : stayB p k c l (j : Int) with
      | true =>
        have HST := Lib.hid hst
        go_wp2_with (go_at_call 141; refine (stay_c p k c l A cap b sbx rb B (m + j) j _ HW.out hn HB.out.1 HB.out.2.1 HB.out.2.2 hlt (by omega)).mono ?_; rintro e w5 ⟨rfl, hw5, hwi5⟩; rw [HST.out]; have HW5 := Lib.hid hw5; have HWI5 := Lib.hid (HWI.out.trans hwi5); clear hw5 hwi5)
        go_ret
        exact ⟨_, HW5.out, by omega, HWI5.out, .inr ⟨j, hlt, rfl, HST.out, by omega, HALL.out⟩⟩
      | false =>
        have HST := Lib.hid hst
        have HNX := Lib.hid (step_allB (P := fun u => stayB p k c l (u : Int) = false) HALL.out hst)
        go_wp2_with (go_at_call 141; refine (stay_c p k c l A cap b sbx rb B (m + j) j _ HW.out hn HB.out.1 HB.out.2.1 HB.out.2.2 hlt (by omega)).mono ?_; rintro e w5 ⟨rfl, hw5, hwi5⟩; rw [HST.out]; have HW5 := Lib.hid hw5; have HWI5 := Lib.hid (HWI.out.trans hwi5); clear hw5 hwi5)
        go_roundw
        case rel => exact ⟨j + 1, by omega, by go_num, HNX.out, HW5.out, HWI5.out⟩
        case measure => simp [intOf]; omega
    · obtain rfl : j = l.length := by omega
      go_wp2_with fail
      go_ret
      exact ⟨_, HW.out, Nat.le_refl _, HWI.out, .inl ⟨rfl, HALL.out⟩⟩
end Go.Proofs.Ytdkpmaahinbhlaa
