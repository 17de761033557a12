/- What slices.BinarySearchFunc finds of a bar in a row of bars in their order: the place. No condition. -/
import Derived.Test.YtdkpmaahinbhlaaFzB1
import Derived.Deep.RegionHeld3
namespace Go.Proofs.Ytdkpmaahinbhlaa
open Go.RowKit

/-- The place, and whether the bar stands there. -/
def SearchP (w : World) (n : Nat) (e : Ending) (w' : World) : Prop := (∃ r : Bool, e = .returned (.tuple #[.int .i64 (n : Int), .bool r])) ∧ Below w.heap.size w w'

set_option maxHeartbeats 1000000 in
set_option maxRecDepth 100000 in
theorem search_c (x : Int × Int) (l : List (Int × Int)) (A : Option Addr) (cap : Nat) (w : World) (hl : BarsAt w w.heap.size A l) (hn : l.length ≤ 24) (ho : OrdB l) :
    Calls Try.prog 247 #[.slice A l.length cap, .agg #[.int .i64 x.1, .int .i64 x.2], .func (.func 196) #[] #[]] w (SearchP w (lowB x l)) := by
  have hA := new_below w (.cells #[.int .i64 x.1, .int .i64 x.2] 108)
  have HX := Lib.hid (box_new w x.1 (.int .i64 x.2) 108)
  have HL := Lib.hid (hl.on hA)
  have HA := Lib.hid hA
  have HLOW := Lib.hid (lowB_at x l ho)
  have HLE := Lib.hid (lowB_le x l)
  clear hl hA
  go_enter Try.func247, Try.ntmps247
  go_wp2_with fail
  generalize (w.alloc (.cells #[.int .i64 x.1, .int .i64 x.2] 108)) = w0 at *
  obtain ⟨x1, x2⟩ := x
  go_loopw [9, 10] (fun i j wr => ∃ a b : Nat, i = .int .i64 a ∧ j = .int .i64 b ∧ a ≤ lowB (x1, x2) l ∧ lowB (x1, x2) l ≤ b ∧ b ≤ l.length ∧ Below w0.heap.size w0 wr) (fun i j _ => (intOf j).toNat - (intOf i).toNat)
  case atStart => exact ⟨0, l.length, rfl, rfl, Nat.zero_le _, HLE.out, Nat.le_refl _, Below.refl _ _⟩
  case round =>
    obtain ⟨a, b, rfl, rfl, ha, hb, hbl, hbw⟩ := hrel
    have HB := Lib.hid hbw
    obtain ⟨_, e0, e1⟩ := HX.out.kept hbw
    have hbs := hbw.size
    clear hbw
    by_cases hlt : a < b
    · have hab : (a : Int) < (b : Int) := by omega
      obtain ⟨m, hm⟩ : ∃ m, m = (a + b) / 2 := ⟨_, rfl⟩
      have ham : a ≤ m := by omega
      have hmb : m < b := by omega
      obtain ⟨b0, off, rfl, hbB, hcell⟩ := HL.out (by omega)
      have hc1 := (HB.out.cell (p := ⟨b0, off + m * 2, none⟩) hbB).trans (hcell m (by omega)).1
      have hc2 := (HB.out.cell (p := ⟨b0, off + m * 2 + 1, none⟩) hbB).trans (hcell m (by omega)).2
      have HAT := Lib.hid (HLOW.out m (by omega))
      clear hcell
      have hw1 : IntKind.i64.wrap ((a : Int) + (b : Int)) = (a : Int) + (b : Int) := IntWalk.i64_in _ (by omega)
      have HME := Lib.hid (show ((a : Int) + (b : Int)) / 2 = (m : Int) by omega)
      have hm0 : (m : Int) < (l.length : Int) := by omega
      clear hm
      obtain ⟨y, hy⟩ : ∃ y, l.getD m (0, 0) = y := ⟨_, rfl⟩
      have HAY := Lib.hid (show aftB (x1, x2) y = true ↔ lowB (x1, x2) l ≤ m by rw [← hy]; exact HAT.out)
      rw [hy] at hc1 hc2
      clear hy
      have HCB := Lib.hid (cmpB_neg y (x1, x2))
      obtain ⟨y1, y2⟩ := y
      simp only at hc1 hc2
      obtain ⟨q, hq⟩ : ∃ q, q = lowB (x1, x2) l := ⟨_, rfl⟩
      rw [← hq] at ha hb HAY
      rw [← hq]
      go_wp2_with fail
      rw [HME.out]
      go_still_tail 6, (by kernel_rfl)
      change wpList _ _ _ _ _ wr.drew
      have HD := Lib.hid (HB.out.drew)
      have hds : w0.heap.size ≤ wr.drew.heap.size := hbs
      clear hc1 hc2 e0 e1
      generalize wr.drew = w2 at *
      go_wp2_with fail
      refine (compare_b (y1, y2) (x1, x2) _).mono ?_
      rintro e w3 ⟨rfl, hb3⟩
      have HB3 := Lib.hid (HD.out.trans (hb3.mono hds))
      clear hb3
      rcases hf : aftB (x1, x2) (y1, y2) with _ | _
      · have hlt3 : cmpB (y1, y2) (x1, x2) < 0 := HCB.out.2 hf
        have hmq : m < q := by
          refine Nat.lt_of_not_le fun h => ?_
          have := HAY.out.2 h
          rw [hf] at this
          cases this
        have hwm : IntKind.i64.wrap ((m : Int) + 1) = (m : Int) + 1 := IntWalk.i64_in _ (by omega)
        clear hf
        go_wp2_with fail
        go_roundw
        case rel => exact ⟨m + 1, b, by go_num, rfl, by omega, by omega, hbl, HB3.out⟩
        case measure => simp [intOf]; omega
      · have hlt3 : ¬ cmpB (y1, y2) (x1, x2) < 0 := fun h => by
          have := HCB.out.1 h
          rw [hf] at this
          cases this
        have hmq : q ≤ m := HAY.out.1 hf
        clear hf
        go_wp2_with fail
        go_roundw
        case rel => exact ⟨a, m, rfl, rfl, by omega, by omega, by omega, HB3.out⟩
        case measure => simp [intOf]; omega
    · have hae : a = lowB (x1, x2) l := by omega
      obtain ⟨q, hq⟩ : ∃ q, q = lowB (x1, x2) l := ⟨_, rfl⟩
      rw [← hq] at hae ha hb
      have HQ := Lib.hid hq
      clear hq
      subst hae
      by_cases hin : a < l.length
      · have hai : (a : Int) < (l.length : Int) := by omega
        obtain ⟨b0, off, rfl, hbB, hcell⟩ := HL.out (by omega)
        have hc1 := (HB.out.cell (p := ⟨b0, off + a * 2, none⟩) hbB).trans (hcell a hin).1
        have hc2 := (HB.out.cell (p := ⟨b0, off + a * 2 + 1, none⟩) hbB).trans (hcell a hin).2
        clear hcell
        obtain ⟨y, hy⟩ : ∃ y, l.getD a (0, 0) = y := ⟨_, rfl⟩
        rw [hy] at hc1 hc2
        clear hy
        obtain ⟨y1, y2⟩ := y
        simp only at hc1 hc2
        have hdr : Below wr.heap.size wr wr.drew := (Below.refl _ _).drew
        have HBD := Lib.hid (below_on HB.out hdr hbs)
        clear hdr
        go_wp2_with fail
        have hbb : b0 < wr.drew.heap.size := Nat.lt_of_lt_of_le hbB hbs
        have hxx : w.heap.size < wr.drew.heap.size := Nat.lt_of_lt_of_le HX.out.1 hbs
        go_region_held3 (fun W' => W'.cell? ⟨b0, off + a * 2, none⟩ = some (.int .i64 y1) ∧ W'.cell? ⟨b0, off + a * 2 + 1, none⟩ = some (.int .i64 y2) ∧ W'.cell? ⟨w.heap.size, 0, none⟩ = some (.int .i64 x1) ∧ W'.cell? ⟨w.heap.size, 1, none⟩ = some (.int .i64 x2))
          (first | exact ⟨hc1, hc2, e0, e1⟩ | exact ⟨k1, k2, k3, k4⟩ | fail)
          (first
            | (go_at_call 196; refine (compare_b (y1, y2) (x1, x2) _).mono ?_; rintro e w3 ⟨rfl, hb3⟩; have HB3 := Lib.hid (below_on HBD.out hb3 HBD.out.size); have k1 := (hb3.cell (p := ⟨b0, off + a * 2, none⟩) hbb).trans hc1; have k2 := (hb3.cell (p := ⟨b0, off + a * 2 + 1, none⟩) hbb).trans hc2; have k3 := (hb3.cell (p := ⟨w.heap.size, 0, none⟩) hxx).trans e0; have k4 := (hb3.cell (p := ⟨w.heap.size, 1, none⟩) hxx).trans e1; clear hb3))
        go_wp2_with fail
        go_ret2
        exact ⟨⟨_, by rw [← HQ.out]; rfl⟩, below_on HA.out HB3.out HA.out.size⟩
      · have hai : ¬ (a : Int) < (l.length : Int) := by omega
        go_wp2_with fail
        go_quiet (fail)
        go_wp2_with fail
        go_ret2
        exact ⟨⟨_, by rw [← HQ.out]; rfl⟩, below_on HA.out (HB.out.trans (below_drewN _ _ _)) HA.out.size⟩
end Go.Proofs.Ytdkpmaahinbhlaa
