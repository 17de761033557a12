/- What impl.FormatSteps answers: the steps in words, wherever the library's table of powers of ten reads as the program lays it. -/
import Derived.Test.YtggibhhdnlifcaaDoorFStepS
namespace Go.Proofs.YtggibhhdnlifcaaDoor
open Go.RowKit

theorem strs_at {W : World} {base : Nat} {v : Value} {ps : List ByteArray} (h : OwnStrs W base v ps) (hp : 0 < ps.length) : ∃ g c, v = .slice (some ⟨g, 0, none⟩) ps.length c := by
  rcases h.2 with ⟨_, h0⟩ | ⟨g, c, _, rfl, _⟩
  · omega
  · exact ⟨g, c, rfl⟩
theorem strs_below {W W' : World} {base : Nat} {v : Value} {ps : List ByteArray} (h : OwnStrs W base v ps) (hb : Below W.heap.size W W') : OwnStrs W' base v ps := own_below h hb
theorem join_mk (sep : ByteArray) (f : Nat → ByteArray) (n : Nat) : ByteArray.mk (Lib.join ((partsS f n).map (·.data.toList)) sep.data.toList).toArray = accS sep f n := (acc_join sep f n).symm

set_option maxHeartbeats 4000000 in
set_option maxRecDepth 100000 in
theorem implFSteps (l : List Stp) (A : Option Addr) (cap : Nat) (w : World) (hl : StepsAt w w.heap.size A l) (hr : R64L l) (hn : l.length ≤ 1048576) (ht : Tab w) :
    Calls Tryd.prog 8 #[.slice A l.length cap] w fun e w' => e = .returned (.string (fmtSteps l)) ∧ Below w.heap.size w w' := by
  have HL := Lib.hid hl
  have HR := Lib.hid hr
  have HT := Lib.hid ht
  have HSZ := Lib.hid (fun (n : Nat) (h : n ≤ l.length) => acc_size ⟨#[32]⟩ (stF l) 90 n fun k hk => (stepS_size (hr k (by omega))).2)
  clear hl hr ht
  by_cases h0 : l.length = 0
  · have HE := Lib.hid (fmtSteps_no h0)
    rw [h0]
    go_enter Tryd.func8, Tryd.ntmps8
    go_wp2_with fail
    go_ret
    exact ⟨by rw [HE.out] <;> rfl, Below.refl _ _⟩
  · have HE := Lib.hid (fmtSteps_yes (l := l) (by omega))
    have hbe : ((l.length : Int) == 0) = false := by
      have : ¬ ((l.length : Int) = 0) := by omega
      simpa using this
    go_enter Tryd.func8, Tryd.ntmps8
    go_wp2_with fail
    go_loopw [3, 11] (fun v i wr => ∃ k : Nat, k ≤ l.length ∧ i = .int .i64 k ∧ OwnStrs wr w.heap.size v (partsS (stF l) k) ∧ Below w.heap.size w wr) (fun _ i _ => l.length - (intOf i).toNat)
    case atStart => exact ⟨0, by omega, rfl, ⟨rfl, .inl ⟨rfl, rfl⟩⟩, Below.refl _ _⟩
    case round =>
      obtain ⟨k, hk, rfl, hst, hb⟩ := hrel
      have HB := Lib.hid hb
      have hbs := hb.size
      have hpl := parts_len (stF l) k
      obtain ⟨A1, c1, rfl⟩ := strs_shape hst
      have HS := Lib.hid hst
      clear hst hb
      by_cases hlt : k < l.length
      · have hi : (k : Int) < (l.length : Int) := by omega
        obtain ⟨b, off, rfl, hbB, hcell⟩ := HL.out (by omega)
        obtain ⟨d0, d1, d2, d3, d4⟩ := hcell k hlt
        have hc0 := (HB.out.cell (p := ⟨b, off + k * 5, none⟩) hbB).trans d0
        have hc1 := (HB.out.cell (p := ⟨b, off + k * 5 + 1, none⟩) hbB).trans d1
        have hc2 := (HB.out.cell (p := ⟨b, off + k * 5 + 2, none⟩) hbB).trans d2
        have hc3 := (HB.out.cell (p := ⟨b, off + k * 5 + 3, none⟩) hbB).trans d3
        have hc4 := (HB.out.cell (p := ⟨b, off + k * 5 + 4, none⟩) hbB).trans d4
        have hx := HR.out k hlt
        have HP := Lib.hid (parts_snoc (stF l) k)
        have hst : stF l k = stepS (l.getD k zS) := rfl
        rw [hst] at HP
        obtain ⟨x, hxe⟩ : ∃ x, l.getD k zS = x := ⟨_, rfl⟩
        rw [hxe] at hc0 hc1 hc2 hc3 hc4 hx HP
        obtain ⟨ps, hps⟩ : ∃ ps, partsS (stF l) k = ps := ⟨_, rfl⟩
        rw [hps] at HS HP hpl ⊢
        have HPL := Lib.hid hpl
        clear hcell d0 d1 d2 d3 d4 hxe hst hps hpl
        obtain ⟨x1, x2, x3, x4, x5⟩ := x
        dsimp only at hc0 hc1 hc2 hc3 hc4
        have HX := Lib.hid hx
        have hA := newB wr (.cells #[.int .i64 x1, .int .i64 x2, .int .i64 x3, .int .i64 x4, .int .i64 x5] 36)
        have HB0 := Lib.hid (belowB HB.out hA hbs)
        have HS0 := Lib.hid (strs_below HS.out hA)
        have HT0 := Lib.hid (HT.out.below (Below.mono (belowB HB.out hA hbs) (Nat.le_refl _)))
        have SB := Lib.hid (show SBox (wr.alloc (.cells #[.int .i64 x1, .int .i64 x2, .int .i64 x3, .int .i64 x4, .int .i64 x5] 36)) wr.heap.size (x1, x2, x3, x4, x5) from sbox_new wr (x1, x2, x3, x4, x5) 36)
        clear hA hx
        go_wp2_with fail
        generalize (wr.alloc (.cells #[.int .i64 x1, .int .i64 x2, .int .i64 x3, .int .i64 x4, .int .i64 x5] 36)) = w1 at *
        refine (stepFormat (x1, x2, x3, x4, x5) w1 HX.out HT0.out).mono ?_
        rintro e w2 ⟨rfl, hb2⟩
        have HB2 := Lib.hid (belowB HB0.out hb2 HB0.out.size)
        have HS2 := Lib.hid (strs_below HS0.out hb2)
        clear hb2 hc0 hc1 hc2 hc3 hc4
        obtain ⟨t, htt⟩ : ∃ t, stepS (x1, x2, x3, x4, x5) = t := ⟨_, rfl⟩
        rw [htt] at HP ⊢
        clear htt
        have hown : w2.ownsRow w.heap.size 9 1 (.slice A1 ps.length c1) ps.length (strVals ps) := HS2.out
        have hbs2 := HB2.out.size
        go_wp2_with (at_builtin; refine wpList_push _ rfl _ _ 40 rfl w.heap.size 9 (.string ⟨#[]⟩) 16 Tryd.underlying40 infoStr rfl _ _ _ rfl hown (.string t) rfl _ rfl (by have := HPL.out; omega) (by have := HPL.out; unfold maxLen; omega) hbs2 ?_; intro v' w' ho hb3; obtain ⟨A2, c2, rfl⟩ := strs_shape (OwnStrs.put ho); have HY := Lib.hid (OwnStrs.put ho); have HBY := Lib.hid (HB2.out.trans hb3); clear ho hb3)
        go_roundw
        case rel => exact ⟨k + 1, by omega, by go_num, by have h := HY.out; rw [List.length_append] at h; rw [HP.out]; exact h, HBY.out⟩
        case measure => simp [intOf]; omega
      · obtain rfl : k = l.length := by omega
        have hs := HSZ.out l.length (Nat.le_refl _)
        have hlen := acc_len ⟨#[32]⟩ (stF l) l.length
        have hj := join_mk ⟨#[32]⟩ (stF l) l.length
        obtain ⟨ps, hps⟩ : ∃ ps, partsS (stF l) l.length = ps := ⟨_, rfl⟩
        rw [hps] at HS hpl hlen hj ⊢
        have HLEN := Lib.hid hlen
        have HJ := Lib.hid hj
        have HPL := Lib.hid hpl
        clear hlen hj hps
        have hy4 : (⟨#[32]⟩ : ByteArray).size = 1 := rfl
        rw [hy4] at hs
        have HSS := Lib.hid hs
        clear hs hy4
        obtain ⟨g, c2, e2⟩ := strs_at HS.out (by omega)
        clear hpl
        cases e2
        have HCS := Lib.hid (strs_cells HS.out)
        have HCP := Lib.hid (strs_caps HS.out)
        go_wp2_with fail
        refine (Tryd.strings_Join g 0 c1 ps ⟨#[32]⟩ _ HCS.out HCP.out.1 (by have := HPL.out; omega) HCP.out.2 (by have := HSS.out; rw [HLEN.out]; omega)).mono ?_
        rintro e w5 ⟨rfl, hb5⟩
        rw [HJ.out]
        have HB5 := Lib.hid (belowB HB.out hb5 HB.out.size)
        clear hb5
        go_wp2_with fail
        go_ret
        exact ⟨by rw [HE.out] <;> rfl, HB5.out⟩
end Go.Proofs.YtggibhhdnlifcaaDoor
