/- What spec.OvercountedSet answers. No condition. -/
import Derived.Test.YtimgkekllanhmaaSpanS
import Derived.Test.YtimgkekllanhmaaRng
import Derived.Test.YtimgkekllanhmaaIsGraphI
import Derived.Test.YtimgkekllanhmaaState
namespace Go.Proofs.Ytimgkekllanhmaa
open Go.RowKit

/-- A row of ints of the call's own and a bool. -/
def IntsOB (w : World) (zs : List Int) (r : Bool) (e : Ending) (w' : World) : Prop :=
  ∃ A cap, e = .returned (.tuple #[.slice A zs.length cap, .bool r]) ∧ OwnInts w' w.heap.size w'.heap.size A cap zs ∧ Below w.heap.size w w'

theorem intsOB_nil {w w2 : World} {A : Option Addr} {cap : Nat} {zs : List Int} {r : Bool} (hb : Below w.heap.size w w2) (h : zs = [] ∧ r = false) : IntsOB w zs r (.returned (.tuple #[.slice A 0 cap, .bool false])) w2 := by
  obtain ⟨rfl, rfl⟩ := h
  exact ⟨A, cap, rfl, ⟨Nat.le_refl _, .inl rfl⟩, hb⟩
theorem IntsO.withB {w w' : World} {zs : List Int} {v : Value} {r : Bool} (h : IntsO w zs (.returned v) w') : IntsOB w zs r (.returned (.tuple #[v, .bool r])) w' := by
  obtain ⟨A, cap, e, h1, h2⟩ := h
  cases e
  exact ⟨A, cap, rfl, h1, h2⟩

set_option maxHeartbeats 4000000 in
set_option maxRecDepth 100000 in
theorem specOver (p k c : Int) (l : List (Int × Int)) (A : Option Addr) (cap : Nat) (w : World) (hl : BarsAt w w.heap.size A l) (hn : l.length ≤ 1048576) :
    Calls Try.prog 24 #[.agg #[.int .i64 p, .slice A l.length cap], .int .i64 k, .int .i64 c] w (IntsOB w (overL p l k c) (overB p l k c)) := by
  have hA := new_below w (.cells #[.int .i64 p, .slice A l.length cap] 30)
  have HA := Lib.hid hA
  have HLW := Lib.hid hl
  have BX := Lib.hid (box_new w p (.slice A l.length cap) 30)
  have HISG := specIsGraph' p l A cap _ (hl.on hA) hn
  clear hl hA
  have hrr := specRange k c
  rcases hg : isGB p l with _ | _
  · have HR := Lib.hid (over_no (k := k) (c := c) (.inl hg))
    rw [hg] at HISG
    clear hrr
    obtain ⟨_, g1, g2⟩ := BX.out
    go_enter Try.func24, Try.ntmps24
    go_wp2_with (go_at_call 42; refine HISG.mono ?_; rintro e w2 ⟨rfl, hb⟩; have HB := Lib.hid (below_on HA.out hb HA.out.size); clear HISG hb)
    go_ret2
    exact intsOB_nil (HB.out.trans ((new_below w2 _).mono HB.out.size)) HR.out
  · rw [hg] at HISG
    rcases hq : rangeB k c with _ | _
    · have HR := Lib.hid (over_no (p := p) (l := l) (.inr hq))
      rw [hq] at hrr
      obtain ⟨_, g1, g2⟩ := BX.out
      go_enter Try.func24, Try.ntmps24
      go_wp2_with (first | (go_at_call 42; refine HISG.mono ?_; rintro e w2 ⟨rfl, hb⟩; have HB := Lib.hid (below_on HA.out hb HA.out.size); clear HISG hb) | (go_at_call 28; refine (hrr _).mono ?_; rintro e w3 ⟨rfl, rfl⟩))
      go_ret2
      exact intsOB_nil (HB.out.trans ((new_below w2 _).mono HB.out.size)) HR.out
    · rw [hq] at hrr
      have hG : IsG p l := Classical.byContradiction fun g => by rw [isGB_no g] at hg; cases hg
      obtain ⟨P, rfl⟩ : ∃ P : Nat, p = (P : Int) := ⟨p.toNat, by have := hG.1; omega⟩
      have hP : 1 ≤ P ∧ P ≤ 8 := by have := hG.1; omega
      have h24 := hG.2.1
      have hk : 1 ≤ k ∧ k ≤ 3 ∧ 0 ≤ c ∧ c ≤ 2 * k - 1 := by simpa [rangeB, and_assoc] using hq
      have HE := Lib.hid (fun i (hi : i < l.length) => isG_bar hG i hi)
      have h256 : 2 ^ P ≤ 256 := (Nat.pow_le_pow_right (by decide) hP.2 : 2 ^ P ≤ 2 ^ 8)
      have h1P : 1 ≤ 2 ^ P := Nat.one_le_two_pow
      obtain ⟨N, hN⟩ : ∃ N : Nat, N = 2 ^ P := ⟨_, rfl⟩
      have hpw : wrap64 ((2 : Int) ^ P) = (N : Int) := by
        have h2 : ((2 : Int) ^ P) = ((2 ^ P : Nat) : Int) := by simp
        rw [h2, ← hN]
        unfold wrap64
        omega
      rw [← hN] at h256 h1P
      have HN := Lib.hid hN
      clear hN
      have HGQ := Lib.hid (And.intro hg hq)
      clear hG hg hq
      obtain ⟨_, g1, g2⟩ := BX.out
      go_enter Try.func24, Try.ntmps24
      go_wp2_with (first | (go_at_call 42; refine HISG.mono ?_; rintro e w2 ⟨rfl, hb⟩; have HB := Lib.hid (below_on HA.out hb HA.out.size); have BX2 := Lib.hid (BX.out.kept hb); clear HISG hb) | (go_at_call 28; refine (hrr _).mono ?_; rintro e w3 ⟨rfl, rfl⟩))
      clear g1 g2
      go_loopw [8] (fun i wr => ∃ m : Nat, 1 ≤ m ∧ m ≤ N ∧ i = .int .i64 m ∧ (∀ u, u < m → badS l k c P u = false) ∧ Box wr w.heap.size (P : Int) (.slice A l.length cap) ∧ Below w.heap.size w wr) (fun i _ => N - (intOf i).toNat)
      case atStart => exact ⟨1, Nat.le_refl _, h1P, rfl, fun u hu => by
        obtain rfl : u = 0 := by omega
        exact badS_zero l k c P, BX2.out, HB.out⟩
      case round =>
        obtain ⟨m, hm1, hm2, rfl, hall, hbx, hbw⟩ := hrel
        have HALL := Lib.hid hall
        have HBW := Lib.hid hbw
        have HBX := Lib.hid hbx
        obtain ⟨_, g1, g2⟩ := hbx
        have hbs := hbw.size
        clear hall hbw
        by_cases hlt : m < N
        · have him : (m : Int) < (N : Int) := by omega
          have hsl := setL_len P m
          have hcnt := Lib.hid (span_cnt P m l HE.out)
          have hcl := cntS_le l m
          have hbad : badS l k c P m = (decide (0 < cntS l m) && decide (k * ((setL P m).length : Int) - c < (cntS l m : Int))) := rfl
          have HLB := Lib.hid (HLW.out.on HBW.out)
          have hks : 0 ≤ k * ((setL P m).length : Int) ∧ k * ((setL P m).length : Int) ≤ 24 := by
            constructor
            · exact Int.mul_nonneg (by omega) (by omega)
            · calc k * ((setL P m).length : Int) ≤ 3 * ((setL P m).length : Int) := Int.mul_le_mul_of_nonneg_right (by omega) (by omega)
                _ ≤ 24 := by omega
          have armset : True := trivial
          by_cases h0 : 0 < cntS l m
          · have h0' : (0 : Int) < (cntS l m : Int) := by omega
            by_cases h1 : k * ((setL P m).length : Int) - c < (cntS l m : Int)
            · have HBD := Lib.hid (hbad.trans (by simp [h0, h1] : _ = true))
              have HR := Lib.hid (over_some HGQ.out.1 HGQ.out.2 HALL.out (by have := HN.out; omega) HBD.out)
              clear hbad
              go_wp2_with (first | (go_at_call 44; refine (specSet P m _ (by omega) (by omega)).mono ?_; rintro e w4 ⟨AS, cs, rfl, hs, hb⟩; have HS := Lib.hid hs; have HB4 := Lib.hid (below_on HBW.out hb hbs); have BX4 := Lib.hid (HBX.out.kept hb); have HL4 := Lib.hid (HLB.out.on hb); obtain ⟨_, g3, g4⟩ := BX4.out; clear hs hb) | (go_at_call 11; refine (specSpan (P : Int) l (setL P m) A AS cap cs _ _ _ HL4.out HS.out.reads (by omega) (by omega)).mono ?_; rintro e w5 ⟨AT, ct, rfl, ht, hb⟩; rw [hcnt.out] ; have HS5 := Lib.hid (HS.out.within (within_of hb) (by omega)); have HB5 := Lib.hid (below_on HB4.out hb HB4.out.size); have BX5 := Lib.hid (BX4.out.kept hb); clear ht hb g3 g4))
              go_ret2
              rw [HR.out.1, HR.out.2]
              exact ⟨AS, cs, rfl, HS5.out.widen hbs HS5.out.1 (Nat.le_refl _), HB5.out⟩
            · have HBD := Lib.hid (hbad.trans (by simp [h0, h1] : _ = false))
              clear hbad
              go_wp2_with (first | (go_at_call 44; refine (specSet P m _ (by omega) (by omega)).mono ?_; rintro e w4 ⟨AS, cs, rfl, hs, hb⟩; have HS := Lib.hid hs; have HB4 := Lib.hid (below_on HBW.out hb hbs); have BX4 := Lib.hid (HBX.out.kept hb); have HL4 := Lib.hid (HLB.out.on hb); obtain ⟨_, g3, g4⟩ := BX4.out; clear hs hb) | (go_at_call 11; refine (specSpan (P : Int) l (setL P m) A AS cap cs _ _ _ HL4.out HS.out.reads (by omega) (by omega)).mono ?_; rintro e w5 ⟨AT, ct, rfl, ht, hb⟩; rw [hcnt.out] ; have HS5 := Lib.hid (HS.out.within (within_of hb) (by omega)); have HB5 := Lib.hid (below_on HB4.out hb HB4.out.size); have BX5 := Lib.hid (BX4.out.kept hb); clear ht hb g3 g4))
              go_roundw
              case rel => exact ⟨m + 1, by omega, by omega, by go_num, fun u hu => (by
                by_cases e : u = m
                · rw [e]; exact HBD.out
                · exact HALL.out u (by omega)), BX5.out, HB5.out⟩
              case measure => simp [intOf]; omega
          · have hz0 : cntS l m = 0 := by omega
            have HBD := Lib.hid (hbad.trans (by simp [hz0] : _ = false))
            clear hbad
            rw [hz0] at hcnt
            go_wp2_with (first | (go_at_call 44; refine (specSet P m _ (by omega) (by omega)).mono ?_; rintro e w4 ⟨AS, cs, rfl, hs, hb⟩; have HS := Lib.hid hs; have HB4 := Lib.hid (below_on HBW.out hb hbs); have BX4 := Lib.hid (HBX.out.kept hb); have HL4 := Lib.hid (HLB.out.on hb); obtain ⟨_, g3, g4⟩ := BX4.out; clear hs hb) | (go_at_call 11; refine (specSpan (P : Int) l (setL P m) A AS cap cs _ _ _ HL4.out HS.out.reads (by omega) (by omega)).mono ?_; rintro e w5 ⟨AT, ct, rfl, ht, hb⟩; rw [hcnt.out] ; have HS5 := Lib.hid (HS.out.within (within_of hb) (by omega)); have HB5 := Lib.hid (below_on HB4.out hb HB4.out.size); have BX5 := Lib.hid (BX4.out.kept hb); clear ht hb g3 g4))
            go_roundw
            case rel => exact ⟨m + 1, by omega, by omega, by go_num, fun u hu => (by
              by_cases e : u = m
              · rw [e]; exact HBD.out
              · exact HALL.out u (by omega)), BX5.out, HB5.out⟩
            case measure => simp [intOf]; omega
        · obtain rfl : m = N := by omega
          have HR := Lib.hid (over_none (P := P) (k := k) (c := c) (l := l) fun u hu => HALL.out u (by have := HN.out; omega))
          go_wp2_with fail
          go_ret2
          exact intsOB_nil (HBW.out.trans ((new_below wr _).mono hbs)) HR.out
end Go.Proofs.Ytimgkekllanhmaa
