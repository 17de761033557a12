/- What spec.CountTrees answers. No condition. -/
import Derived.Test.YtedjhnedkghhoaaDetS
import Derived.Test.YtedjhnedkghhoaaIsGraphI
import Derived.Test.YtedjhnedkghhoaaCount
import Derived.Deep.QuietTactic
namespace Go.Proofs.Ytedjhnedkghhoaa
open Go.RowKit

/-- The rows of the matrix. -/
def lapR (l : List (Int × Int)) (a : Nat) : Nat → List Int
  | 0 => []
  | b + 1 => lapR l a b ++ [lapA l a b]
theorem lapR_len (l : List (Int × Int)) (a : Nat) : ∀ b, (lapR l a b).length = b := by
  intro b
  induction b with
  | zero => rfl
  | succ b ih => rw [lapR, List.length_append, ih]; rfl
theorem lapR_get (l : List (Int × Int)) (a : Nat) : ∀ b c, c < b → (lapR l a b).getD c 0 = lapA l a c := by
  intro b
  induction b with
  | zero => intro c hc; omega
  | succ b ih =>
    intro c hc
    have hl := lapR_len l a b
    rw [lapR]
    by_cases d : c < b
    · rw [← ih c d]
      simp only [List.getD]
      rw [List.getElem?_append_left (by omega)]
    · obtain rfl : c = b := by omega
      simp [List.getD, hl]
def lapL (l : List (Int × Int)) (P : Nat) : Nat → List (List Int)
  | 0 => []
  | k + 1 => lapL l P k ++ [lapR l k P]
theorem lapL_len (l : List (Int × Int)) (P : Nat) : ∀ k, (lapL l P k).length = k := by
  intro k
  induction k with
  | zero => rfl
  | succ k ih => rw [lapL, List.length_append, ih]; rfl
theorem lapL_get (l : List (Int × Int)) (P : Nat) : ∀ k r, r < k → (lapL l P k).getD r [] = lapR l r P := by
  intro k
  induction k with
  | zero => intro r hr; omega
  | succ k ih =>
    intro r hr
    have hl := lapL_len l P k
    rw [lapL]
    by_cases d : r < k
    · rw [← ih r d]
      simp only [List.getD]
      rw [List.getElem?_append_left (by omega)]
    · obtain rfl : r = k := by omega
      simp [List.getD, hl]
theorem lapL_ent (l : List (Int × Int)) (P r c : Nat) (hr : r < P) (hc : c < P) : entM (lapL l P P) r c = lapA l r c := by
  unfold entM
  rw [lapL_get l P P r hr, lapR_get l r P c hc]
theorem lapL_bd {l : List (Int × Int)} (h : l.length ≤ 24) (P r c : Nat) : -24 ≤ entM (lapL l P P) r c ∧ entM (lapL l P P) r c ≤ 24 := by
  by_cases hr : r < P
  · by_cases hc : c < P
    · rw [lapL_ent l P r c hr hc]
      exact lapA_bd h r c
    · have e : entM (lapL l P P) r c = 0 := by
        unfold entM
        rw [lapL_get l P P r hr]
        simp only [List.getD]
        rw [List.getElem?_eq_none (by rw [lapR_len]; omega)]
        rfl
      rw [e]
      exact ⟨by decide, by decide⟩
  · have e : entM (lapL l P P) r c = 0 := by
      have : (lapL l P P).getD r [] = [] := by
        simp only [List.getD]
        rw [List.getElem?_eq_none (by rw [lapL_len]; omega)]
        rfl
      unfold entM
      rw [this]
      rfl
    rw [e]
    exact ⟨by decide, by decide⟩

theorem GrowP.newer {a b : Nat} {V W W' : World} {ys : List Int} {A : Option Addr} {cap lo hi : Nat} (h : GrowP a b V W ys A cap lo hi) (hb : Below W.heap.size W W') : GrowP a b V W' ys A cap lo hi :=
  ⟨h.row.within (within_of hb) (.inr (Nat.zero_le _)), h.rng, Nat.le_trans h.le hb.size, ⟨hb.os.trans h.wi.os, hb.tape.trans h.wi.tape, hb.output.trans h.wi.output, Nat.le_trans h.wi.size hb.size, fun i hi hd => (hb.block i (Nat.lt_of_lt_of_le hi h.wi.size)).trans (h.wi.block i hi hd)⟩⟩
set_option maxHeartbeats 8000000 in
set_option maxRecDepth 100000 in
theorem specTre (p : Int) (l : List (Int × Int)) (A : Option Addr) (cap : Nat) (w : World) (hl : BarsAt w w.heap.size A l) (hn : l.length ≤ 1048576) :
    Calls Try.prog 30 #[.agg #[.int .i64 p, .slice A l.length cap]] w fun e w' => e = .returned (.int .i64 (treV p l)) ∧ Below w.heap.size w w' := by
  have HISG : ∀ W : World, BarsAt W W.heap.size A l → Calls Try.prog 87 #[.agg #[.int .i64 p, .slice A l.length cap]] W fun e w' => e = .returned (.bool (isGB p l)) ∧ Below W.heap.size W w' := fun W h => specIsGraph' p l A cap W h hn
  cases hg : isGB p l with
  | false =>
    have HRV := Lib.hid (treV_no (p := p) (l := l) (.inl hg))
    rw [hg] at HISG
    clear hg
    have W0 := Lib.hid (Below.refl w.heap.size w)
    have HB_0 := Lib.hid (bars_in hl)
    clear hl
    have Z1 := Lib.hid (within_alloc w (.cells #[.int .i64 p, (.slice A l.length cap)] 30)).size
    have W1 := Lib.hid (within_on W0.out (within_alloc w (.cells #[.int .i64 p, (.slice A l.length cap)] 30)) W0.out.size (.inr (Nat.le_refl _)))
    have HB_1 := Lib.hid (HB_0.out.within (within_alloc w (.cells #[.int .i64 p, (.slice A l.length cap)] 30)) (by omega))
    have Y1 := Lib.hid (show (w.alloc (.cells #[.int .i64 p, (.slice A l.length cap)] 30)).heap.size = w.heap.size + 1 by simp)
    have hnew := box_new w p (.slice A l.length cap) 30
    have BX_1 := Lib.hid hnew
    clear hnew
    go_enter Try.func30, Try.ntmps30
    obtain ⟨g0_0, g0_1, g0_2⟩ := BX_1.out
    go_wp2_with fail
    clear g0_0 g0_1 g0_2
    generalize (w.alloc (.cells #[.int .i64 p, (.slice A l.length cap)] 30)) = w1 at *
    have HW0 := Lib.hid (HISG _ HB_1.out.at)
    clear HISG
    refine HW0.out.mono ?_
    rintro e w2 ⟨rfl, hb⟩
    have Z2 := Lib.hid (within_of hb).size
    have W2 := Lib.hid (within_on W1.out (within_of hb) W1.out.size (.inr (Nat.le_refl _)))
    have HB_2 := Lib.hid (HB_1.out.within (within_of hb) (by omega))
    have BX_2 := Lib.hid (BX_1.out.within (within_of hb) (by omega))
    clear hb
    go_wp2_with fail
    go_ret
    exact ⟨by rw [HRV.out]; rfl, W2.out⟩
  | true =>
    have hG : IsG p l := Classical.byContradiction fun g => by rw [isGB_no g] at hg; cases hg
    by_cases hp6 : 6 < p
    · have HRV := Lib.hid (treV_no (p := p) (l := l) (.inr hp6))
      have hp6' : decide (6 < p) = true := decide_eq_true hp6
      rw [hg] at HISG
      clear hg hG
      have W0 := Lib.hid (Below.refl w.heap.size w)
      have HB_0 := Lib.hid (bars_in hl)
      clear hl
      have Z1 := Lib.hid (within_alloc w (.cells #[.int .i64 p, (.slice A l.length cap)] 30)).size
      have W1 := Lib.hid (within_on W0.out (within_alloc w (.cells #[.int .i64 p, (.slice A l.length cap)] 30)) W0.out.size (.inr (Nat.le_refl _)))
      have HB_1 := Lib.hid (HB_0.out.within (within_alloc w (.cells #[.int .i64 p, (.slice A l.length cap)] 30)) (by omega))
      have Y1 := Lib.hid (show (w.alloc (.cells #[.int .i64 p, (.slice A l.length cap)] 30)).heap.size = w.heap.size + 1 by simp)
      have hnew := box_new w p (.slice A l.length cap) 30
      have BX_1 := Lib.hid hnew
      clear hnew
      go_enter Try.func30, Try.ntmps30
      obtain ⟨g0_0, g0_1, g0_2⟩ := BX_1.out
      go_wp2_with fail
      clear g0_0 g0_1 g0_2
      generalize (w.alloc (.cells #[.int .i64 p, (.slice A l.length cap)] 30)) = w1 at *
      have HW0 := Lib.hid (HISG _ HB_1.out.at)
      clear HISG
      refine HW0.out.mono ?_
      rintro e w2 ⟨rfl, hb⟩
      have Z2 := Lib.hid (within_of hb).size
      have W2 := Lib.hid (within_on W1.out (within_of hb) W1.out.size (.inr (Nat.le_refl _)))
      have HB_2 := Lib.hid (HB_1.out.within (within_of hb) (by omega))
      have BX_2 := Lib.hid (BX_1.out.within (within_of hb) (by omega))
      clear hb
      obtain ⟨g1_0, g1_1, g1_2⟩ := BX_2.out
      go_wp2_with fail
      clear g1_0 g1_1 g1_2
      go_ret
      exact ⟨by rw [HRV.out]; rfl, W2.out⟩
    · have hp6' : decide (6 < p) = false := decide_eq_false hp6
      obtain ⟨P, rfl⟩ : ∃ P : Nat, p = (P : Int) := ⟨p.toNat, by have := hG.1; omega⟩
      have hP : 1 ≤ P ∧ P ≤ 6 := by have := hG.1; omega
      obtain ⟨n, hPn⟩ : ∃ n, P = n + 1 := ⟨P - 1, by omega⟩
      have hn5 : n ≤ 5 := by omega
      have HRV := Lib.hid (show treV (P : Int) l = detF n (lapA l) by rw [hPn]; exact treV_yes (by rw [← hPn]; exact hg) hn5)
      have HPN := Lib.hid hPn
      clear hPn
      have h24 := hG.2.1
      have HGR := Lib.hid hG
      have HLB := Lib.hid (lapA_bd (l := l) h24)
      rw [hg] at HISG
      clear hg hG hp6
      have W0 := Lib.hid (Below.refl w.heap.size w)
      have HB_0 := Lib.hid (bars_in hl)
      clear hl
      have Z1 := Lib.hid (within_alloc w (.cells #[.int .i64 (P : Int), (.slice A l.length cap)] 30)).size
      have W1 := Lib.hid (within_on W0.out (within_alloc w (.cells #[.int .i64 (P : Int), (.slice A l.length cap)] 30)) W0.out.size (.inr (Nat.le_refl _)))
      have HB_1 := Lib.hid (HB_0.out.within (within_alloc w (.cells #[.int .i64 (P : Int), (.slice A l.length cap)] 30)) (by omega))
      have Y1 := Lib.hid (show (w.alloc (.cells #[.int .i64 (P : Int), (.slice A l.length cap)] 30)).heap.size = w.heap.size + 1 by simp)
      have hnew := box_new w (P : Int) (.slice A l.length cap) 30
      have BX_1 := Lib.hid hnew
      clear hnew
      go_enter Try.func30, Try.ntmps30
      obtain ⟨g0_0, g0_1, g0_2⟩ := BX_1.out
      go_wp2_with fail
      clear g0_0 g0_1 g0_2
      generalize (w.alloc (.cells #[.int .i64 (P : Int), (.slice A l.length cap)] 30)) = w1 at *
      have HW0 := Lib.hid (HISG _ HB_1.out.at)
      clear HISG
      refine HW0.out.mono ?_
      rintro e w2 ⟨rfl, hb⟩
      have Z2 := Lib.hid (within_of hb).size
      have W2 := Lib.hid (within_on W1.out (within_of hb) W1.out.size (.inr (Nat.le_refl _)))
      have HB_2 := Lib.hid (HB_1.out.within (within_of hb) (by omega))
      have BX_2 := Lib.hid (BX_1.out.within (within_of hb) (by omega))
      clear hb
      obtain ⟨g1_0, g1_1, g1_2⟩ := BX_2.out
      have HAL := Lib.hid (new_below w2 (.cells #[] 25))
      have HG0 := Lib.hid (RowsG.made w2)
      go_wp2_with fail
      clear g1_0 g1_1 g1_2
      generalize w2.alloc (.cells #[] 25) = wA at *
      go_loopw [3, 4] (fun o i w' => ∃ (k T lo2 hi2 : Nat) (A' : Option Addr) (c' : Nat), k ≤ P ∧ i = .int .i64 k ∧ o = .slice A' k c' ∧ RowsG w' w2.heap.size T lo2 hi2 A' c' (lapL l P k) ∧ Below w2.heap.size w2 w') (fun _ i _ => P - (intOf i).toNat)
      case atStart => exact ⟨0, _, _, _, _, _, Nat.zero_le _, rfl, rfl, HG0.out, HAL.out⟩
      case round =>
        obtain ⟨k, T, lo2, hi2, A2, c2, hk, rfl, rfl, hrg, hb⟩ := hrel
        have HRG := Lib.hid hrg
        have HB2 := Lib.hid hb
        have BXK := Lib.hid (BX_2.out.kept hb)
        clear hrg hb
        obtain ⟨g0, g1, g2⟩ := BXK.out
        by_cases hkn : k < P
        · have hki : (k : Int) < (P : Int) := by omega
          obtain ⟨wy, rfl⟩ : ∃ x, x = wr := ⟨wr, rfl⟩
          have hal := new_below wy (.cells #[] 3)
          have HAL2 := Lib.hid hal
          have HOE := Lib.hid (ownR_empty wy)
          have HSZ2 := Lib.hid (show (wy.alloc (.cells #[] 3)).heap.size = wy.heap.size + 1 by simp)
          have HB3 := Lib.hid (below_on HB2.out hal HB2.out.size)
          have HG3 := Lib.hid (show GrowP wy.heap.size (wy.heap.size + 1) (wy.alloc (.cells #[] 3)) (wy.alloc (.cells #[] 3)) (lapR l k 0) (some ⟨wy.heap.size, 0, none⟩) 0 wy.heap.size (wy.heap.size + 1) from ⟨HOE.out, .inl ⟨rfl, rfl⟩, (by have := HSZ2.out; omega), Within.refl _ _ _⟩)
          clear hal
          go_wp2_with fail
          clear g0 g1 g2
          generalize wy.alloc (.cells #[] 3) = wV at *
          go_loopw [5, 6] (fun o i w' => ∃ (x : Nat) (Ar : Option Addr) (cr lo3 hi3 : Nat), x ≤ P ∧ i = .int .i64 x ∧ o = .slice Ar x cr ∧ GrowP wy.heap.size (wy.heap.size + 1) wV w' (lapR l k x) Ar cr lo3 hi3) (fun _ i _ => P - (intOf i).toNat)
          case atStart => exact ⟨0, _, 0, _, _, Nat.zero_le _, rfl, rfl, HG3.out⟩
          case round =>
            obtain ⟨x, Ar, cr, lo3, hi3, hx, rfl, rfl, hg⟩ := hrel
            have HG := Lib.hid hg
            have hbw := within_on HB3.out hg.wi HB3.out.size (.inl HB2.out.size)
            have HBX := Lib.hid hbw
            have hbl := within_on HAL2.out hg.wi HAL2.out.size (.inl (Nat.le_refl _))
            have HBL := Lib.hid hbl
            have BXX := Lib.hid (BX_2.out.kept hbw)
            have HBB := Lib.hid (HB_2.out.within (within_of hbw) (.inr (Nat.zero_le _)))
            clear hg hbw hbl
            have hln := lapR_len l k x
            obtain ⟨ys, hys⟩ : ∃ ys, lapR l k x = ys := ⟨_, rfl⟩
            rw [hys] at HG hln
            have HSTEP := Lib.hid (show lapR l k (x + 1) = ys ++ [lapA l k x] by rw [lapR, hys])
            have HY := Lib.hid hys
            have HLN := Lib.hid hln
            clear hys hln
            obtain ⟨g0, g1, g2⟩ := BXX.out
            by_cases hxn : x < P
            · have hxi : (x : Int) < (P : Int) := by omega
              have hbdx := HLB.out k x
              obtain ⟨y, hy⟩ : ∃ y, lapA l k x = y := ⟨_, rfl⟩
              rw [hy] at HSTEP hbdx
              have HYV := Lib.hid hy
              clear hy
              by_cases hkx : k = x
              · have hd : ((k : Int) == (x : Int)) = true := by rw [beq_iff_eq]; omega
                have HDG := Lib.hid (show ((l.countP (endB (k : Int)) : Nat) : Int) = y by rw [← HYV.out]; unfold lapA; rw [if_pos hkx])
                clear hkx
                go_wp2_with fail
                refine (specDegree (P : Int) (k : Int) l A cap _ HBB.out.at hn).mono ?_
                rintro e w5 ⟨rfl, hb⟩
                rw [HDG.out]
                have HG5 := Lib.hid (HG.out.newer hb)
                clear hb g0 g1 g2
                go_wp2_with (at_builtin; refine wpList_pushR _ rfl _ _ rfl lo3 hi3 Ar cr ys y (by rw [HLN.out]; rfl) HG5.out.row _ (by first | rfl | (simp only [World.size_setCell]; rfl)) (by have := HLN.out; omega) HG5.out.le ?_; intro A6 c6 w16 lo6 hi6 hr6 hor6 hw6; rw [HLN.out]; have HG6 := Lib.hid (HG5.out.push hr6 hor6 hw6); clear hr6 hor6 hw6)
                go_roundw
                case rel => exact ⟨x + 1, A6, c6, lo6, hi6, by omega, by go_num, rfl, by rw [HSTEP.out]; exact HG6.out⟩
                case measure => simp [intOf]; omega
              · have hd : ((k : Int) == (x : Int)) = false := by rw [beq_eq_false_iff_ne]; omega
                obtain ⟨c, hc⟩ : ∃ c, ((l.countP (hitB (k : Int) (x : Int)) : Nat) : Int) = c := ⟨_, rfl⟩
                have hyc : y = -c := by rw [← HYV.out, ← hc]; unfold lapA; rw [if_neg hkx]
                have HCT := Lib.hid hc
                clear hkx hc
                subst hyc
                have hcw : IntKind.i64.wrap (-c) = -c := IntWalk.i64_in _ (by omega)
                go_wp2_with fail
                refine (specCount (P : Int) (k : Int) (x : Int) l A cap _ HBB.out.at hn).mono ?_
                rintro e w5 ⟨rfl, hb⟩
                rw [HCT.out]
                have HG5 := Lib.hid (HG.out.newer hb)
                clear hb g0 g1 g2
                go_wp2_with (at_builtin; refine wpList_pushR _ rfl _ _ rfl lo3 hi3 Ar cr ys (-c) (by rw [HLN.out]; rfl) HG5.out.row _ (by first | rfl | (simp only [World.size_setCell]; rfl)) (by have := HLN.out; omega) HG5.out.le ?_; intro A6 c6 w16 lo6 hi6 hr6 hor6 hw6; rw [HLN.out]; have HG6 := Lib.hid (HG5.out.push hr6 hor6 hw6); clear hr6 hor6 hw6)
                go_roundw
                case rel => exact ⟨x + 1, A6, c6, lo6, hi6, by omega, by go_num, rfl, by rw [HSTEP.out]; exact HG6.out⟩
                case measure => simp [intOf]; omega
            · obtain rfl : x = P := by omega
              have HRG5 := Lib.hid (HRG.out.below HBL.out)
              have HOX := Lib.hid (HG.out.row.ints)
              have HTOP := Lib.hid (show T ≤ lo3 by have := HG.out.rng; have := HRG.out.top; have := HSZ2.out; omega)
              obtain ⟨zs, r, S, z1, z2, z3, z4⟩ := HRG5.out.rows
              rw [lapL_len] at z1
              have HZ1 := Lib.hid z1
              have HZ2 := Lib.hid z2
              have HZ3 := Lib.hid (show RowsP _ w2.heap.size T lo2 hi2 zs (lapL l x k) from ⟨r, S, z3, z4⟩)
              have HLO := Lib.hid (show lo2 ≤ _ from Nat.le_trans HRG5.out.out.2.1 HRG5.out.top)
              have HOB := Lib.hid (HRG5.out.out.1)
              clear z1 z2 z3 z4
              go_wp2_with (at_builtin; refine wpList_pushS _ rfl _ _ rfl lo2 hi2 A2 c2 zs (.slice Ar x cr) rfl (by rw [HZ1.out]; rfl) HZ2.out _ rfl (by have := HZ1.out; omega) HLO.out ?_; intro A7 c7 w7 lo7 hi7 ho7 hd7 hw7; have HO7 := Lib.hid ho7; have HD7 := Lib.hid hd7; have HW7 := Lib.hid hw7; clear ho7 hd7 hw7)
              have HRG7 := Lib.hid (HRG5.out.push (q := (lo3, hi3)) (Ax := Ar) (cx := cr) (x := ys) HOX.out HTOP.out (HZ1.out.trans (lapL_len _ _ _).symm) HZ3.out (by rw [HLN.out]; exact HO7.out) HD7.out HW7.out)
              go_roundw
              case rel => exact ⟨k + 1, _, _, _, _, _, by omega, by go_num, by rw [HZ1.out], by rw [lapL, HY.out]; exact HRG7.out, within_on HBX.out HW7.out HBX.out.size (.inl HOB.out)⟩
              case measure => simp [intOf]; omega
        · obtain rfl : k = P := by omega
          have HRI := Lib.hid HRG.out.cells.reads
          have hPe := HPN.out
          have hcall := l8Det_c n hn5 (lapL l k k) A2 c2 _ _ _ HRI.out (by rw [lapL_len]; omega) (by rw [lapL_len]; omega) (fun r hr => by rw [lapL_len] at hr; rw [lapL_get _ _ _ _ hr, lapR_len]; omega) (lapL_bd h24 k)
          rw [lapL_len, detF_congr n (entM (lapL l k k)) (lapA l) (fun r c hr hc => lapL_ent l k r c (by omega) (by omega)), ← HRV.out] at hcall
          have HC := Lib.hid hcall
          clear hcall
          have hcs : (k : Int) - 1 = (n : Int) := by omega
          clear hPe
          go_wp2_with fail
          refine HC.out.mono ?_
          rintro e w5 ⟨rfl, hb⟩
          have HB5 := Lib.hid (below_on HB2.out hb HB2.out.size)
          clear hb
          go_wp2_with fail
          go_ret
          exact ⟨rfl, below_on W2.out HB5.out W2.out.size⟩
end Go.Proofs.Ytedjhnedkghhoaa
