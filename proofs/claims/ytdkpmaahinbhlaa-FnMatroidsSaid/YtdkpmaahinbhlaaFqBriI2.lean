/- slices.DeleteFunc with impl.BridgesOf's function value. No condition. -/
import Derived.Test.YtdkpmaahinbhlaaFqBriI1
import Derived.Test.YtdkpmaahinbhlaaFqB1
import Derived.Test.YtdkpmaahinbhlaaFqB2
import Derived.Deep.RegionHeld3
namespace Go.Proofs.Ytdkpmaahinbhlaa
open Go.RowKit

theorem below_of {B lo hi : Nat} {W W' : World} (h : Within lo hi W W') (hB : B ≤ lo) (hs : B ≤ W.heap.size) : Below B W W' :=
  ⟨h.os, h.tape, h.output, h.size, fun k hk => h.block k (by omega) (.inl (by omega))⟩
theorem below_tr {B : Nat} {W W' W'' : World} (h : Below B W W') (h' : Below B W' W'') : Below B W W'' := h.trans h'
theorem allN_all {p k c : Int} {l : List (Int × Int)} : ∀ n, (∀ j : Nat, j < n → stayB p k c l (j : Int) = false) → briK p k c l n = allN n := by
  intro n
  induction n with
  | zero => intro _; rfl
  | succ n ih =>
    intro h
    rw [briK_in (h n (by omega)), ih (fun j hj => h j (by omega)), allN_succ]
theorem take_set_snoc (X : List Int) (i : Nat) (v : Int) (h : i < X.length) : (X.set i v).take (i + 1) = X.take i ++ [v] := by
  have e : (X.set i v).take i = X.take i := by
    apply List.ext_getElem?
    intro t
    rw [List.getElem?_take, List.getElem?_take]
    by_cases ht : t < i
    · rw [if_pos ht, if_pos ht, List.getElem?_set_ne (by omega)]
    · rw [if_neg ht, if_neg ht]
  rw [List.take_succ_eq_append_getElem (by simpa using h), e]
  simp
theorem allN_take (n i : Nat) (h : i ≤ n) : (allN n).take i = allN i := by
  unfold allN
  rw [← List.map_take, List.take_range, Nat.min_eq_left h]
set_option maxHeartbeats 8000000 in
set_option maxRecDepth 100000 in
theorem delF_c (p k c : Int) (l : List (Int × Int)) (A : Option Addr) (cap b sbx rb B m : Nat) (g : Nat) (w : World) (hW : BrW p k c l A cap b sbx rb B w m) (hn : l.length ≤ 24) (hB : B ≤ b ∧ B ≤ g ∧ B ≤ w.heap.size) (hs : sbx ≠ b ∧ sbx ≠ g) (hr : rb ≠ b ∧ rb ≠ g) (hgb : g ≠ b) (hrow : w.ownsRow 0 3 1 (.slice (some ⟨g, 0, none⟩) l.length l.length) l.length (intCells (allN l.length))) (hm : m + 60 ≤ 1048576) :
    Calls Try.prog 140 #[.slice (some ⟨g, 0, none⟩) l.length l.length, .func (.func 141) #[] #[.pointer (some ⟨sbx, 0, none⟩), .pointer (some ⟨rb, 0, none⟩)]] w fun e w' => e = .returned (.slice (some ⟨g, 0, none⟩) (briK p k c l l.length).length l.length) ∧ w'.ownsRow 0 3 1 (.slice (some ⟨g, 0, none⟩) (briK p k c l l.length).length l.length) (briK p k c l l.length).length (intCells (briK p k c l l.length)) ∧ Below B w w' := by
  have hglt := (hrow.lt g rfl).2
  have HW0 := Lib.hid hW
  have HROW := Lib.hid hrow
  have HD := Lib.hid (And.intro hB (And.intro hs (And.intro hr hgb)))
  have HZ := Lib.hid (show IntsIn w g (g + 1) (some ⟨g, 0, none⟩) (allN l.length) from by
    refine ⟨hglt, fun h0 => ⟨g, 0, rfl, Nat.le_refl _, Nat.lt_succ_self _, fun j hj => ?_⟩⟩
    rw [Nat.zero_add]
    exact (hrow.cellAt j (by have := allN_len l.length; omega)).trans (intCells_get _ j hj))
  clear hW hrow hB hs hr hgb
  go_enter Try.func140, Try.ntmps140
  go_wp2_with fail
  refine (idxF_c p k c l A cap b sbx rb B m (some ⟨g, 0, none⟩) l.length g (g + 1) _ HW0.out hn HD.out.1.1 HD.out.2.1.1 HD.out.2.2.1.1 HZ.out (by have := HD.out.2.2.2; omega) (by omega)).mono ?_
  rintro e w2 ⟨m2, hw2, hm2, hwi, ⟨rfl, hall⟩ | ⟨i, hi, rfl, hst, hm3, hall⟩⟩
  · have HV := Lib.hid (allN_all l.length hall)
    have HR2 := Lib.hid (own_block HROW.out (hwi.block g hglt (by have := HD.out.2.2.2; omega)))
    have HBE := Lib.hid (below_of hwi HD.out.1.1 HD.out.1.2.2)
    clear hw2 hwi hall
    go_wp2_with fail
    go_ret
    rw [HV.out, allN_len]
    exact ⟨rfl, HR2.out, HBE.out⟩
  · have HW2 := Lib.hid hw2
    have HR2 := Lib.hid (own_block HROW.out (hwi.block g hglt (by have := HD.out.2.2.2; omega)))
    have HBE := Lib.hid (below_of hwi HD.out.1.1 HD.out.1.2.2)
    have hk0 : briK p k c l (i + 1) = allN i := by rw [briK_out hst, allN_all i hall]
    have HK0 := Lib.hid hk0
    have hii : ((i : Int) == -1) = false := by first | (simp; done) | (simp; omega)
    clear hw2 hwi hall hk0 hst
    go_wp2_with fail
    go_loopw [5, 6] (fun s5 s6 wr => ∃ (j i' m' : Nat) (X : List Int), j ≤ l.length ∧ s5 = .int .i64 i' ∧ s6 = .int .i64 j ∧ i' = (briK p k c l j).length ∧ i' < j ∧ X.length = l.length ∧ X.take i' = (briK p k c l j) ∧ (∀ u, j ≤ u → u < l.length → X.getD u 0 = (u : Int)) ∧ BrW p k c l A cap b sbx rb B wr m' ∧ m' ≤ m + 24 + j ∧ Below B w wr ∧ wr.ownsRow 0 3 1 (.slice (some ⟨g, 0, none⟩) l.length l.length) l.length (intCells X)) (fun _ s6 _ => l.length - (intOf s6).toNat)
    case atStart => exact ⟨i + 1, i, m2, allN l.length, by omega, rfl, by go_num, by rw [HK0.out, allN_len], by omega, allN_len _, by rw [HK0.out]; exact allN_take _ _ (by omega), fun u h1 h2 => allN_get _ _ h2, HW2.out, by omega, HBE.out, HR2.out⟩
    case round =>
      obtain ⟨j, i', m', X, hj, rfl, rfl, hil, hij, hXl, hXt, hXr, hw, hm', hbe, hrx⟩ := hrel
      have hgl := (hrx.lt g rfl).2
      have HWr := Lib.hid hw
      have HBr := Lib.hid hbe
      have HXX := Lib.hid (And.intro hil (And.intro hXl (And.intro hXt hXr)))
      have HRX := Lib.hid hrx
      have HBS := Lib.hid (show B ≤ wr.heap.size from Nat.le_trans HD.out.1.2.2 hbe.size)
      by_cases hlt : j < l.length
      · have hji : (j : Int) < (l.length : Int) := by omega
        have hcj := (hrx.cellAt j (by omega)).trans (intCells_get X j (by omega))
        rw [hXr j (Nat.le_refl _) hlt] at hcj
        clear hw hbe hil hXl hXt hXr hrx
        have HGB := Lib.hid hgl
        cases hst : stayB p k c l (j : Int) with
        | true =>
          have HST := Lib.hid hst
          have HN := Lib.hid (briK_out hst)
          clear hst
          go_wp2_with (go_at_call 141; refine (stay_c p k c l A cap b sbx rb B m' j _ HWr.out hn HD.out.1.1 HD.out.2.1.1 HD.out.2.2.1.1 hlt (by omega)).mono ?_; rintro e w5 ⟨rfl, hw5, hwi5⟩; rw [HST.out]; have HW5 := Lib.hid hw5; have HBE5 := Lib.hid (below_tr HBr.out (below_of hwi5 HD.out.1.1 HBS.out)); have HR5 := Lib.hid (own_block HRX.out (hwi5.block g HGB.out (by have := HD.out.2.2.2; omega))); clear hw5 hwi5)
          go_roundw
          case rel => exact ⟨j + 1, i', m' + 1, X, by omega, rfl, by go_num, by rw [HN.out]; exact HXX.out.1, by omega, HXX.out.2.1, by rw [HN.out]; exact HXX.out.2.2.1, fun u h1 h2 => HXX.out.2.2.2 u (by omega) h2, HW5.out, by omega, HBE5.out, HR5.out⟩
          case measure => simp [intOf]; omega
        | false =>
          have HST := Lib.hid hst
          have HN := Lib.hid (briK_in hst)
          clear hst
          have hil2 : (i' : Int) < (l.length : Int) := by omega
          go_wp2_with (go_at_call 141; refine (stay_c p k c l A cap b sbx rb B m' j _ HWr.out hn HD.out.1.1 HD.out.2.1.1 HD.out.2.2.1.1 hlt (by omega)).mono ?_; rintro e w5 ⟨rfl, hw5, hwi5⟩; rw [HST.out]; have HW5 := Lib.hid hw5; have HBE5 := Lib.hid (below_tr HBr.out (below_of hwi5 HD.out.1.1 HBS.out)); have hr5 := own_block HRX.out (hwi5.block g HGB.out (by have := HD.out.2.2.2; omega)); have hc5 := (hr5.cellAt i' (by have := HXX.out.2.1; omega)).trans (intCells_get X i' (by have := HXX.out.2.1; omega)); have hf5 := hr5.frozenAt i'; have hst5 := (hr5.stored i' (.int .i64 (j : Int))).1; rw [intCells_set] at hst5; have HR5 := Lib.hid hst5; have hsz5 := hwi5.size; have HS5 := Lib.hid hsz5; clear hw5 hwi5 hr5 hst5 hsz5)
          have hws := within_set w5 g i' (.int .i64 (j : Int))
          go_roundw
          case rel => exact ⟨j + 1, i' + 1, m' + 1, X.set i' (j : Int), by omega, by go_num, by go_num, by rw [HN.out, List.length_append, ← HXX.out.1]; rfl, by omega, by rw [List.length_set]; exact HXX.out.2.1, by rw [HN.out, take_set_snoc _ _ _ (by have := HXX.out.2.1; omega), HXX.out.2.2.1], fun u h1 h2 => by rw [set_getD_ne _ _ _ _ _ (by omega)]; exact HXX.out.2.2.2 u (by omega) h2, HW5.out.within hws (by have := HD.out.2.2.2; omega) HD.out.1.2.1 (by have := HD.out.2.1.2; omega) (by have := HD.out.2.2.1.2; omega), by omega, below_tr HBE5.out (below_of hws HD.out.1.2.1 (Nat.le_trans HBS.out HS5.out)), HR5.out⟩
          case measure => simp [intOf]; omega
      · obtain rfl : j = l.length := by omega
        have hiN : i' < l.length := hij
        have hcl : ∀ ty cc, (Builtin.clear_ #[29] ty #[.slice (some ⟨g, i', none⟩) (l.length - i') cc]).run Try.prog wr = .ok (.tuple #[]) (wr.setCells g i' (List.replicate (l.length - i') (.int .i64 0))) := fun ty cc => clearN wr ty g i' (l.length - i') cc (by omega) (fun j hj => by rw [hrx.cellAt _ (by omega), intCells_get X _ (by omega)]; rfl) (fun j _ => hrx.frozenAt _)
        obtain ⟨ys, hy1, hy2, hy3, hy4⟩ := own_setCellsI (List.replicate (l.length - i') (.int .i64 0)) i' wr (intCells X) hrx
        have hsh := own_shrinkI hy1 (m := i') (by omega)
        have hys : ys.take (i' * 1) = intCells (briK p k c l l.length) := by
          rw [Nat.mul_one, ← hXt]
          have hlx : (intCells X).length = l.length := by simp [intCells, hXl]
          apply List.ext_getElem?
          intro t
          rw [List.getElem?_take]
          by_cases ht : t < i'
          · rw [if_pos ht, hy4 t (by omega), if_neg (by omega)]
            unfold intCells
            rw [List.getElem?_map, List.getElem?_map, List.getElem?_take, if_pos ht]
          · rw [if_neg ht, List.getElem?_eq_none (by simp [intCells]; omega)]
        rw [hys] at hsh
        have hgw : Within g (g + 1) wr (wr.setCells g i' (List.replicate (l.length - i') (.int .i64 0))) := within_grown hy2
        have HSH := Lib.hid hsh
        have HBF := Lib.hid (below_tr hbe (below_of hgw HD.out.1.2.1 HBS.out))
        have e9 : l.length ≠ i' := by omega
        have e8 : ¬ (i' : Int) = (l.length : Int) := by omega
        have e7 : (i' : Int) ≤ (l.length : Int) := by omega
        have HIL := Lib.hid hil
        clear hw hbe hrx hil hXl hXt hXr hy1 hy2 hy3 hy4 hsh hys hgw
        go_wp2_with fail
        go_ret
        rw [← HIL.out]
        exact ⟨rfl, HSH.out, HBF.out⟩
end Go.Proofs.Ytdkpmaahinbhlaa
