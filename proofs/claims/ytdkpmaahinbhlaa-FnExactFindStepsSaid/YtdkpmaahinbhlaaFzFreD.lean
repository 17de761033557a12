/- slices.DeleteFunc at rows of bars with impl.Graph.freed's function value. No condition. -/
import Derived.Test.YtdkpmaahinbhlaaFzFreI
import Derived.Test.YtdkpmaahinbhlaaFzB1
import Derived.Test.YtdkpmaahinbhlaaFzRemoveS
namespace Go.Proofs.Ytdkpmaahinbhlaa
open Go.RowKit

theorem zeroB (n : Nat) : (Builtin.zeroCells (Value.agg #[.int .i64 0, .int .i64 0]).cells n).toList = List.replicate (n * 2) (.int .i64 0) := by
  unfold Builtin.zeroCells
  apply List.ext_getElem?
  intro j
  simp only [Value.cells]
  by_cases h : j < n * 2
  · have : j % 2 = 0 ∨ j % 2 = 1 := by omega
    rcases this with e | e <;> simp [h, e]
  · simp [h]
theorem clearB (w : World) (ty : TypeId) (b o n c : Nat) (hn : 0 < n) (hc : ∀ j, j < n * 2 → (w.cell? ⟨b, o + j, none⟩).isSome = true) (hf : ∀ j, j < n * 2 → w.frozen? ⟨b, o + j, none⟩ = false) :
    (Builtin.clear_ #[24] ty #[.slice (some ⟨b, o, none⟩) n c]).run Try.prog w = .ok (.tuple #[]) (w.setCells b o (List.replicate (n * 2) (.int .i64 0))) := by
  obtain ⟨n, rfl⟩ : ∃ u, n = u + 1 := ⟨n - 1, by omega⟩
  have hv := Try.zeroValue108
  have hst := run_storeCells_cells (P := Try.prog) b o (List.replicate ((n + 1) * 2) (.int .i64 0)) 0 w (fun j hj => by rw [List.length_replicate] at hj; rw [Nat.add_zero]; exact hc j hj) (fun j hj => by rw [List.length_replicate] at hj; rw [Nat.add_zero]; exact hf j hj) (by intro v hv'; rw [List.eq_of_mem_replicate hv']; rfl)
  simp only [Nat.add_zero] at hst
  simp [Builtin.clear_, run_underlying Try.underlying24, hv, zeroB, hst]
theorem off_none {v : Int} {l : List (Int × Int)} : ∀ n, n ≤ l.length → noneAt v l n → offI v (l.take n) = l.take n := by
  intro n
  induction n with
  | zero => intro _ _; rfl
  | succ n ih =>
    intro hn h
    rw [offI_succ v l n (by omega), ih (by omega) (fun u hu => h u (by omega)), if_pos (by rw [h n (by omega)]; rfl)]
    rw [List.take_succ_eq_append_getElem (by omega)]
    simp [List.getD, List.getElem?_eq_getElem (show n < l.length by omega)]
theorem take_set_snocB (X : List (Int × Int)) (i : Nat) (x : Int × Int) (h : i < X.length) : (X.set i x).take (i + 1) = X.take i ++ [x] := by
  have e : (X.set i x).take i = X.take i := by
    apply List.ext_getElem?
    intro t
    rw [List.getElem?_take, List.getElem?_take]
    by_cases ht : t < i
    · rw [if_pos ht, if_pos ht, List.getElem?_set_ne (by omega)]
    · rw [if_neg ht, if_neg ht]
  rw [List.take_succ_eq_append_getElem (by simpa using h), e]
  simp
theorem set_getB {X : List (Int × Int)} {i u : Nat} {x : Int × Int} (h : i ≠ u) : (X.set i x).getD u (0, 0) = X.getD u (0, 0) := by
  rw [List.getD_eq_getElem?_getD, List.getD_eq_getElem?_getD, List.getElem?_set_ne h]
theorem within_grownB {W W' : World} {g : Nat} (hg : W.grownBy W' (some g)) : Within g (g + 1) W W' := ⟨hg.os, hg.tape, hg.output, hg.size, fun j hj hd => hg.block j hj (by simp; omega)⟩
theorem box2_cell (w : World) (x y : Int) : (w.alloc (.cells #[.int .i64 x, .int .i64 y] 108)).cell? ⟨w.heap.size, 0, none⟩ = some (.int .i64 x) ∧ (w.alloc (.cells #[.int .i64 x, .int .i64 y] 108)).cell? ⟨w.heap.size, 1, none⟩ = some (.int .i64 y) := ⟨by rw [World.cell?_alloc_at _ _ _ _ rfl]; rfl, by rw [World.cell?_alloc_at _ _ _ _ rfl]; rfl⟩
set_option maxHeartbeats 8000000 in
set_option maxRecDepth 100000 in
theorem delFB_c (v : Int) (l : List (Int × Int)) (g cap vb base : Nat) (w : World) (hrow : w.ownsRow base 108 2 (.slice (some ⟨g, 0, none⟩) l.length cap) l.length (barCells l)) (hv : w.cell? ⟨vb, 0, none⟩ = some (.int .i64 v)) (hlt : vb < w.heap.size) (hvg : vb ≠ g) (hn : l.length ≤ 1048576) (hc1 : l.length ≤ cap) (hc2 : cap ≤ 9223372036854775807) :
    Calls Try.prog 240 #[.slice (some ⟨g, 0, none⟩) l.length cap, .func (.func 241) #[] #[.pointer (some ⟨vb, 0, none⟩)]] w fun e w' =>
      e = .returned (.slice (some ⟨g, 0, none⟩) (offI v l).length cap) ∧ w'.ownsRow base 108 2 (.slice (some ⟨g, 0, none⟩) (offI v l).length cap) (offI v l).length (barCells (offI v l)) ∧ Within g (g + 1) w w' := by
  have hglt := (hrow.lt g rfl).2
  have HROW := Lib.hid hrow
  have HZ := Lib.hid (show BarsIn w g (g + 1) (some ⟨g, 0, none⟩) l from ⟨hglt, fun h0 => by
    obtain ⟨b, off, e, _, hc⟩ := own_bars hrow h0
    cases e
    exact ⟨g, 0, rfl, Nat.le_refl _, Nat.lt_succ_self _, hc⟩⟩)
  have HV := Lib.hid hv
  have HT := Lib.hid hlt
  have HC := Lib.hid (And.intro hc1 hc2)
  clear hrow hv hlt
  go_enter Try.func240, Try.ntmps240
  go_wp2_with fail
  refine (idxFB_c v l (some ⟨g, 0, none⟩) cap vb g (g + 1) _ HZ.out HV.out HT.out hn).mono ?_
  rintro e w2 ⟨hb, ⟨rfl, hno⟩ | ⟨i, hi, rfl, hat, hno⟩⟩
  · have HE := Lib.hid (show offI v l = l by have := off_none l.length (Nat.le_refl _) hno; rwa [List.take_length] at this)
    have HR2 := Lib.hid (own_block HROW.out (hb.block g hglt))
    have HW2 := Lib.hid ((within_of hb).widen (lo' := g) (hi' := g + 1) (.inl (Nat.le_refl _)))
    clear hb hno
    go_wp2_with fail
    go_ret
    rw [HE.out]
    exact ⟨rfl, HR2.out, HW2.out⟩
  · have hk0 : offI v (l.take (i + 1)) = l.take i := by
      rw [offI_succ v l i hi, off_none i (by omega) hno, if_neg (by rw [hat]; simp), List.append_nil]
    have HK0 := Lib.hid hk0
    have hii : ((i : Int) == -1) = false := by first | (simp; done) | (simp; omega)
    have HR2 := Lib.hid (own_block HROW.out (hb.block g hglt))
    have HW2 := Lib.hid ((within_of hb).widen (lo' := g) (hi' := g + 1) (.inl (Nat.le_refl _)))
    clear hb hno hk0 hat
    go_wp2_with fail
    go_loopw [5, 6, 7] (fun s5 s6 _ wr => ∃ (j i' : Nat) (X : List (Int × Int)), j ≤ l.length ∧ s5 = .int .i64 i' ∧ s6 = .int .i64 j ∧ i' = (offI v (l.take j)).length ∧ i' < j ∧ X.length = l.length ∧ X.take i' = offI v (l.take j) ∧ (∀ u, j ≤ u → u < l.length → X.getD u (0, 0) = l.getD u (0, 0)) ∧ Within g (g + 1) w wr ∧ wr.ownsRow base 108 2 (.slice (some ⟨g, 0, none⟩) l.length cap) l.length (barCells X)) (fun _ s6 _ _ => l.length - (intOf s6).toNat)
    case atStart => exact ⟨i + 1, i, l, by omega, rfl, by go_num, by rw [HK0.out, List.length_take]; omega, by omega, rfl, by rw [HK0.out], fun _ _ _ => rfl, HW2.out, HR2.out⟩
    case round =>
      clear HK0 HR2 HW2 hii
      obtain ⟨j, i', X, hj, rfl, rfl, hil, hij, hXl, hXt, hXr, hwi, hrx⟩ := hrel
      have hgl := (hrx.lt g rfl).2
      have HGL := Lib.hid hgl
      have HWI := Lib.hid hwi
      have HXX := Lib.hid (And.intro hil (And.intro hXl (And.intro hXt hXr)))
      have HRX := Lib.hid hrx
      have HVR := Lib.hid ((World.cell?_of_block (a := ⟨vb, 0, none⟩) (hwi.block vb HT.out (by omega))).trans HV.out)
      have HTR := Lib.hid (Nat.lt_of_lt_of_le HT.out hwi.size)
      by_cases hlt : j < l.length
      · have hji : (j : Int) < (l.length : Int) := by omega
        have hgc := barCells_get X j (by omega)
        have hlenX := barCells_len X
        have hd1 := (hrx.cellAt (j * 2) (by omega)).trans hgc.1
        have hd2 := (hrx.cellAt (j * 2 + 1) (by omega)).trans hgc.2
        rw [hXr j (Nat.le_refl _) hlt] at hd1 hd2
        have hsu := offI_succ v l j hlt
        obtain ⟨x, hx⟩ : ∃ x, l.getD j (0, 0) = x := ⟨_, rfl⟩
        rw [hx] at hd1 hd2 hsu
        obtain ⟨x1, x2⟩ := x
        simp only at hd1 hd2
        have HSU := Lib.hid hsu
        have hnb := new_below wr (.cells #[.int .i64 x1, .int .i64 x2] 108)
        have HNB := Lib.hid hnb
        have HWL := Lib.hid (show wr.heap.size < (wr.alloc (.cells #[.int .i64 x1, .int .i64 x2] 108)).heap.size by simp)
        have HXB := Lib.hid (box2_cell wr x1 x2)
        have HFC := Lib.hid (fre1_c v (x1, x2) vb (wr.alloc (.cells #[.int .i64 x1, .int .i64 x2] 108)) ((hnb.cell (p := ⟨vb, 0, none⟩) HTR.out).trans HVR.out) (Nat.lt_of_lt_of_le HTR.out hnb.size))
        clear hgc hx hsu hnb hil hXl hXt hXr hwi hrx hlenX
        cases he : endB v (x1, x2) with
        | true =>
          have HE := Lib.hid he
          have HN := Lib.hid (show offI v (l.take (j + 1)) = offI v (l.take j) by rw [HSU.out, if_neg (by rw [he]; simp), List.append_nil])
          clear he
          go_wp2_with (go_at_call 241; refine HFC.out.mono ?_; rintro e w5 ⟨rfl, hb5⟩; rw [HE.out]; have hb6 := below_on HNB.out hb5 HNB.out.size; have HB5 := Lib.hid hb6; clear hb5 hb6)
          go_roundw
          case rel => exact ⟨j + 1, i', X, by omega, rfl, by go_num, by rw [HN.out]; exact HXX.out.1, by omega, HXX.out.2.1, by rw [HN.out]; exact HXX.out.2.2.1, fun u h1 h2 => HXX.out.2.2.2 u (by omega) h2, HWI.out.trans ((within_of HB5.out).widen (.inl (Nat.le_refl _))), own_block HRX.out (HB5.out.block g HGL.out)⟩
          case measure => simp [intOf]; omega
        | false =>
          have HE := Lib.hid he
          have HN := Lib.hid (show offI v (l.take (j + 1)) = offI v (l.take j) ++ [(x1, x2)] by rw [HSU.out, if_pos (by rw [he]; rfl)])
          clear he
          have hil2 : (i' : Int) < (l.length : Int) := by omega
          go_wp2_with (go_at_call 241; refine HFC.out.mono ?_; rintro e w5 ⟨rfl, hb5⟩; rw [HE.out]; have hb6 := below_on HNB.out hb5 HNB.out.size; have HB5 := Lib.hid hb6; have q3 := (hb5.cell (p := ⟨wr.heap.size, 0, none⟩) HWL.out).trans HXB.out.1; have q4 := (hb5.cell (p := ⟨wr.heap.size, 1, none⟩) HWL.out).trans HXB.out.2; have hr5 := own_block HRX.out (hb6.block g HGL.out); have hgc5 := barCells_get X i' (by have := HXX.out.2.1; omega); have hlX := barCells_len X; have hXl := HXX.out.2.1; have hd5 := (hr5.cellAt (i' * 2) (by omega)).trans hgc5.1; have hd6 := (hr5.cellAt (i' * 2 + 1) (by omega)).trans hgc5.2; have hf5 := hr5.frozenAt (i' * 2); have hf6 := hr5.frozenAt (i' * 2 + 1); have hst1 := hr5.stored (i' * 2) (.int .i64 x1); have hst2 := hst1.1.stored (i' * 2 + 1) (.int .i64 x2); have HG2 := Lib.hid (within_grownB (hst1.2.trans_ hst2.2)); have hst3 := hst2.1; rw [barCells_set _ _ (x1, x2)] at hst3; have HST := Lib.hid hst3; clear hb5 hb6 hr5 hgc5 hlX hXl hst1 hst2 hst3)
          go_roundw
          case rel => exact ⟨j + 1, i' + 1, X.set i' (x1, x2), by omega, by go_num, by go_num, by rw [HN.out, List.length_append, ← HXX.out.1]; rfl, by omega, by rw [List.length_set]; exact HXX.out.2.1, by rw [HN.out, take_set_snocB _ _ _ (by have := HXX.out.2.1; omega), HXX.out.2.2.1], fun u h1 h2 => by rw [set_getB (by omega)]; exact HXX.out.2.2.2 u (by omega) h2, (HWI.out.trans ((within_of HB5.out).widen (.inl (Nat.le_refl _)))).trans HG2.out, HST.out⟩
          case measure => simp [intOf]; omega
      · obtain rfl : j = l.length := by omega
        rw [List.take_length] at hil hXt
        have hiN : i' < l.length := hij
        have hlX := barCells_len X
        have hcl : ∀ ty cc, (Builtin.clear_ #[24] ty #[.slice (some ⟨g, i' * 2, none⟩) (l.length - i') cc]).run Try.prog wr = .ok (.tuple #[]) (wr.setCells g (i' * 2) (List.replicate ((l.length - i') * 2) (.int .i64 0))) := fun ty cc => clearB wr ty g (i' * 2) (l.length - i') cc (by omega) (fun t ht => by rw [hrx.cellAt _ (by omega), List.getElem?_eq_getElem (by omega)]; rfl) (fun t _ => hrx.frozenAt _)
        obtain ⟨ys, hy1, hy2, hy3, hy4⟩ := own_setCellsI (List.replicate ((l.length - i') * 2) (.int .i64 0)) (i' * 2) wr (barCells X) hrx
        have hsh := own_shrinkI hy1 (m := i') (by omega)
        have hys : ys.take (i' * 2) = barCells (offI v l) := by
          rw [← hXt, barCells_take]
          apply List.ext_getElem?
          intro t
          rw [List.getElem?_take, List.getElem?_take]
          by_cases ht : t < i' * 2
          · rw [if_pos ht, if_pos ht, hy4 t (by omega), if_neg (by omega)]
          · rw [if_neg ht, if_neg ht]
        rw [hys] at hsh
        have HSH := Lib.hid hsh
        have HBF := Lib.hid (hwi.trans (within_grownB hy2))
        have e9 : l.length ≠ i' := by omega
        have e8 : ¬ (i' : Int) = (l.length : Int) := by omega
        have e7 : (i' : Int) ≤ (l.length : Int) := by omega
        have e6 : (i' : Int) ≤ (cap : Int) := by have := HC.out.1; omega
        have e5 : (l.length : Int) ≤ (cap : Int) := by have := HC.out.1; omega
        have e4 : cap ≠ i' := by have := HC.out.1; omega
        have HIL := Lib.hid hil
        clear hwi hrx hil hXl hXt hXr hy1 hy2 hy3 hy4 hsh hys hlX
        go_wp2_with fail
        go_ret
        rw [← HIL.out]
        exact ⟨rfl, HSH.out, HBF.out⟩
end Go.Proofs.Ytdkpmaahinbhlaa
