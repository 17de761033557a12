/- What the program's OnlyBars answers: the same as the specification's. No condition. -/
import Derived.Test.YtdkpmaahinbhlaaFqB1
namespace Go.Proofs.Ytdkpmaahinbhlaa
open Go.RowKit

theorem inS_step (zs : List Int) (j : Nat) (h : j < zs.length) (u : Nat) : inS (zs.take (j + 1)) u = (inS (zs.take j) u || decide ((u : Int) = zs.getD j 0)) := by
  unfold inS
  rw [take_getD zs 0 j h]
  simp [List.mem_append]
theorem boolCells_same (n : Nat) (S T : Nat → Bool) (h : ∀ u, u < n → S u = T u) : boolCells n S = boolCells n T := by
  unfold boolCells rowB
  congr 1
  exact List.map_congr_left fun u hu => h u (List.mem_range.1 hu)
theorem boolCells_one (n : Nat) (S : Nat → Bool) (a : Nat) : (boolCells n S).set a (.bool true) = boolCells n (fun u => S u || decide (u = a)) := by
  unfold boolCells
  rw [← List.map_set]
  congr 1
  apply List.ext_getElem?
  intro i
  by_cases hi : i < n
  · rw [rowB_get _ _ _ hi, List.getElem?_set, rowB_get _ _ _ hi]
    simp only [rowB_len]
    by_cases h : a = i
    · subst h; simp [hi]
    · have h' : ¬ i = a := fun e => h e.symm
      simp [h, h']
  · rw [List.getElem?_eq_none (by simp [rowB_len]; omega), List.getElem?_eq_none (by simp [rowB_len]; omega)]

set_option maxHeartbeats 4000000 in
set_option maxRecDepth 100000 in
theorem implOnly (p : Int) (l : List (Int × Int)) (zs : List Int) (A Z : Option Addr) (cap cz lo hi : Nat) (w : World) (hl : BarsAt w w.heap.size A l) (hz : IntsIn w lo hi Z zs) (hn : l.length ≤ 1048576) (hnz : zs.length ≤ 1048576) :
    Calls Try.prog 137 #[.agg #[.int .i64 p, .slice A l.length cap], .slice Z zs.length cz] w (GraphO w p (onlyL l zs)) := by
  have hA1 := new_below w (.cells #[.int .i64 p, .slice A l.length cap] 26)
  have hA2 := new_below (w.alloc (.cells #[.int .i64 p, .slice A l.length cap] 26)) (.cells #[.int .i64 0, .slice none 0 0] 26)
  have hsz1 : (w.alloc (.cells #[.int .i64 p, .slice A l.length cap] 26)).heap.size = w.heap.size + 1 := by simp
  have hsz2 : ((w.alloc (.cells #[.int .i64 p, .slice A l.length cap] 26)).alloc (.cells #[.int .i64 0, .slice none 0 0] 26)).heap.size = w.heap.size + 2 := by simp
  have HA := Lib.hid (below_on hA1 hA2 hA1.size)
  have HLW := Lib.hid hl
  have HZW := Lib.hid hz
  have hB := (box_new w p (.slice A l.length cap) 26).kept hA2
  have BX := Lib.hid hB
  have hR := box_new (w.alloc (.cells #[.int .i64 p, .slice A l.length cap] 26)) 0 (.slice none 0 0) 26
  have hF : ((w.alloc (.cells #[.int .i64 p, .slice A l.length cap] 26)).alloc (.cells #[.int .i64 0, .slice none 0 0] 26)).frozen? ⟨(w.alloc (.cells #[.int .i64 p, .slice A l.length cap] 26)).heap.size, 0, none⟩ = false ∧ ((w.alloc (.cells #[.int .i64 p, .slice A l.length cap] 26)).alloc (.cells #[.int .i64 0, .slice none 0 0] 26)).frozen? ⟨(w.alloc (.cells #[.int .i64 p, .slice A l.length cap] 26)).heap.size, 1, none⟩ = false := ⟨World.frozen?_alloc_at _ _ _ _ rfl, World.frozen?_alloc_at _ _ _ _ rfl⟩
  rw [hsz1] at hR hF
  have HR := Lib.hid hR
  have HF := Lib.hid hF
  have HSZ := Lib.hid hsz2
  clear hl hz hA1 hA2 hsz1 hR hF hsz2
  go_enter Try.func137, Try.ntmps137
  obtain ⟨_, g1, g2⟩ := hB
  go_wp2_with (at_make; generalize ((w.alloc (.cells #[.int .i64 p, .slice A l.length cap] 26)).alloc (.cells #[.int .i64 0, .slice none 0 0] 26)) = w1 at *; refine wpList_mkn _ rfl _ _ 190 rfl w1.heap.size 4 (.bool false) 1 Try.underlying190 infoBool rfl _ _ _ _ l.length rfl rfl rfl rfl (by omega) (by unfold maxLen; omega) (Nat.le_refl _) ?_; intro w2 hown2 hb2; have HO2 := Lib.hid hown2; have HB2 := Lib.hid hb2; clear hown2 hb2)
  clear g1 g2
  go_loopw [17] (fun i wr => ∃ j : Nat, j ≤ zs.length ∧ i = .int .i64 j ∧ wr.ownsRow w1.heap.size 4 1 (.slice (some ⟨w1.heap.size, 0, none⟩) l.length l.length) l.length (boolCells l.length (inS (zs.take j))) ∧ Below w1.heap.size w1 wr) (fun i _ => zs.length - (intOf i).toNat)
  case atStart => exact ⟨0, by omega, rfl, by have := HO2.out; rw [boolCells_none] at this; rw [boolCells_same _ _ (fun _ => false) (fun u _ => by simp [inS])]; exact this, HB2.out⟩
  case round =>
    obtain ⟨j, hj, rfl, hown, hb⟩ := hrel
    have HB := Lib.hid hb
    have HO := Lib.hid hown
    have hbs := hb.size
    clear hb
    by_cases hlt : j < zs.length
    · have hij : (j : Int) < (zs.length : Int) := by omega
      obtain ⟨bz, oz, rfl, hz1, hz2, hcell⟩ := HZW.out.2 (by omega)
      have hbz : bz < w.heap.size := Nat.lt_of_lt_of_le hz2 HZW.out.1
      have hc := ((below_on HA.out HB.out HA.out.size).cell (p := ⟨bz, oz + j, none⟩) hbz).trans (hcell j hlt)
      clear hcell
      have HS := Lib.hid (inS_step zs j hlt)
      obtain ⟨z, hz⟩ : ∃ z, zs.getD j 0 = z := ⟨_, rfl⟩
      rw [hz] at hc HS
      clear hz
      by_cases h0 : 0 ≤ z
      · by_cases h1 : z < (l.length : Int)
        · obtain ⟨a, rfl⟩ : ∃ a : Nat, z = (a : Int) := ⟨z.toNat, by omega⟩
          have han : a < l.length := by omega
          have hca := (hown.cellAt a (by omega)).trans (boolCells_get l.length _ a han)
          have hfa := hown.frozenAt a
          have hst := hown.stored a (.bool true)
          have HB3 := Lib.hid (HB.out.grown hst.2 hbs fun g e => by cases e; exact Nat.le_refl _)
          have ho3 := hst.1
          rw [boolCells_one _ _ a] at ho3
          have HO3 := Lib.hid ho3
          have HE := Lib.hid (boolCells_same l.length (inS (zs.take (j + 1))) (fun u => inS (zs.take j) u || decide (u = a)) fun u _ => by rw [HS.out u]; congr 1; simp; omega)
          clear hown hst ho3
          go_wp2_with fail
          go_roundw
          case rel => exact ⟨j + 1, by omega, by go_num, by rw [HE.out]; exact HO3.out, HB3.out⟩
          case measure => simp [intOf]; omega
        · have HE := Lib.hid (boolCells_same l.length (inS (zs.take (j + 1))) (inS (zs.take j)) fun u hu => by rw [HS.out u, decide_eq_false (by omega), Bool.or_false])
          clear hown
          go_wp2_with fail
          go_roundw
          case rel => exact ⟨j + 1, by omega, by go_num, by rw [HE.out]; exact HO.out, HB.out⟩
          case measure => simp [intOf]; omega
      · have HE := Lib.hid (boolCells_same l.length (inS (zs.take (j + 1))) (inS (zs.take j)) fun u hu => by rw [HS.out u, decide_eq_false (by omega), Bool.or_false])
        clear hown
        go_wp2_with fail
        go_roundw
        case rel => exact ⟨j + 1, by omega, by go_num, by rw [HE.out]; exact HO.out, HB.out⟩
        case measure => simp [intOf]; omega
    · obtain rfl : j = zs.length := by omega
      obtain ⟨wq, rfl⟩ : ∃ x, x = wr := ⟨wr, rfl⟩
      have hown' := HO.out
      rw [List.take_length] at hown'
      have HOK := Lib.hid hown'
      have hlt1 : w1.heap.size < wq.heap.size := (hown'.lt _ rfl).2
      have HG := Lib.hid (gbox_nil wq w.heap.size [w.heap.size, w.heap.size + 1, w1.heap.size] p (Nat.le_trans HA.out.size hbs) (fun o ho => by have := HSZ.out; simp at ho; omega))
      have BXR := Lib.hid (BX.out.kept HB.out)
      have HRR := Lib.hid (HR.out.kept HB.out)
      have HFR := Lib.hid (show wq.frozen? ⟨w.heap.size + 1, 0, none⟩ = false ∧ wq.frozen? ⟨w.heap.size + 1, 1, none⟩ = false from ⟨(HB.out.frozen (p := ⟨w.heap.size + 1, 0, none⟩) HR.out.1).trans HF.out.1, (HB.out.frozen (p := ⟨w.heap.size + 1, 1, none⟩) HR.out.1).trans HF.out.2⟩)
      have HAW := Lib.hid (below_on HA.out HB.out HA.out.size)
      obtain ⟨_, g1, g2⟩ := BXR.out
      clear hown hown' hlt
      go_wp2_with fail
      clear g1 g2
      go_loopw [39] (fun i wr => ∃ k : Nat, k ≤ l.length ∧ i = .int .i64 k ∧ ∃ A' c', GBox w.heap.size wq wr wq.heap.size [w.heap.size, w.heap.size + 1, w1.heap.size] p A' c' (onlyK l (inS zs) k)) (fun i _ => l.length - (intOf i).toNat)
      case atStart => exact ⟨0, by omega, rfl, _, _, HG.out⟩
      case round =>
        obtain ⟨k, hk, rfl, A', c', hst⟩ := hrel
        have HST := Lib.hid hst
        have HBW := Lib.hid (HAW.out.trans hst.2.2.2.2.2.1)
        have hbs' : w.heap.size ≤ wr.heap.size := Nat.le_of_lt (Nat.lt_of_le_of_lt hst.2.2.2.2.2.2 hst.1.1)
        clear hst
        by_cases hlt : k < l.length
        · have hik : (k : Int) < (l.length : Int) := by omega
          obtain ⟨b0, off, rfl, hbB, hcell⟩ := HLW.out (by omega)
          have hc1 := (HBW.out.cell (p := ⟨b0, off + k * 2, none⟩) hbB).trans (hcell k hlt).1
          have hc2 := (HBW.out.cell (p := ⟨b0, off + k * 2 + 1, none⟩) hbB).trans (hcell k hlt).2
          obtain ⟨x, hx⟩ : ∃ x, l.getD k (0, 0) = x := ⟨_, rfl⟩
          rw [hx] at hc1 hc2
          obtain ⟨x1, x2⟩ := x
          simp only at hc1 hc2
          clear hcell
          have hal := new_below wr (.cells #[.int .i64 x1, .int .i64 x2] 108)
          have HSA := Lib.hid (HST.out.below hal)
          have hsk := (HSA.out.cell (o := w1.heap.size) (k := k) (by simp)).trans ((HOK.out.cellAt k (by omega)).trans (boolCells_get l.length (inS zs) k hlt))
          clear hal
          rcases hs : inS zs k with _ | _
          · have HE := Lib.hid (show onlyK l (inS zs) (k + 1) = onlyK l (inS zs) k by rw [onlyK, hs]; simp)
            rw [hs] at hsk
            go_wp2_with fail
            go_roundw
            case rel => exact ⟨k + 1, by omega, by go_num, A', c', by rw [HE.out]; exact HSA.out⟩
            case measure => simp [intOf]; omega
          · have HE := Lib.hid (show onlyK l (inS zs) (k + 1) = onlyK l (inS zs) k ++ [(x1, x2)] by rw [onlyK, hs, hx]; simp)
            rw [hs] at hsk
            have hll := onlyK_len l (inS zs) k
            obtain ⟨L, hL⟩ : ∃ L, L = onlyK l (inS zs) k := ⟨_, rfl⟩
            rw [← hL] at HSA HE hll
            clear hL hx
            obtain ⟨hlt0, g1, g2⟩ := HSA.out.1
            have gf := HSA.out.2.1
            have hbs2 : w.heap.size ≤ (wr.alloc (.cells #[.int .i64 x1, .int .i64 x2] 108)).heap.size := by simp; omega
            go_wp2_with (at_builtin; refine wpList_at _ rfl _ _ 24 rfl w.heap.size 108 (.agg #[.int .i64 0, .int .i64 0]) 2 16 Try.underlying24 infoBar rfl (by decide) _ _ _ rfl HSA.out.2.2.2.1 #[.int .i64 x1, .int .i64 x2] 1 rfl (by simp [Value.oneCell']) _ 1 (by simp [Act.eval]) (by omega) (by unfold maxLen; omega) hbs2 ?_; intro v' w' ho hg hat _; obtain ⟨c0, c1, f1, A2, c2, rfl, hG2⟩ := HSA.out.push (x1, x2) ho hg hat; have HG2 := Lib.hid hG2; clear ho hg hat hG2)
            go_roundw
            case rel => exact ⟨k + 1, by omega, by go_num, A2, c2, by rw [HE.out]; exact HG2.out⟩
            case measure => simp [intOf]; omega
        · obtain rfl : k = l.length := by omega
          obtain ⟨_, g1, g2⟩ := HST.out.1
          have r0 := (HST.out.cell (o := w.heap.size + 1) (k := 0) (by simp)).trans HRR.out.2.1
          have r1 := (HST.out.cell (o := w.heap.size + 1) (k := 1) (by simp)).trans HRR.out.2.2
          have f0 := (HST.out.frozen (o := w.heap.size + 1) (k := 0) (by simp)).trans HFR.out.1
          have f1 := (HST.out.frozen (o := w.heap.size + 1) (k := 1) (by simp)).trans HFR.out.2
          have hr := HST.out.ret (o := w.heap.size + 1) (by simp) (by omega) (.int .i64 p) (.slice A' (onlyK l (inS zs) l.length).length c')
          have HRT := Lib.hid hr
          have s0 : ((wr.setCell ⟨w.heap.size + 1, 0, none⟩ (.int .i64 p)).setCell ⟨w.heap.size + 1, 1, none⟩ (.slice A' (onlyK l (inS zs) l.length).length c')).cell? ⟨w.heap.size + 1, 0, none⟩ = some (.int .i64 p) := by
            rw [World.cell?_setCell_other _ _ _ _ (by intro e; simp at e)]
            exact World.cell?_setCell_same _ _ _ r0
          have s1 : ((wr.setCell ⟨w.heap.size + 1, 0, none⟩ (.int .i64 p)).setCell ⟨w.heap.size + 1, 1, none⟩ (.slice A' (onlyK l (inS zs) l.length).length c')).cell? ⟨w.heap.size + 1, 1, none⟩ = some (.slice A' (onlyK l (inS zs) l.length).length c') := by
            have r2 : (wr.setCell ⟨w.heap.size + 1, 0, none⟩ (.int .i64 p)).cell? ⟨w.heap.size + 1, 1, none⟩ = some (.slice none 0 0) := by
              rw [World.cell?_setCell_other _ _ _ _ (by intro e; simp at e)]
              exact r1
            exact World.cell?_setCell_same _ _ _ r2
          clear hr
          go_wp2_with fail
          refine bodyPost_ret (v := .agg #[.int .i64 p, .slice A' (onlyK l (inS zs) l.length).length c']) ?_ rfl ⟨A', c', rfl, HRT.out.1, HAW.out.trans HRT.out.2⟩
          simp [results, Try.results137, go_sem, s0, s1]
end Go.Proofs.Ytdkpmaahinbhlaa
