/- What spec.SpannedBars answers. No condition. -/
import Derived.Test.YtimgkekllanhmaaSetS
import Derived.Test.YtimgkekllanhmaaHas
import Derived.Deep.RegionHeld3
import Derived.Deep.RegionWith
import Derived.BigQuiet
namespace Go.Proofs.Ytimgkekllanhmaa
open Go.RowKit

theorem spanF_succ (l : List (Int × Int)) (S : Int → Bool) (j : Nat) : outF (j + 1) (spanF l S) = outF j (spanF l S) ++ if S (l.getD j (0, 0)).1 && S (l.getD j (0, 0)).2 then [(j : Int)] else [] := by
  rw [outF_succ]
  rfl
/-- A row of ints of the call's own that grows, beside a box with a graph. -/
def GrowB (w wr : World) (p : Int) (gv : Value) (zs : List Int) (v : Value) : Prop :=
  GrowI w wr zs v ∧ Box wr w.heap.size p gv ∧ v.ownBlock ≠ some w.heap.size
theorem GrowB.drew {w wr : World} {p : Int} {gv : Value} {zs : List Int} {v : Value} (h : GrowB w wr p gv zs v) : GrowB w wr.drew p gv zs v := ⟨⟨h.1.1, h.1.2.drew⟩, h.2.1, h.2.2⟩
theorem GrowB.drewN {w wr : World} {p : Int} {gv : Value} {zs : List Int} {v : Value} (h : GrowB w wr p gv zs v) (n : Nat) : GrowB w (wr.drewN n) p gv zs v :=
  ⟨⟨h.1.1, h.1.2.trans (below_drewN _ _ _)⟩, h.2.1, h.2.2⟩
theorem GrowB.alloc {w wr : World} {p : Int} {gv : Value} {zs : List Int} {v : Value} (h : GrowB w wr p gv zs v) (o : Obj) : GrowB w (wr.alloc o) p gv zs v :=
  ⟨⟨own_below h.1.1 (new_below wr o), h.1.2.trans ((new_below wr o).mono h.1.2.size)⟩, h.2.1.kept (new_below wr o), h.2.2⟩
theorem GrowB.push {w wr w' : World} {p : Int} {gv : Value} {zs : List Int} {v v' : Value} {x : Int} (h : GrowB w wr p gv zs v) (ho : w'.ownsRow w.heap.size 3 1 v' (zs.length + 1) (intCells zs ++ [.int .i64 x])) (hg : wr.grownBy w' v.ownBlock)
    (hat : v'.ownBlock = v.ownBlock ∨ v'.ownBlock = some (wr.heap.size + 1)) : GrowB w w' p gv (zs ++ [x]) v' := by
  obtain ⟨⟨h1, h2⟩, h3, h4⟩ := h
  refine ⟨⟨by simpa [intCells] using ho, h2.grown hg (Nat.le_trans h2.size (Nat.le_refl _)) fun g hgg => (h1.lt g hgg).1⟩, ?_, ?_⟩
  · refine ⟨Nat.lt_of_lt_of_le h3.1 hg.size, ?_, ?_⟩
    · exact (World.cell?_of_block (hg.block w.heap.size h3.1 fun hc => h4 hc.symm)).trans h3.2.1
    · exact (World.cell?_of_block (a := ⟨w.heap.size, 1, none⟩) (hg.block w.heap.size h3.1 fun hc => h4 hc.symm)).trans h3.2.2
  · rcases hat with hat | hat
    · rw [hat]; exact h4
    · rw [hat]
      intro e
      have := h3.1
      have : wr.heap.size + 1 = w.heap.size := by simpa using e
      omega

set_option maxHeartbeats 4000000 in
set_option maxRecDepth 100000 in
theorem specSpan (p : Int) (l : List (Int × Int)) (zs : List Int) (A Z : Option Addr) (cap cz lo hi : Nat) (w : World) (hl : BarsAt w w.heap.size A l) (hz : IntsIn w lo hi Z zs) (hn : l.length ≤ 1048576) (hnz : zs.length ≤ 1048576) :
    Calls Try.prog 11 #[.agg #[.int .i64 p, .slice A l.length cap], .slice Z zs.length cz] w (IntsO w (spanL l (memS zs))) := by
  have hA1 := new_below w (.cells #[.int .i64 p, .slice A l.length cap] 30)
  have hA2 := new_below (w.alloc (.cells #[.int .i64 p, .slice A l.length cap] 30)) (.cells #[] 3)
  have hsz : (w.alloc (.cells #[.int .i64 p, .slice A l.length cap] 30)).heap.size = w.heap.size + 1 := by simp
  have ho := World.ownsRow_made (base := w.heap.size) (e := 3) (size := 1) (w.alloc (.cells #[.int .i64 p, .slice A l.length cap] 30)) #[] 0 (by simp) (by unfold maxLen; omega) (by simp)
  rw [hsz] at ho
  have HG := Lib.hid (show GrowB w ((w.alloc (.cells #[.int .i64 p, .slice A l.length cap] 30)).alloc (.cells #[] 3)) p (.slice A l.length cap) (outF 0 (spanF l (memS zs))) (.slice (some ⟨w.heap.size + 1, 0, none⟩) 0 0) from
    ⟨⟨ho, below_on hA1 hA2 hA1.size⟩, (box_new w p (.slice A l.length cap) 30).kept hA2, by simp [Value.ownBlock]⟩)
  have HLW := Lib.hid hl
  have HZW := Lib.hid hz
  clear hl hz hA1 hA2 hsz ho
  go_enter Try.func11, Try.ntmps11
  go_wp2_with fail
  generalize ((w.alloc (.cells #[.int .i64 p, .slice A l.length cap] 30)).alloc (.cells #[] 3)) = w1 at *
  go_loopw [5, 6] (fun o i wr => ∃ j : Nat, j ≤ l.length ∧ i = .int .i64 j ∧ GrowB w wr p (.slice A l.length cap) (outF j (spanF l (memS zs))) o) (fun _ i _ => l.length - (intOf i).toNat)
  case atStart => exact ⟨0, by omega, rfl, HG.out⟩
  case round =>
    obtain ⟨j, hj, rfl, hst⟩ := hrel
    have hol := outF_len j (spanF l (memS zs))
    obtain ⟨A', c', rfl⟩ := own_shape hst.1.1
    have HS := Lib.hid hst
    have hbs := hst.1.2.size
    obtain ⟨_, g1, g2⟩ := hst.2.1
    clear hst
    by_cases hlt : j < l.length
    · have hij : (j : Int) < (l.length : Int) := by omega
      obtain ⟨b0, off, rfl, hbB, hcell⟩ := HLW.out (by omega)
      have HBW := HS.out.1.2
      have hc1 := (HBW.cell (p := ⟨b0, off + j * 2, none⟩) hbB).trans (hcell j hlt).1
      have hc2 := (HBW.cell (p := ⟨b0, off + j * 2 + 1, none⟩) hbB).trans (hcell j hlt).2
      have HHAS : ∀ (x : Int), Calls Try.prog 38 #[.slice Z zs.length cz, .int .i64 x] wr fun e w' => e = .returned (.bool (memS zs x)) ∧ wr = w' := fun x =>
        has_c zs x Z cz lo hi wr ⟨Nat.le_trans HZW.out.1 hbs, fun hl0 => by
          obtain ⟨b, off, e, h1, h2, hc⟩ := HZW.out.2 hl0
          exact ⟨b, off, e, h1, h2, fun k hk => (HBW.cell (p := ⟨b, off + k, none⟩) (Nat.lt_of_lt_of_le h2 HZW.out.1)).trans (hc k hk)⟩⟩ hnz
      have HE := Lib.hid (spanF_succ l (memS zs) j)
      obtain ⟨x, hx⟩ : ∃ x, l.getD j (0, 0) = x := ⟨_, rfl⟩
      rw [hx] at hc1 hc2 HE
      obtain ⟨x1, x2⟩ := x
      simp only at hc1 hc2
      clear hcell HBW hx
      have H1 := HHAS x1
      have H2 := HHAS x2
      clear HHAS
      rcases h1 : memS zs x1 with _ | _
      · rw [h1] at H1 HE
        have HE2 := Lib.hid (HE.out.trans (by simp : _ = outF j (spanF l (memS zs))))
        go_wp2_with (go_at_call 38; refine H1.mono ?_; rintro e w2 ⟨rfl, rfl⟩; clear H1)
        go_roundw
        case rel => exact ⟨j + 1, by omega, by go_num, by rw [HE2.out]; exact HS.out⟩
        case measure => simp [intOf]; omega
      · rcases h2 : memS zs x2 with _ | _
        · rw [h1] at H1
          rw [h2] at H2
          rw [h1, h2] at HE
          have HE2 := Lib.hid (HE.out.trans (by simp : _ = outF j (spanF l (memS zs))))
          go_wp2_with (first | (go_at_call 38; refine H1.mono ?_; rintro e w2 ⟨rfl, rfl⟩; clear H1) | (go_at_call 38; refine H2.mono ?_; rintro e w2 ⟨rfl, rfl⟩; clear H2))
          go_roundw
          case rel => exact ⟨j + 1, by omega, by go_num, by rw [HE2.out]; exact HS.out⟩
          case measure => simp [intOf]; omega
        · rw [h1] at H1
          rw [h2] at H2
          rw [h1, h2] at HE
          have HE2 := Lib.hid (HE.out.trans (by simp : _ = outF j (spanF l (memS zs)) ++ [(j : Int)]))
          go_wp2_with (first | (go_at_call 38; refine H1.mono ?_; rintro e w2 ⟨rfl, rfl⟩; clear H1) | (go_at_call 38; refine H2.mono ?_; rintro e w2 ⟨rfl, rfl⟩; clear H2) | (at_builtin; refine wpList_at _ rfl _ _ 25 rfl w.heap.size 3 (.int .i64 0) 1 8 Try.underlying25 infoInt rfl (by decide) _ _ _ rfl HS.out.1.1 #[.int .i64 (j : Int)] 1 rfl (by simp [Value.oneCell']) _ _ rfl (by omega) (by unfold maxLen; omega) hbs ?_; intro v' w' ho hg hat _; obtain ⟨A2, c2, rfl⟩ := own_shape ho; have HY := Lib.hid (HS.out.push ho hg hat); clear ho hg hat))
          go_roundw
          case rel => exact ⟨j + 1, by omega, by go_num, by rw [HE2.out]; exact HY.out⟩
          case measure => simp [intOf]; omega
    · obtain rfl : j = l.length := by omega
      go_wp2_with fail
      go_ret
      exact HS.out.1.intsO
end Go.Proofs.Ytimgkekllanhmaa
