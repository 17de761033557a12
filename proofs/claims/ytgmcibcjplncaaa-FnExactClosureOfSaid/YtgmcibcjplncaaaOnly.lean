/- What spec.OnlyBars answers, and spec.l2Has. No condition. -/
import Derived.Test.YtgmcibcjplncaaaGBox
import Derived.Test.YtgmcibcjplncaaaHas
import Derived.Deep.AppendLies
import Derived.Deep.RegionLaw
namespace Go.Proofs.Ytgmcibcjplncaaa
open Go.RowKit

/-- The first k bars whose index S takes. -/
def onlyK (l : List (Int × Int)) (S : Nat → Bool) : Nat → List (Int × Int)
  | 0 => []
  | k + 1 => onlyK l S k ++ if S k then [l.getD k (0, 0)] else []
def inS (zs : List Int) (k : Nat) : Bool := decide ((k : Int) ∈ zs)
def onlyL (l : List (Int × Int)) (zs : List Int) : List (Int × Int) := onlyK l (inS zs) l.length
theorem onlyK_len (l : List (Int × Int)) (S : Nat → Bool) : ∀ k, (onlyK l S k).length ≤ k := by
  intro k
  induction k with
  | zero => exact Nat.le_refl _
  | succ k ih =>
    rw [onlyK, List.length_append]
    split <;> simp <;> omega
theorem onlyL_len (l : List (Int × Int)) (zs : List Int) (h : l.length ≤ 1048576) : (onlyL l zs).length ≤ 1048576 := Nat.le_trans (onlyK_len _ _ _) h

set_option maxHeartbeats 4000000 in
set_option maxRecDepth 100000 in
theorem specOnly (p : Int) (l : List (Int × Int)) (zs : List Int) (A Z : Option Addr) (cap cz lo hi : Nat) (w : World) (hl : BarsAt w w.heap.size A l) (hz : IntsIn w lo hi Z zs) (hn : l.length ≤ 1048576) (hnz : zs.length ≤ 1048576) :
    Calls Try.prog 47 #[.agg #[.int .i64 p, .slice A l.length cap], .slice Z zs.length cz] w (GraphR w p (onlyL l zs)) := by
  have hA1 := new_below w (.cells #[.int .i64 p, .slice A l.length cap] 35)
  have hA2 := new_below (w.alloc (.cells #[.int .i64 p, .slice A l.length cap] 35)) (.cells #[.int .i64 0, .slice none 0 0] 35)
  have hsz1 : (w.alloc (.cells #[.int .i64 p, .slice A l.length cap] 35)).heap.size = w.heap.size + 1 := by simp
  have hsz2 : ((w.alloc (.cells #[.int .i64 p, .slice A l.length cap] 35)).alloc (.cells #[.int .i64 0, .slice none 0 0] 35)).heap.size = w.heap.size + 2 := by simp
  have HA := Lib.hid (below_on hA1 hA2 hA1.size)
  have HLW := Lib.hid hl
  have HZW := Lib.hid hz
  have BX := Lib.hid ((box_new w p (.slice A l.length cap) 35).kept hA2)
  have hR := box_new (w.alloc (.cells #[.int .i64 p, .slice A l.length cap] 35)) 0 (.slice none 0 0) 35
  have hF : ((w.alloc (.cells #[.int .i64 p, .slice A l.length cap] 35)).alloc (.cells #[.int .i64 0, .slice none 0 0] 35)).frozen? ⟨(w.alloc (.cells #[.int .i64 p, .slice A l.length cap] 35)).heap.size, 0, none⟩ = false ∧ ((w.alloc (.cells #[.int .i64 p, .slice A l.length cap] 35)).alloc (.cells #[.int .i64 0, .slice none 0 0] 35)).frozen? ⟨(w.alloc (.cells #[.int .i64 p, .slice A l.length cap] 35)).heap.size, 1, none⟩ = false := ⟨World.frozen?_alloc_at _ _ _ _ rfl, World.frozen?_alloc_at _ _ _ _ rfl⟩
  rw [hsz1] at hR hF
  have HR := Lib.hid hR
  have HF := Lib.hid hF
  have hG := gbox_made ((w.alloc (.cells #[.int .i64 p, .slice A l.length cap] 35)).alloc (.cells #[.int .i64 0, .slice none 0 0] 35)) w.heap.size [w.heap.size, w.heap.size + 1] p (by rw [hsz2]; omega) (fun o ho => by rw [hsz2]; simp at ho; omega)
  rw [hsz2] at hG
  have HG := Lib.hid hG
  clear hl hz hA1 hA2 hsz1 hR hF hG
  go_enter Try.func47, Try.ntmps47
  go_wp2_with fail
  have HSZ2 := Lib.hid hsz2
  clear hsz2
  generalize ((((w.alloc (.cells #[.int .i64 p, .slice A l.length cap] 35)).alloc (.cells #[.int .i64 0, .slice none 0 0] 35)).alloc (.cells #[] 89)).alloc (.cells #[.int .i64 p, .slice (some ⟨w.heap.size + 2, 0, none⟩) 0 0] 35)) = w1 at *
  generalize ((w.alloc (.cells #[.int .i64 p, .slice A l.length cap] 35)).alloc (.cells #[.int .i64 0, .slice none 0 0] 35)) = w0 at *
  go_loopw [6] (fun i wr => ∃ k : Nat, k ≤ l.length ∧ i = .int .i64 k ∧ ∃ A' c', GBox w.heap.size w0 wr (w.heap.size + 2 + 1) [w.heap.size, w.heap.size + 1] p A' c' (onlyK l (inS zs) k)) (fun i _ => l.length - (intOf i).toNat)
  case atStart => exact ⟨0, by omega, rfl, _, _, HG.out⟩
  case round =>
    obtain ⟨k, hk, rfl, A', c', hst⟩ := hrel
    have HST := Lib.hid hst
    have HBW := Lib.hid (HA.out.trans hst.2.2.2.2.2.1)
    have hbs : w.heap.size ≤ wr.heap.size := Nat.le_of_lt (Nat.lt_of_le_of_lt hst.2.2.2.2.2.2 hst.1.1)
    have b1 := (hst.cell (o := w.heap.size) (k := 1) (by simp)).trans BX.out.2.2
    clear hst
    by_cases hlt : k < l.length
    · have hik : (k : Int) < (l.length : Int) := by omega
      obtain ⟨b0, off, rfl, hbB, hcell⟩ := HLW.out (by omega)
      have hc1 := (HBW.out.cell (p := ⟨b0, off + k * 2, none⟩) hbB).trans (hcell k hlt).1
      have hc2 := (HBW.out.cell (p := ⟨b0, off + k * 2 + 1, none⟩) hbB).trans (hcell k hlt).2
      clear hcell
      have HZ := Lib.hid (show IntsIn wr lo hi Z zs from ⟨Nat.le_trans HZW.out.1 hbs, fun hl0 => by
        obtain ⟨bz, oz, e, h1, h2, hc⟩ := HZW.out.2 hl0
        exact ⟨bz, oz, e, h1, h2, fun j hj => (HBW.out.cell (p := ⟨bz, oz + j, none⟩) (Nat.lt_of_lt_of_le h2 HZW.out.1)).trans (hc j hj)⟩⟩)
      go_wp2_with fail
      refine (has_c zs (k : Int) Z cz lo hi _ HZ.out hnz).mono ?_
      rintro e w2 ⟨rfl, rfl⟩
      rcases hs : decide ((k : Int) ∈ zs) with _ | _
      · have HE := Lib.hid (show onlyK l (inS zs) (k + 1) = onlyK l (inS zs) k by rw [onlyK, show inS zs k = false from hs]; simp)
        go_wp2_with fail
        go_roundw
        case rel => exact ⟨k + 1, by omega, by go_num, A', c', by rw [HE.out]; exact HST.out⟩
        case measure => simp [intOf]; omega
      · have HE := Lib.hid (show onlyK l (inS zs) (k + 1) = onlyK l (inS zs) k ++ [l.getD k (0, 0)] by rw [onlyK, show inS zs k = true from hs]; simp)
        have hll := onlyK_len l (inS zs) k
        obtain ⟨x, hx⟩ : ∃ x, l.getD k (0, 0) = x := ⟨_, rfl⟩
        rw [hx] at hc1 hc2 HE
        clear hx
        obtain ⟨x1, x2⟩ := x
        simp only at hc1 hc2
        obtain ⟨L, hL⟩ : ∃ L, L = onlyK l (inS zs) k := ⟨_, rfl⟩
        rw [← hL] at HST HE hll
        clear hL
        obtain ⟨i0, hi0, hz0, hz1, hz2⟩ := info_parts infoBar
        obtain ⟨hlt0, g1, g2⟩ := HST.out.1
        have gf := HST.out.2.1
        go_wp2_with fail
        go_region_law (refine step_append_lies _ (by rfl) _ _ _ (by rfl) w.heap.size 89 i0 _ 2 16 Try.underlying33 hi0 hz0 hz1 hz2 rfl (by omega) _ L.length (barCells L) (by rfl) ((HST.out.2.2.2.1.alloc _).drew) ⟨wr.heap.size, 0, none⟩ 1 1 [.int .i64 x1, .int .i64 x2] (by rfl) (by rfl) (World.news_of_block (cs := #[.int .i64 x1, .int .i64 x2]) (t := 89) (fr := (0, 0)) (heap_alloc_new wr _)) (by simp [Value.oneCell']) (by omega) (by unfold maxLen; omega) (by omega) (by simp; omega) (wr.heap.size + 1) (by simp) ?_; intro gg cap2 w1' hown1 hgrow hat hlt; obtain ⟨c0, c1, f1, hG2⟩ := HST.out.push2 (x1, x2) hown1 hgrow hat; have HG2 := Lib.hid hG2; clear hown1 hgrow hat hG2)
        all_goals
          go_wp2_with fail
          go_roundw
          case rel => exact ⟨k + 1, by omega, by go_num, _, cap2, by rw [HE.out]; first | exact HG2.out | exact HG2.out.drew⟩
          case measure => simp [intOf]; omega
    · obtain rfl : k = l.length := by omega
      obtain ⟨_, g1, g2⟩ := HST.out.1
      have r0 := (HST.out.cell (o := w.heap.size + 1) (k := 0) (by simp)).trans HR.out.2.1
      have r1 := (HST.out.cell (o := w.heap.size + 1) (k := 1) (by simp)).trans HR.out.2.2
      have f0 := (HST.out.frozen (o := w.heap.size + 1) (k := 0) (by simp)).trans HF.out.1
      have f1 := (HST.out.frozen (o := w.heap.size + 1) (k := 1) (by simp)).trans HF.out.2
      have hr := HST.out.ret (o := w.heap.size + 1) (by simp) (by omega) (.int .i64 p) (.slice A' (onlyK l (inS zs) l.length).length c')
      have HRT := Lib.hid hr
      have s0 : ((wr.setCell ⟨w.heap.size + 1, 0, none⟩ (.int .i64 p)).setCell ⟨w.heap.size + 1, 1, none⟩ (.slice A' (onlyK l (inS zs) l.length).length c')).cell? ⟨w.heap.size + 1, 0, none⟩ = some (.int .i64 p) := by
        rw [World.cell?_setCell_other _ _ _ _ (by intro e; simp at e)]
        exact World.cell?_setCell_same _ _ _ r0
      have s1 : ((wr.setCell ⟨w.heap.size + 1, 0, none⟩ (.int .i64 p)).setCell ⟨w.heap.size + 1, 1, none⟩ (.slice A' (onlyK l (inS zs) l.length).length c')).cell? ⟨w.heap.size + 1, 1, none⟩ = some (.slice A' (onlyK l (inS zs) l.length).length c') := by
        have r2 : (wr.setCell ⟨w.heap.size + 1, 0, none⟩ (.int .i64 p)).cell? ⟨w.heap.size + 1, 1, none⟩ = some (.slice none 0 0) := by
          rw [World.cell?_setCell_other _ _ _ _ (by intro e; simp at e)]
          exact r1
        exact World.cell?_setCell_same _ _ _ r2
      clear hr
      go_wp2_with fail
      refine bodyPost_ret (v := .agg #[.int .i64 p, .slice A' (onlyK l (inS zs) l.length).length c']) ?_ rfl ⟨A', c', rfl, HRT.out.1.bars.at, HA.out.trans HRT.out.2⟩
      simp [results, Try.results47, go_sem, s0, s1]
end Go.Proofs.Ytgmcibcjplncaaa
