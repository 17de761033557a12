/- What impl.FormatFramework answers: a framework in words. -/
import Derived.Test.YtehendofgcebcaaDoorFfM
import Derived.Test.YtehendofgcebcaaDoorFmtI
import Derived.Test.YtehendofgcebcaaDoorIsFI
namespace Go.Proofs.YtehendofgcebcaaDoor
open Go.RowKit

theorem ftx_step (p : Int) (l m : List (Int × Int)) (k : Nat) : (ftx p l m k ++ ⟨#[32]⟩) ++ plS (m.getD k (0, 0)) = ftx p l m (k + 1) := rfl

set_option maxHeartbeats 4000000 in
set_option maxRecDepth 100000 in
theorem implFmtF (p : Int) (l m : List (Int × Int)) (A : Option Addr) (ca : Nat) (B : Option Addr) (cb : Nat) (lo hi : Nat) (w : World) (hl : FwIn w lo hi A l B m) (hn : l.length + m.length ≤ 1048576) (ht : Tab w) :
    Calls Tryd.prog 8 #[.agg #[.int .i64 p, .slice A l.length ca, .slice B m.length cb]] w fun e w' => e = .returned (.string (fmtF p l m)) ∧ Below w.heap.size w w' := by
  have HC := Lib.hid fun (W : World) (h : FwIn W lo hi A l B m) => implIsF p l m A ca B cb lo hi W h hn
  have HFG := Lib.hid fun (W : World) (h : BarsAt W W.heap.size A l) (t : Tab W) => implFormat p l A ca W h (by omega) t
  have HF := Lib.hid (FbI.new (p := p) (ca := ca) (cb := cb) hl 35)
  have HT0 := Lib.hid ht
  clear hl ht
  go_enter Tryd.func8, Tryd.ntmps8
  go_wp2_with fail
  generalize (w.alloc (.cells #[.int .i64 p, .slice A l.length ca, .slice B m.length cb] 35)) = w1 at *
  by_cases hG : isFB p l m = true
  · rw [hG] at HC
    have HI := Lib.hid (isFB_iff.1 hG)
    have HTX := Lib.hid (fmtF_yes hG)
    clear hG
    refine (HC.out _ HF.out.f).mono ?_
    rintro e w2 ⟨rfl, hb⟩
    have HF2 := Lib.hid (HF.out.below hb)
    have HT2 := Lib.hid (HT0.out.below HF2.out.b)
    clear hb HF HC HT0
    have hal := new_below w2 (.cells #[.pointer none, .slice none 0 0] 55)
    have HAL := Lib.hid hal
    have HFR := Lib.hid (Lib.fresh_isBuilder 55 5 w2)
    have HF3 := Lib.hid (HF2.out.below hal)
    have HT3 := Lib.hid (HT2.out.below hal)
    have HSZ := Lib.hid (show w2.heap.size < (w2.alloc (.cells #[.pointer none, .slice none 0 0] 55)).heap.size by simp)
    clear hal
    obtain ⟨_, g01, g02, g03⟩ := HF3.out.x
    go_wp2_with fail
    generalize (w2.alloc (.cells #[.pointer none, .slice none 0 0] 55)) = w3 at *
    clear g01 g02 g03
    refine (HFG.out _ HF3.out.f.b.at HT3.out).mono ?_
    rintro e w4 ⟨rfl, hb4⟩
    have hfr4 : Lib.IsBuilder 55 5 w2.heap.size w2.heap.size [] w4 := HFR.out.imp (fun h => bld_on h hb4) (fun h => bld_on h hb4)
    have hps := fmtG_size HI.out.g
    go_wp2_with fail
    refine (writeString _ _ _ _ _ hfr4 (by simp only [List.length_nil]; omega) (by have := HSZ.out; have := hb4.size; omega)).mono ?_
    rintro e w5 ⟨rfl, hk5, hb5⟩
    have hw5 : Wr w2 w5 w2.heap.size (fmtG p l) := ⟨by simpa using hk5, (below_on HAL.out hb4 HAL.out.size).trans hb5, Nat.le_refl _, by have := HSZ.out; have := hb4.size; have := hb5.size; omega⟩
    have hs5 : (Lib.strCells (fmtG p l)).length + (⟨#[32, 97, 116]⟩ : ByteArray).size ≤ 140737488355328 := by
      have h3 : (⟨#[32, 97, 116]⟩ : ByteArray).size = 3 := rfl
      rw [Lib.strCells_length]
      omega
    have hsz5 := hw5.2.2.2
    clear hk5 hb5 hb4 hfr4 hps
    go_wp2_with fail
    refine (writeString _ _ _ _ _ (.inr hw5.1) hs5 (by omega)).mono ?_
    rintro e w6 ⟨rfl, hk6, hb6⟩
    have HW6 := Lib.hid (show Wr w2 w6 w2.heap.size (ftx p l m 0) from wr_put hw5 hk6 hb6 rfl rfl)
    clear hk6 hb6 hw5 hs5 hsz5
    have HF6 := Lib.hid (HF2.out.below HW6.out.2.1)
    obtain ⟨_, g01, g02, g03⟩ := HF6.out.x
    go_wp2_with fail
    clear g01 g02 g03
    go_loopw [17] (fun i wr => ∃ k : Nat, k ≤ m.length ∧ i = .int .i64 k ∧ Wr w2 wr w2.heap.size (ftx p l m k)) (fun i _ => m.length - (intOf i).toNat)
    case atStart => exact ⟨0, by omega, rfl, HW6.out⟩
    case round =>
      obtain ⟨k, hk, rfl, hwr⟩ := hrel
      by_cases hlt : k < m.length
      · have hik : (k : Int) < (m.length : Int) := by omega
        have hbb := hwr.2.1
        obtain ⟨b0, off, rfl, hbR, hcell⟩ := (HF2.out.below hbb).place hlt
        obtain ⟨hc1, hc2⟩ := hcell k hlt
        have hx := on8 (HI.out.grid k hlt)
        have hpz := plS_size _ (HI.out.grid k hlt)
        have hts := ftx_size HI.out k (by omega)
        have hm6 : m.length ≤ 6 := by have := HI.out.len; have := HI.out.six; omega
        have HTS := Lib.hid (ftx_step p l m k)
        obtain ⟨x, hxe⟩ : ∃ x, m.getD k (0, 0) = x := ⟨_, rfl⟩
        rw [hxe] at hc1 hc2 hx HTS hpz
        clear hcell hxe
        have HBF := Lib.hid (fun (W : World) (h : Tab W) => plFormat x W hx h)
        obtain ⟨x1, x2⟩ := x
        simp only at hc1 hc2 hx
        have hal := new_below wr (.cells #[.int .i64 x1, .int .i64 x2] 49)
        have hwa := wr_on hwr hal
        have hbh := heap_alloc_new wr (.cells #[.int .i64 x1, .int .i64 x2] 49)
        have hnb : wr.heap.size ≠ w2.heap.size := by have := hwr.2.2.2; omega
        have hlen : (Lib.strCells (ftx p l m k)).length + 1 ≤ 140737488355328 := by rw [Lib.strCells_length]; omega
        have hsz7 := hwa.2.2.2
        clear hal hwr hbb
        go_wp2_with fail
        generalize (wr.alloc (.cells #[.int .i64 x1, .int .i64 x2] 49)) = w7 at *
        clear hc1 hc2
        refine (writeByte _ _ _ _ _ (.inr hwa.1) hlen (by omega)).mono ?_
        rintro e w8 ⟨rfl, hk8, hb8, hkeep⟩
        have HW8 := Lib.hid (show Wr w2 w8 w2.heap.size (ftx p l m k ++ ⟨#[32]⟩) from wr_put hwa hk8 hb8 (one_cell 32) rfl)
        have hbh8 := hkeep _ _ _ _ hbh (by decide) hnb
        have d0 : w8.cell? ⟨wr.heap.size, 0, none⟩ = some (.int .i64 x1) := by rw [Lib.cell_of_heap hbh8]; rfl
        have d1 : w8.cell? ⟨wr.heap.size, 1, none⟩ = some (.int .i64 x2) := by rw [Lib.cell_of_heap hbh8]; rfl
        clear hk8 hb8 hkeep hbh hbh8 hwa hlen hsz7 hnb
        go_wp2_with fail
        clear d0 d1
        refine (HBF.out _ (HT2.out.below HW8.out.2.1)).mono ?_
        rintro e w9 ⟨rfl, hb9⟩
        have hw9 := wr_on HW8.out hb9
        have hs9 : (Lib.strCells (ftx p l m k ++ ⟨#[32]⟩)).length + (plS (x1, x2)).size ≤ 140737488355328 := by
          have h3 : (⟨#[32]⟩ : ByteArray).size = 1 := rfl
          rw [Lib.strCells_length, size_app]
          omega
        have hsz9 := hw9.2.2.2
        clear hb9
        go_wp2_with fail
        refine (writeString _ _ _ _ _ (.inr hw9.1) hs9 (by omega)).mono ?_
        rintro e w10 ⟨rfl, hk10, hb10⟩
        have HW10 := Lib.hid (show Wr w2 w10 w2.heap.size (ftx p l m (k + 1)) from wr_put hw9 hk10 hb10 rfl HTS.out)
        clear hk10 hb10 hw9 hs9 hsz9
        go_wp2_with fail
        go_roundw
        case rel => exact ⟨k + 1, by omega, by go_num, HW10.out⟩
        case measure => simp [intOf]; omega
      · obtain rfl : k = m.length := by omega
        have hst := Tryd.Builder_String_any w2.heap.size w2.heap.size (ftx p l m m.length).data.toList wr (.inr hwr.1) (Nat.le_of_lt hwr.2.2.2)
        have HB := Lib.hid (below_on HF2.out.b hwr.2.1 HF2.out.b.size)
        have hww := HF2.out.b.size
        clear hwr
        go_wp2_with fail
        refine hst.mono ?_
        rintro e w11 ⟨rfl, hb11⟩
        go_wp2_with fail
        go_ret
        exact ⟨ret_str HTX.out.symm, HB.out.trans (hb11.mono hww)⟩
  · have hgf : isFB p l m = false := by simpa using hG
    rw [hgf] at HC
    have HTX := Lib.hid (fmtF_no hgf)
    clear hG hgf
    refine (HC.out _ HF.out.f).mono ?_
    rintro e w2 ⟨rfl, hb⟩
    have HF2 := Lib.hid (HF.out.below hb)
    clear hb
    go_wp2_with fail
    go_ret
    exact ⟨ret_str HTX.out.symm, HF2.out.b⟩
end Go.Proofs.YtehendofgcebcaaDoor
