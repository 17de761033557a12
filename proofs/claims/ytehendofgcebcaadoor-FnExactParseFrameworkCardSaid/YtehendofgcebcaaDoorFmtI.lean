/- What impl.FormatGraph answers: a graph in words. -/
import Derived.Test.YtehendofgcebcaaDoorFmtM
namespace Go.Proofs.YtehendofgcebcaaDoor
open Go.RowKit

/-- What has been written lies in the builder; what lay below it is as it was. -/
def Wr (w0 W : World) (b : Nat) (s : ByteArray) : Prop := Lib.BuilderAt 55 5 b b (.pointer (some ⟨b, 0, none⟩)) (Lib.strCells s) W ∧ Below w0.heap.size w0 W ∧ w0.heap.size ≤ b ∧ b < W.heap.size
theorem wr_on {w0 W W' : World} {b : Nat} {s : ByteArray} (h : Wr w0 W b s) (hb : Below W.heap.size W W') : Wr w0 W' b s :=
  ⟨bld_on h.1 hb, below_on h.2.1 hb h.2.1.size, h.2.2.1, Nat.lt_of_lt_of_le h.2.2.2 hb.size⟩
theorem wr_put {w0 W W' : World} {b : Nat} {s t u : ByteArray} {cs : List Value} (h : Wr w0 W b s) (hk : Lib.BuilderAt 55 5 b b (.pointer (some ⟨b, 0, none⟩)) (Lib.strCells s ++ cs) W') (hb : Below b W W') (hcs : cs = Lib.strCells t) (hu : s ++ t = u) : Wr w0 W' b u := by
  subst hcs
  subst hu
  rw [← cells_app] at hk
  exact ⟨hk, h.2.1.trans (hb.mono h.2.2.1), h.2.2.1, Nat.lt_of_lt_of_le h.2.2.2 hb.size⟩
theorem one_cell (c : UInt8) : [Value.int .u8 (c.toNat : Int)] = Lib.strCells ⟨#[c]⟩ := rfl
theorem txt_step (p : Int) (l : List (Int × Int)) (k : Nat) : (txt p l k ++ ⟨#[32]⟩) ++ barS (l.getD k (0, 0)) = txt p l (k + 1) := rfl

set_option maxHeartbeats 4000000 in
set_option maxRecDepth 100000 in
theorem implFormat (p : Int) (l : List (Int × Int)) (A : Option Addr) (cap : Nat) (w : World) (hl : BarsAt w w.heap.size A l) (hn : l.length ≤ 1048576) (ht : Tab w) :
    Calls Tryd.prog 23 #[.agg #[.int .i64 p, .slice A l.length cap]] w fun e w' => e = .returned (.string (fmtG p l)) ∧ Below w.heap.size w w' := by
  have hA := new_below w (.cells #[.int .i64 p, .slice A l.length cap] 32)
  have HA := Lib.hid hA
  have HBX := Lib.hid (box_new w p (.slice A l.length cap) 32)
  have HL := Lib.hid (hl.on hA)
  have HT := Lib.hid (ht.below hA)
  clear hA hl ht
  go_enter Tryd.func23, Tryd.ntmps23
  obtain ⟨g01, g02, g03⟩ := HBX.out
  go_wp2_with fail
  generalize (w.alloc (.cells #[.int .i64 p, .slice A l.length cap] 32)) = w1 at *
  clear g01 g02 g03
  have hg := implIsGraph p l A cap _ HL.out hn
  cases hG : isGB p l
  · rw [hG] at hg
    refine hg.mono ?_
    rintro e w2 ⟨rfl, hb⟩
    go_wp2_with fail
    go_ret
    exact ⟨ret_str (fmtG_no hG).symm, below_on HA.out hb HA.out.size⟩
  · rw [hG] at hg
    have HGI := Lib.hid (isG_yes hG)
    have HTX := Lib.hid (fmtG_yes hG)
    clear hG
    refine hg.mono ?_
    rintro e w2 ⟨rfl, hb⟩
    have HB2 := Lib.hid hb
    have BX2 := Lib.hid (HBX.out.kept hb)
    have HT2 := Lib.hid (HT.out.below hb)
    have HL2 := Lib.hid (HL.out.on hb)
    clear hb hg
    have hal := new_below w2 (.cells #[.pointer none, .slice none 0 0] 55)
    have HAL := Lib.hid hal
    have HFR := Lib.hid (Lib.fresh_isBuilder 55 5 w2)
    have BX3 := Lib.hid (BX2.out.kept hal)
    have HT3 := Lib.hid (HT2.out.below hal)
    have HSZ := Lib.hid (show w2.heap.size < (w2.alloc (.cells #[.pointer none, .slice none 0 0] 55)).heap.size by simp)
    clear hal
    obtain ⟨g01, g02, g03⟩ := BX3.out
    go_wp2_with fail
    generalize (w2.alloc (.cells #[.pointer none, .slice none 0 0] 55)) = w3 at *
    clear g01 g02 g03
    refine (implFmt p _ (by have := HGI.out.1; omega) (by have := HGI.out.1; omega) HT3.out).mono ?_
    rintro e w4 ⟨rfl, hb4⟩
    have hfr4 : Lib.IsBuilder 55 5 w2.heap.size w2.heap.size [] w4 := HFR.out.imp (fun h => bld_on h hb4) (fun h => bld_on h hb4)
    have hps := fmtS_size p (by have := HGI.out.1; omega) (by have := HGI.out.1; omega)
    go_wp2_with fail
    refine (writeString _ _ _ _ _ hfr4 (by simp only [List.length_nil]; omega) (by have := HSZ.out; have := hb4.size; omega)).mono ?_
    rintro e w5 ⟨rfl, hk5, hb5⟩
    have hw5 : Wr w2 w5 w2.heap.size (fmtS p) := ⟨by simpa using hk5, (below_on HAL.out hb4 HAL.out.size).trans hb5, Nat.le_refl _, by have := HSZ.out; have := hb4.size; have := hb5.size; omega⟩
    have hs5 : (Lib.strCells (fmtS p)).length + 1 ≤ 140737488355328 := by rw [Lib.strCells_length]; omega
    have hsz5 := hw5.2.2.2
    clear hk5 hb5 hb4 hfr4 hps
    go_wp2_with fail
    refine (writeByte _ _ _ _ _ (.inr hw5.1) hs5 (by omega)).mono ?_
    rintro e w6 ⟨rfl, hk6, hb6, _⟩
    have HW6 := Lib.hid (show Wr w2 w6 w2.heap.size (txt p l 0) from wr_put hw5 hk6 hb6 (one_cell 58) rfl)
    clear hk6 hb6 hw5 hs5 hsz5
    have BX6 := Lib.hid (BX2.out.kept HW6.out.2.1)
    have HT6 := Lib.hid (HT2.out.below HW6.out.2.1)
    have HL6 := Lib.hid (HL2.out.kept HW6.out.2.1)
    obtain ⟨g01, g02, g03⟩ := BX6.out
    go_wp2_with fail
    clear g01 g02 g03
    go_loopw [17] (fun i wr => ∃ k : Nat, k ≤ l.length ∧ i = .int .i64 k ∧ Wr w2 wr w2.heap.size (txt p l k)) (fun i _ => l.length - (intOf i).toNat)
    case atStart => exact ⟨0, by omega, rfl, HW6.out⟩
    case round =>
      obtain ⟨k, hk, rfl, hwr⟩ := hrel
      by_cases hlt : k < l.length
      · have hik : (k : Int) < (l.length : Int) := by omega
        obtain ⟨b0, off, rfl, hbB, hcell⟩ := HL2.out (by omega)
        have hbb := hwr.2.1
        have hc1 := (hbb.cell (p := ⟨b0, off + k * 2, none⟩) hbB).trans (hcell k hlt).1
        have hc2 := (hbb.cell (p := ⟨b0, off + k * 2 + 1, none⟩) hbB).trans (hcell k hlt).2
        have hx := isG_bar8 HGI.out k hlt
        have hts := txt_size HGI.out k (by omega)
        have hl24 := HGI.out.2.1
        have HTS := Lib.hid (txt_step p l k)
        obtain ⟨x, hxe⟩ : ∃ x, l.getD k (0, 0) = x := ⟨_, rfl⟩
        rw [hxe] at hc1 hc2 hx HTS
        clear hcell hxe
        have hbz := barS_size x hx
        have HBF := Lib.hid (fun (W : World) (h : Tab W) => barFormat x W hx h)
        obtain ⟨x1, x2⟩ := x
        simp only at hc1 hc2 hx
        have hal := new_below wr (.cells #[.int .i64 x1, .int .i64 x2] 80)
        have hwa := wr_on hwr hal
        have hbh := heap_alloc_new wr (.cells #[.int .i64 x1, .int .i64 x2] 80)
        have hnb : wr.heap.size ≠ w2.heap.size := by have := hwr.2.2.2; omega
        have hlen : (Lib.strCells (txt p l k)).length + 1 ≤ 140737488355328 := by rw [Lib.strCells_length]; omega
        have hsz7 := hwa.2.2.2
        clear hal hwr hbb
        go_wp2_with fail
        generalize (wr.alloc (.cells #[.int .i64 x1, .int .i64 x2] 80)) = w7 at *
        clear hc1 hc2
        refine (writeByte _ _ _ _ _ (.inr hwa.1) hlen (by omega)).mono ?_
        rintro e w8 ⟨rfl, hk8, hb8, hkeep⟩
        have HW8 := Lib.hid (show Wr w2 w8 w2.heap.size (txt p l k ++ ⟨#[32]⟩) from wr_put hwa hk8 hb8 (one_cell 32) rfl)
        have hbh8 := hkeep _ _ _ _ hbh (by decide) hnb
        have d0 : w8.cell? ⟨wr.heap.size, 0, none⟩ = some (.int .i64 x1) := by rw [Lib.cell_of_heap hbh8]; rfl
        have d1 : w8.cell? ⟨wr.heap.size, 1, none⟩ = some (.int .i64 x2) := by rw [Lib.cell_of_heap hbh8]; rfl
        clear hk8 hb8 hkeep hbh hbh8 hwa hlen hsz7 hnb
        go_wp2_with fail
        clear d0 d1
        refine (HBF.out _ (HT2.out.below HW8.out.2.1)).mono ?_
        rintro e w9 ⟨rfl, hb9⟩
        have hw9 := wr_on HW8.out hb9
        have hs9 : (Lib.strCells (txt p l k ++ ⟨#[32]⟩)).length + (barS (x1, x2)).size ≤ 140737488355328 := by
          have h3 : (⟨#[32]⟩ : ByteArray).size = 1 := rfl
          rw [Lib.strCells_length, size_app]
          omega
        have hsz9 := hw9.2.2.2
        clear hb9
        go_wp2_with fail
        refine (writeString _ _ _ _ _ (.inr hw9.1) hs9 (by omega)).mono ?_
        rintro e w10 ⟨rfl, hk10, hb10⟩
        have HW10 := Lib.hid (show Wr w2 w10 w2.heap.size (txt p l (k + 1)) from wr_put hw9 hk10 hb10 rfl HTS.out)
        clear hk10 hb10 hw9 hs9 hsz9
        go_wp2_with fail
        go_roundw
        case rel => exact ⟨k + 1, by omega, by go_num, HW10.out⟩
        case measure => simp [intOf]; omega
      · obtain rfl : k = l.length := by omega
        have hst := Tryd.Builder_String_any w2.heap.size w2.heap.size (txt p l l.length).data.toList wr (.inr hwr.1) (Nat.le_of_lt hwr.2.2.2)
        have HB := Lib.hid (below_on HA.out (below_on HB2.out hwr.2.1 HB2.out.size) HA.out.size)
        have hle := hwr.2.2.1
        have hww := HB2.out.size
        have hw1 := HA.out.size
        clear hwr
        go_wp2_with fail
        refine hst.mono ?_
        rintro e w11 ⟨rfl, hb11⟩
        go_wp2_with fail
        go_ret
        exact ⟨ret_str HTX.out.symm, HB.out.trans (hb11.mono (by omega))⟩
end Go.Proofs.YtehendofgcebcaaDoor
