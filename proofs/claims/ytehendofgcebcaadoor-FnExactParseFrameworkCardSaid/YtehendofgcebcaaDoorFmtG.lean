/- What spec.FormatGraph and impl.FormatGraph answer: a graph in words. -/
import Derived.Test.YtehendofgcebcaaDoorFmtM
namespace Go.Proofs.YtehendofgcebcaaDoor
open Go.RowKit

set_option maxHeartbeats 4000000 in
set_option maxRecDepth 100000 in
theorem specFormat (p : Int) (l : List (Int × Int)) (A : Option Addr) (cap : Nat) (w : World) (hl : BarsAt w w.heap.size A l) (hn : l.length ≤ 1048576) :
    Calls Tryd.prog 17 #[.agg #[.int .i64 p, .slice A l.length cap]] w fun e w' => e = .returned (.string (fmtG p l)) ∧ Below w.heap.size w w' := by
  have hA := new_below w (.cells #[.int .i64 p, .slice A l.length cap] 32)
  have HA := Lib.hid hA
  have HBX := Lib.hid (box_new w p (.slice A l.length cap) 32)
  have HL := Lib.hid (hl.on hA)
  clear hA hl
  go_enter Tryd.func17, Tryd.ntmps17
  obtain ⟨g01, g02, g03⟩ := HBX.out
  go_wp2_with fail
  generalize (w.alloc (.cells #[.int .i64 p, .slice A l.length cap] 32)) = w1 at *
  clear g01 g02 g03
  have hg := specIsGraph' p l A cap _ HL.out hn
  cases hG : isGB p l
  · rw [hG] at hg
    refine hg.mono ?_
    rintro e w2 ⟨rfl, hb⟩
    go_wp2_with fail
    go_ret
    exact ⟨ret_str (fmtG_no hG).symm, below_on HA.out hb HA.out.size⟩
  · rw [hG] at hg
    have HGI := Lib.hid (isG_yes hG)
    have HTX := Lib.hid (fmtG_yes hG)
    clear hG
    refine hg.mono ?_
    rintro e w2 ⟨rfl, hb⟩
    have HB2 := Lib.hid hb
    have BX2 := Lib.hid (HBX.out.kept hb)
    clear hb hg
    obtain ⟨g01, g02, g03⟩ := BX2.out
    have ht0 : ∀ W : World, (Op.stringOp .add (fmtS p) (ByteArray.mk #[58])).run Tryd.prog W = .ok (.string (txt p l 0)) W := fun W => run_string_add_sum W _ _ (by
      have h1 := fmtS_size p (by have := HGI.out.1; omega) (by have := HGI.out.1; omega)
      have h3 : (⟨#[58]⟩ : ByteArray).size = 1 := rfl
      omega)
    go_wp2_with fail
    clear g01 g02 g03
    refine (specFmt p _ (by have := HGI.out.1; omega) (by have := HGI.out.1; omega)).mono ?_
    rintro e w3 ⟨rfl, hb⟩
    have HB3 := Lib.hid (below_on HB2.out hb HB2.out.size)
    have BX3 := Lib.hid (BX2.out.kept hb)
    have HL3 := Lib.hid ((HL.out.on HB2.out).on hb)
    clear hb
    go_wp2_with fail
    clear ht0
    go_loopw [3, 4] (fun s i wr => ∃ k : Nat, k ≤ l.length ∧ s = .string (txt p l k) ∧ i = .int .i64 k ∧ Below w3.heap.size w3 wr) (fun _ i _ => l.length - (intOf i).toNat)
    case atStart => exact ⟨0, by omega, rfl, rfl, Below.refl _ _⟩
    case round =>
      obtain ⟨k, hk, rfl, rfl, hb⟩ := hrel
      have HB := Lib.hid hb
      have BXR := Lib.hid (BX3.out.kept hb)
      clear hb
      obtain ⟨g01, g02, g03⟩ := BXR.out
      by_cases hlt : k < l.length
      · have hik : (k : Int) < (l.length : Int) := by omega
        obtain ⟨b0, off, rfl, hbB, hcell⟩ := HL3.out (by omega)
        have hc1 := (HB.out.cell (p := ⟨b0, off + k * 2, none⟩) hbB).trans (hcell k hlt).1
        have hc2 := (HB.out.cell (p := ⟨b0, off + k * 2 + 1, none⟩) hbB).trans (hcell k hlt).2
        have hbR : b0 < wr.heap.size := Nat.lt_of_lt_of_le hbB HB.out.size
        have hx := isG_bar8 HGI.out k hlt
        have hts := txt_size HGI.out k (by omega)
        have hl24 := HGI.out.2.1
        have HT1 : txt p l (k + 1) = (txt p l k ++ ⟨#[32]⟩) ++ barS (l.getD k (0, 0)) := rfl
        obtain ⟨x, hxe⟩ : ∃ x, l.getD k (0, 0) = x := ⟨_, rfl⟩
        rw [hxe] at hc1 hc2 hx HT1
        obtain ⟨x1, x2⟩ := x
        simp only at hc1 hc2 hx
        clear hcell hxe
        obtain ⟨s0, hs0⟩ : ∃ s, txt p l k = s := ⟨_, rfl⟩
        rw [hs0] at hts HT1 ⊢
        have z1 := fmtS_size x1 hx.1.1 hx.1.2
        have z2 := fmtS_size x2 hx.2.1 hx.2.2
        have z3 : (⟨#[45]⟩ : ByteArray).size = 1 := rfl
        have z4 : (⟨#[32]⟩ : ByteArray).size = 1 := rfl
        have e1 := size_app s0 ⟨#[32]⟩
        have e2 := size_app (s0 ++ ⟨#[32]⟩) (fmtS x1)
        have e3 := size_app ((s0 ++ ⟨#[32]⟩) ++ fmtS x1) ⟨#[45]⟩
        have a1 : ∀ W : World, (Op.stringOp .add s0 (ByteArray.mk #[32])).run Tryd.prog W = .ok (.string (s0 ++ ⟨#[32]⟩)) W := fun W => run_string_add_sum W _ _ (by omega)
        have a2 : ∀ W : World, (Op.stringOp .add (s0 ++ ⟨#[32]⟩) (fmtS x1)).run Tryd.prog W = .ok (.string ((s0 ++ ⟨#[32]⟩) ++ fmtS x1)) W := fun W => run_string_add_sum W _ _ (by omega)
        have a3 : ∀ W : World, (Op.stringOp .add ((s0 ++ ⟨#[32]⟩) ++ fmtS x1) (ByteArray.mk #[45])).run Tryd.prog W = .ok (.string (((s0 ++ ⟨#[32]⟩) ++ fmtS x1) ++ ⟨#[45]⟩)) W := fun W => run_string_add_sum W _ _ (by omega)
        have a4 : ∀ W : World, (Op.stringOp .add (((s0 ++ ⟨#[32]⟩) ++ fmtS x1) ++ ⟨#[45]⟩) (fmtS x2)).run Tryd.prog W = .ok (.string (txt p l (k + 1))) W := fun W => by
          rw [run_string_add_sum W _ _ (by omega), HT1]
          simp only [barS, ByteArray.append_assoc]
        clear z1 z2 z3 z4 e1 e2 e3 HT1 hts
        generalize ((s0 ++ ⟨#[32]⟩) ++ fmtS x1) ++ ⟨#[45]⟩ = s3 at a3 a4
        generalize (s0 ++ ⟨#[32]⟩) ++ fmtS x1 = s2 at a2 a3
        generalize s0 ++ ⟨#[32]⟩ = s1 at a1 a2
        have HF1 := fun W => specFmt x1 W (by omega) (by omega)
        have HF2 := fun W => specFmt x2 W (by omega) (by omega)
        generalize fmtS x1 = f1 at *
        generalize fmtS x2 = f2 at *
        obtain ⟨s4, hs4⟩ : ∃ s, txt p l (k + 1) = s := ⟨_, rfl⟩
        rw [hs4] at a4
        have HF1 := Lib.hid HF1
        have HF2 := Lib.hid HF2
        have HS4 := Lib.hid hs4
        have HS0 := Lib.hid hs0
        clear hx hs4 hs0
        have KK := Lib.hid (show ∀ W : World, Below wr.heap.size wr W → W.cell? ⟨w.heap.size, 0, none⟩ = some (.int .i64 p) ∧ W.cell? ⟨w.heap.size, 1, none⟩ = some (.slice (some ⟨b0, off, none⟩) l.length cap) ∧ W.cell? ⟨b0, off + k * 2, none⟩ = some (.int .i64 x1) ∧ W.cell? ⟨b0, off + k * 2 + 1, none⟩ = some (.int .i64 x2) from
          fun W h => ⟨(BXR.out.kept h).2.1, (BXR.out.kept h).2.2, (h.cell (p := ⟨b0, off + k * 2, none⟩) hbR).trans hc1, (h.cell (p := ⟨b0, off + k * 2 + 1, none⟩) hbR).trans hc2⟩)
        have HD := Lib.hid ((Below.refl wr.heap.size wr).drew)
        go_wp2_with fail
        -- REGION
        refine wp_region_held_drew (S := (fun W' : World => W'.cell? ⟨w.heap.size, 0, none⟩ = some (.int .i64 p) ∧ W'.cell? ⟨w.heap.size, 1, none⟩ = some (.slice (some ⟨b0, off, none⟩) l.length cap) ∧ W'.cell? ⟨b0, off + k * 2, none⟩ = some (.int .i64 x1) ∧ W'.cell? ⟨b0, off + k * 2 + 1, none⟩ = some (.int .i64 x2))) (by kernel_rfl) ?_ (fun hHeld => ?_)
        · exact KK.out _ HD.out
        refine wpAnyH_take (i := 0) (v := .string s0) rfl (by kernel_rfl) (by kernel_rfl) (by kernel_rfl) (fun _ _ _ h => h) (Or.inl ⟨by kernel_rfl, fun w hSw => by (try dsimp only at hSw); go_simp; all_goals omega⟩) (by assumption) ?_
        try simp only [Act.put, List.setIfInBounds_toArray]
        refine wpAnyH_take (i := 1) (v := .string s1) rfl (by kernel_rfl) (by kernel_rfl) (by kernel_rfl) (fun _ _ _ h => h) (Or.inl ⟨by kernel_rfl, fun w hSw => by (try dsimp only at hSw); go_simp; all_goals omega⟩) (by assumption) ?_
        try simp only [Act.put]
        refine wpAnyH_take (i := 2) (v := .pointer (some ⟨w.heap.size, 1, none⟩)) rfl (by kernel_rfl) (by kernel_rfl) (by kernel_rfl) (fun _ _ _ h => h) (Or.inl ⟨by kernel_rfl, fun w hSw => by (try dsimp only at hSw); go_simp; all_goals omega⟩) (by assumption) ?_
        try simp only [Act.put]
        refine wpAnyH_take (i := 3) (v := .slice (some ⟨b0, off, none⟩) l.length cap) rfl (by kernel_rfl) (by kernel_rfl) (by kernel_rfl) (fun _ _ _ h => h) (Or.inl ⟨by kernel_rfl, fun w hSw => by (try dsimp only at hSw); go_simp; all_goals omega⟩) (by assumption) ?_
        try simp only [Act.put]
        refine wpAnyH_take (i := 4) (v := .int .i64 (k : Int)) rfl (by kernel_rfl) (by kernel_rfl) (by kernel_rfl) (fun _ _ _ h => h) (Or.inl ⟨by kernel_rfl, fun w hSw => by (try dsimp only at hSw); go_simp; all_goals omega⟩) (by assumption) ?_
        try simp only [Act.put]
        refine wpAnyH_take (i := 5) (v := .pointer (some ⟨b0, off + k * 2, none⟩)) rfl (by kernel_rfl) (by kernel_rfl) (by kernel_rfl) (fun _ _ _ h => h) (Or.inl ⟨by kernel_rfl, fun w hSw => by (try dsimp only at hSw); go_simp; all_goals omega⟩) (by assumption) ?_
        try simp only [Act.put]
        refine wpAnyH_take (i := 6) (v := .pointer (some ⟨b0, off + k * 2, none⟩)) rfl (by kernel_rfl) (by kernel_rfl) (by kernel_rfl) (fun _ _ _ h => h) (Or.inl ⟨by kernel_rfl, fun w hSw => by (try dsimp only at hSw); go_simp; all_goals omega⟩) (by assumption) ?_
        try simp only [Act.put]
        refine wpAnyH_take (i := 7) (v := .int .i64 x1) rfl (by kernel_rfl) (by kernel_rfl) (by kernel_rfl) (fun _ _ _ h => h) (Or.inl ⟨by kernel_rfl, fun w hSw => by (try dsimp only at hSw); go_simp; all_goals omega⟩) (by assumption) ?_
        try simp only [Act.put]
        refine wpAnyH_take (i := 11) (v := .pointer (some ⟨w.heap.size, 1, none⟩)) rfl (by kernel_rfl) (by kernel_rfl) (by kernel_rfl) (fun _ _ _ h => h) (Or.inl ⟨by kernel_rfl, fun w hSw => by (try dsimp only at hSw); go_simp; all_goals omega⟩) (by assumption) ?_
        try simp only [Act.put]
        refine wpAnyH_take (i := 12) (v := .slice (some ⟨b0, off, none⟩) l.length cap) rfl (by kernel_rfl) (by kernel_rfl) (by kernel_rfl) (fun _ _ _ h => h) (Or.inl ⟨by kernel_rfl, fun w hSw => by (try dsimp only at hSw); go_simp; all_goals omega⟩) (by assumption) ?_
        try simp only [Act.put]
        refine wpAnyH_take (i := 13) (v := .int .i64 (k : Int)) rfl (by kernel_rfl) (by kernel_rfl) (by kernel_rfl) (fun _ _ _ h => h) (Or.inl ⟨by kernel_rfl, fun w hSw => by (try dsimp only at hSw); go_simp; all_goals omega⟩) (by assumption) ?_
        try simp only [Act.put]
        refine wpAnyH_take (i := 14) (v := .pointer (some ⟨b0, off + k * 2, none⟩)) rfl (by kernel_rfl) (by kernel_rfl) (by kernel_rfl) (fun _ _ _ h => h) (Or.inl ⟨by kernel_rfl, fun w hSw => by (try dsimp only at hSw); go_simp; all_goals omega⟩) (by assumption) ?_
        try simp only [Act.put]
        refine wpAnyH_take (i := 15) (v := .pointer (some ⟨b0, off + k * 2 + 1, none⟩)) rfl (by kernel_rfl) (by kernel_rfl) (by kernel_rfl) (fun _ _ _ h => h) (Or.inl ⟨by kernel_rfl, fun w hSw => by (try dsimp only at hSw); go_simp; all_goals omega⟩) (by assumption) ?_
        try simp only [Act.put]
        refine wpAnyH_take (i := 16) (v := .int .i64 x2) rfl (by kernel_rfl) (by kernel_rfl) (by kernel_rfl) (fun _ _ _ h => h) (Or.inl ⟨by kernel_rfl, fun w hSw => by (try dsimp only at hSw); go_simp; all_goals omega⟩) (by assumption) ?_
        try simp only [Act.put]
        refine wpAnyH_ready (rs := [8]) (by kernel_rfl) (by simp) (AllReadyH.cons rfl (fun K hK => ?_) AllReadyH.nil)
        go_simp
        go_at_call 18
        refine (HF1.out _).mono ?_
        rintro e wc ⟨rfl, hb⟩
        have HBC := Lib.hid (below_on HD.out hb HD.out.size)
        clear hb
        refine hK.out _ _ (KK.out _ HBC.out) (fun hHeld => ?_)
        clear hK K
        try simp only [Act.put, List.setIfInBounds_toArray, List.set_cons_zero, List.set_cons_succ]
        refine wpAnyH_take (i := 9) (v := .string s2) rfl (by kernel_rfl) (by kernel_rfl) (by kernel_rfl) (fun _ _ _ h => h) (Or.inl ⟨by kernel_rfl, fun w hSw => by (try dsimp only at hSw); go_simp; all_goals omega⟩) (by assumption) ?_
        try simp only [Act.put, List.setIfInBounds_toArray]
        refine wpAnyH_take (i := 10) (v := .string s3) rfl (by kernel_rfl) (by kernel_rfl) (by kernel_rfl) (fun _ _ _ h => h) (Or.inl ⟨by kernel_rfl, fun w hSw => by (try dsimp only at hSw); go_simp; all_goals omega⟩) (by assumption) ?_
        try simp only [Act.put]
        refine wpAnyH_ready (rs := [17]) (by kernel_rfl) (by simp) (AllReadyH.cons rfl (fun K hK => ?_) AllReadyH.nil)
        go_simp
        go_at_call 18
        refine (HF2.out _).mono ?_
        rintro e wd ⟨rfl, hb⟩
        have HBD := Lib.hid (below_on HBC.out hb HBC.out.size)
        clear hb
        refine hK.out _ _ (KK.out _ HBD.out) (fun hHeld => ?_)
        clear hK K
        try simp only [Act.put, List.setIfInBounds_toArray, List.set_cons_zero, List.set_cons_succ]
        refine wpAnyH_take (i := 18) (v := .string s4) rfl (by kernel_rfl) (by kernel_rfl) (by kernel_rfl) (fun _ _ _ h => h) (Or.inl ⟨by kernel_rfl, fun w hSw => by (try dsimp only at hSw); go_simp; all_goals omega⟩) (by assumption) ?_
        try simp only [Act.put, List.setIfInBounds_toArray]
        refine wpAnyH_take (i := 19) (v := .string s4) rfl (by kernel_rfl) (by kernel_rfl) (by kernel_rfl) (fun _ _ _ h => h) (Or.inl ⟨by kernel_rfl, fun w hSw => by (try dsimp only at hSw); go_simp; all_goals omega⟩) (by assumption) ?_
        try simp only [Act.put]
        refine wpAnyH_done (by kernel_rfl) ?_ _
        -- END
        go_wp2_with fail
        go_roundw
        case rel => exact ⟨k + 1, by omega, by rw [HS4.out], by go_num, below_on HB.out HBD.out HB.out.size⟩
        case measure => simp [intOf]; omega
      · obtain rfl : k = l.length := by omega
        go_wp2_with fail
        go_ret
        exact ⟨ret_str HTX.out.symm, below_on HA.out (below_on HB3.out HB.out HB3.out.size) HA.out.size⟩
end Go.Proofs.YtehendofgcebcaaDoor
