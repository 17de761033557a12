/- What spec.FormatFramework answers: a framework in words. -/
import Derived.Test.YtehendofgcebcaaDoorFfM
import Derived.Test.YtehendofgcebcaaDoorFmtG
import Derived.Test.YtehendofgcebcaaDoorIsFS
namespace Go.Proofs.YtehendofgcebcaaDoor
open Go.RowKit

set_option maxHeartbeats 4000000 in
set_option maxRecDepth 100000 in
theorem specFmtF (p : Int) (l m : List (Int × Int)) (A : Option Addr) (ca : Nat) (B : Option Addr) (cb : Nat) (lo hi : Nat) (w : World) (hl : FwIn w lo hi A l B m) (hn : l.length + m.length ≤ 1048576) :
    Calls Tryd.prog 6 #[.agg #[.int .i64 p, .slice A l.length ca, .slice B m.length cb]] w fun e w' => e = .returned (.string (fmtF p l m)) ∧ Below w.heap.size w w' := by
  have HC := Lib.hid fun (W : World) (h : FwIn W lo hi A l B m) => specIsF p l m A ca B cb lo hi W h hn
  have HFG := Lib.hid fun (W : World) (h : BarsAt W W.heap.size A l) => specFormat p l A ca W h (by omega)
  have HF := Lib.hid (FbI.new (p := p) (ca := ca) (cb := cb) hl 35)
  clear hl
  go_enter Tryd.func6, Tryd.ntmps6
  go_wp2_with fail
  generalize (w.alloc (.cells #[.int .i64 p, .slice A l.length ca, .slice B m.length cb] 35)) = w1 at *
  by_cases hG : isFB p l m = true
  · rw [hG] at HC
    have HI := Lib.hid (isFB_iff.1 hG)
    have HTX := Lib.hid (fmtF_yes hG)
    clear hG
    refine (HC.out _ HF.out.f).mono ?_
    rintro e w2 ⟨rfl, hb⟩
    have HF2 := Lib.hid (HF.out.below hb)
    clear hb HF HC
    obtain ⟨_, q0, q1, q2⟩ := HF2.out.x
    have ht0 : ∀ W : World, (Op.stringOp .add (fmtG p l) (ByteArray.mk #[32, 97, 116])).run Tryd.prog W = .ok (.string (ftx p l m 0)) W := fun W => run_string_add_sum W _ _ (by
      have h1 := fmtG_size HI.out.g
      have h3 : (⟨#[32, 97, 116]⟩ : ByteArray).size = 3 := rfl
      omega)
    go_wp2_with fail
    clear q0 q1 q2
    refine (HFG.out _ HF2.out.f.b.at).mono ?_
    rintro e w3 ⟨rfl, hb⟩
    have HF3 := Lib.hid (HF2.out.below hb)
    clear hb HF2 HFG
    go_wp2_with fail
    clear ht0
    go_loopw [3, 4] (fun s i wr => ∃ k : Nat, k ≤ m.length ∧ s = .string (ftx p l m k) ∧ i = .int .i64 k ∧ FbI w wr lo hi p A ca l B cb m) (fun _ i _ => m.length - (intOf i).toNat)
    case atStart => exact ⟨0, by omega, rfl, rfl, HF3.out⟩
    case round =>
      clear HF3
      obtain ⟨k, hk, rfl, rfl, hf⟩ := hrel
      have HF := Lib.hid hf
      clear hf
      obtain ⟨_, g01, g02, g03⟩ := HF.out.x
      by_cases hlt : k < m.length
      · have hik : (k : Int) < (m.length : Int) := by omega
        obtain ⟨b0, off, rfl, hbR, hcell⟩ := HF.out.place hlt
        obtain ⟨hc1, hc2⟩ := hcell k hlt
        have hx := on8 (HI.out.grid k hlt)
        have hts := ftx_size HI.out k (by omega)
        have hm6 : m.length ≤ 6 := by have := HI.out.len; have := HI.out.six; omega
        have HT1 : ftx p l m (k + 1) = (ftx p l m k ++ ⟨#[32]⟩) ++ plS (m.getD k (0, 0)) := rfl
        obtain ⟨x, hxe⟩ : ∃ x, m.getD k (0, 0) = x := ⟨_, rfl⟩
        rw [hxe] at hc1 hc2 hx HT1
        obtain ⟨x1, x2⟩ := x
        simp only at hc1 hc2 hx
        clear hcell hxe
        obtain ⟨s0, hs0⟩ : ∃ s, ftx p l m k = s := ⟨_, rfl⟩
        rw [hs0] at hts HT1 ⊢
        have z1 := fmtS_size x1 hx.1.1 hx.1.2
        have z2 := fmtS_size x2 hx.2.1 hx.2.2
        have z3 : (⟨#[44]⟩ : ByteArray).size = 1 := rfl
        have z4 : (⟨#[32]⟩ : ByteArray).size = 1 := rfl
        have e1 := size_app s0 ⟨#[32]⟩
        have e2 := size_app (s0 ++ ⟨#[32]⟩) (fmtS x1)
        have e3 := size_app ((s0 ++ ⟨#[32]⟩) ++ fmtS x1) ⟨#[44]⟩
        have a1 : ∀ W : World, (Op.stringOp .add s0 (ByteArray.mk #[32])).run Tryd.prog W = .ok (.string (s0 ++ ⟨#[32]⟩)) W := fun W => run_string_add_sum W _ _ (by omega)
        have a2 : ∀ W : World, (Op.stringOp .add (s0 ++ ⟨#[32]⟩) (fmtS x1)).run Tryd.prog W = .ok (.string ((s0 ++ ⟨#[32]⟩) ++ fmtS x1)) W := fun W => run_string_add_sum W _ _ (by omega)
        have a3 : ∀ W : World, (Op.stringOp .add ((s0 ++ ⟨#[32]⟩) ++ fmtS x1) (ByteArray.mk #[44])).run Tryd.prog W = .ok (.string (((s0 ++ ⟨#[32]⟩) ++ fmtS x1) ++ ⟨#[44]⟩)) W := fun W => run_string_add_sum W _ _ (by omega)
        have a4 : ∀ W : World, (Op.stringOp .add (((s0 ++ ⟨#[32]⟩) ++ fmtS x1) ++ ⟨#[44]⟩) (fmtS x2)).run Tryd.prog W = .ok (.string (ftx p l m (k + 1))) W := fun W => by
          rw [run_string_add_sum W _ _ (by omega), HT1]
          simp only [plS, ByteArray.append_assoc]
        clear z1 z2 z3 z4 e1 e2 e3 HT1 hts
        generalize ((s0 ++ ⟨#[32]⟩) ++ fmtS x1) ++ ⟨#[44]⟩ = s3 at a3 a4
        generalize (s0 ++ ⟨#[32]⟩) ++ fmtS x1 = s2 at a2 a3
        generalize s0 ++ ⟨#[32]⟩ = s1 at a1 a2
        have HF1 := fun W => specFmt x1 W (by omega) (by omega)
        have HF2 := fun W => specFmt x2 W (by omega) (by omega)
        generalize fmtS x1 = f1 at *
        generalize fmtS x2 = f2 at *
        obtain ⟨s4, hs4⟩ : ∃ s, ftx p l m (k + 1) = s := ⟨_, rfl⟩
        rw [hs4] at a4
        have HF1 := Lib.hid HF1
        have HF2 := Lib.hid HF2
        have HS4 := Lib.hid hs4
        have HS0 := Lib.hid hs0
        clear hx hs4 hs0
        have KK := Lib.hid (show ∀ W : World, Below wr.heap.size wr W → W.cell? ⟨w.heap.size, 0, none⟩ = some (.int .i64 p) ∧ W.cell? ⟨w.heap.size, 1, none⟩ = some (.slice A l.length ca) ∧ W.cell? ⟨w.heap.size, 2, none⟩ = some (.slice (some ⟨b0, off, none⟩) m.length cb) ∧ W.cell? ⟨b0, off + k * 2, none⟩ = some (.int .i64 x1) ∧ W.cell? ⟨b0, off + k * 2 + 1, none⟩ = some (.int .i64 x2) from
          fun W h => ⟨(HF.out.below h).x.2.1, (HF.out.below h).x.2.2.1, (HF.out.below h).x.2.2.2, (h.cell (p := ⟨b0, off + k * 2, none⟩) hbR).trans hc1, (h.cell (p := ⟨b0, off + k * 2 + 1, none⟩) hbR).trans hc2⟩)
        have HD := Lib.hid ((Below.refl wr.heap.size wr).drew)
        go_wp2_with fail
        refine wp_region_held_drew (S := (fun W' : World => W'.cell? ⟨w.heap.size, 0, none⟩ = some (.int .i64 p) ∧ W'.cell? ⟨w.heap.size, 1, none⟩ = some (.slice A l.length ca) ∧ W'.cell? ⟨w.heap.size, 2, none⟩ = some (.slice (some ⟨b0, off, none⟩) m.length cb) ∧ W'.cell? ⟨b0, off + k * 2, none⟩ = some (.int .i64 x1) ∧ W'.cell? ⟨b0, off + k * 2 + 1, none⟩ = some (.int .i64 x2))) (by kernel_rfl) ?_ (fun hHeld => ?_)
        · exact KK.out _ HD.out
        refine wpAnyH_take (i := 0) (v := .string s0) rfl (by kernel_rfl) (by kernel_rfl) (by kernel_rfl) (fun _ _ _ h => h) (Or.inl ⟨by kernel_rfl, fun w hSw => by (try dsimp only at hSw); go_simp; all_goals first | omega | exact IntWalk.i64_in _ (by omega)⟩) (by assumption) ?_
        try simp only [Act.put, List.setIfInBounds_toArray]
        refine wpAnyH_take (i := 1) (v := .string s1) rfl (by kernel_rfl) (by kernel_rfl) (by kernel_rfl) (fun _ _ _ h => h) (Or.inl ⟨by kernel_rfl, fun w hSw => by (try dsimp only at hSw); go_simp; all_goals first | omega | exact IntWalk.i64_in _ (by omega)⟩) (by assumption) ?_
        try simp only [Act.put]
        refine wpAnyH_take (i := 2) (v := .pointer (some ⟨w.heap.size, 2, none⟩)) rfl (by kernel_rfl) (by kernel_rfl) (by kernel_rfl) (fun _ _ _ h => h) (Or.inl ⟨by kernel_rfl, fun w hSw => by (try dsimp only at hSw); go_simp; all_goals first | omega | exact IntWalk.i64_in _ (by omega)⟩) (by assumption) ?_
        try simp only [Act.put]
        refine wpAnyH_take (i := 3) (v := .slice (some ⟨b0, off, none⟩) m.length cb) rfl (by kernel_rfl) (by kernel_rfl) (by kernel_rfl) (fun _ _ _ h => h) (Or.inl ⟨by kernel_rfl, fun w hSw => by (try dsimp only at hSw); go_simp; all_goals first | omega | exact IntWalk.i64_in _ (by omega)⟩) (by assumption) ?_
        try simp only [Act.put]
        refine wpAnyH_take (i := 4) (v := .int .i64 (k : Int)) rfl (by kernel_rfl) (by kernel_rfl) (by kernel_rfl) (fun _ _ _ h => h) (Or.inl ⟨by kernel_rfl, fun w hSw => by (try dsimp only at hSw); go_simp; all_goals first | omega | exact IntWalk.i64_in _ (by omega)⟩) (by assumption) ?_
        try simp only [Act.put]
        refine wpAnyH_take (i := 5) (v := .pointer (some ⟨b0, off + k * 2, none⟩)) rfl (by kernel_rfl) (by kernel_rfl) (by kernel_rfl) (fun _ _ _ h => h) (Or.inl ⟨by kernel_rfl, fun w hSw => by (try dsimp only at hSw); go_simp; all_goals first | omega | exact IntWalk.i64_in _ (by omega)⟩) (by assumption) ?_
        try simp only [Act.put]
        refine wpAnyH_take (i := 6) (v := .pointer (some ⟨b0, off + k * 2, none⟩)) rfl (by kernel_rfl) (by kernel_rfl) (by kernel_rfl) (fun _ _ _ h => h) (Or.inl ⟨by kernel_rfl, fun w hSw => by (try dsimp only at hSw); go_simp; all_goals first | omega | exact IntWalk.i64_in _ (by omega)⟩) (by assumption) ?_
        try simp only [Act.put]
        refine wpAnyH_take (i := 7) (v := .int .i64 x1) rfl (by kernel_rfl) (by kernel_rfl) (by kernel_rfl) (fun _ _ _ h => h) (Or.inl ⟨by kernel_rfl, fun w hSw => by (try dsimp only at hSw); go_simp; all_goals first | omega | exact IntWalk.i64_in _ (by omega)⟩) (by assumption) ?_
        try simp only [Act.put]
        refine wpAnyH_take (i := 11) (v := .pointer (some ⟨w.heap.size, 2, none⟩)) rfl (by kernel_rfl) (by kernel_rfl) (by kernel_rfl) (fun _ _ _ h => h) (Or.inl ⟨by kernel_rfl, fun w hSw => by (try dsimp only at hSw); go_simp; all_goals first | omega | exact IntWalk.i64_in _ (by omega)⟩) (by assumption) ?_
        try simp only [Act.put]
        refine wpAnyH_take (i := 12) (v := .slice (some ⟨b0, off, none⟩) m.length cb) rfl (by kernel_rfl) (by kernel_rfl) (by kernel_rfl) (fun _ _ _ h => h) (Or.inl ⟨by kernel_rfl, fun w hSw => by (try dsimp only at hSw); go_simp; all_goals first | omega | exact IntWalk.i64_in _ (by omega)⟩) (by assumption) ?_
        try simp only [Act.put]
        refine wpAnyH_take (i := 13) (v := .int .i64 (k : Int)) rfl (by kernel_rfl) (by kernel_rfl) (by kernel_rfl) (fun _ _ _ h => h) (Or.inl ⟨by kernel_rfl, fun w hSw => by (try dsimp only at hSw); go_simp; all_goals first | omega | exact IntWalk.i64_in _ (by omega)⟩) (by assumption) ?_
        try simp only [Act.put]
        refine wpAnyH_take (i := 14) (v := .pointer (some ⟨b0, off + k * 2, none⟩)) rfl (by kernel_rfl) (by kernel_rfl) (by kernel_rfl) (fun _ _ _ h => h) (Or.inl ⟨by kernel_rfl, fun w hSw => by (try dsimp only at hSw); go_simp; all_goals first | omega | exact IntWalk.i64_in _ (by omega)⟩) (by assumption) ?_
        try simp only [Act.put]
        refine wpAnyH_take (i := 15) (v := .pointer (some ⟨b0, off + k * 2 + 1, none⟩)) rfl (by kernel_rfl) (by kernel_rfl) (by kernel_rfl) (fun _ _ _ h => h) (Or.inl ⟨by kernel_rfl, fun w hSw => by (try dsimp only at hSw); go_simp; all_goals first | omega | exact IntWalk.i64_in _ (by omega)⟩) (by assumption) ?_
        try simp only [Act.put]
        refine wpAnyH_take (i := 16) (v := .int .i64 x2) rfl (by kernel_rfl) (by kernel_rfl) (by kernel_rfl) (fun _ _ _ h => h) (Or.inl ⟨by kernel_rfl, fun w hSw => by (try dsimp only at hSw); go_simp; all_goals first | omega | exact IntWalk.i64_in _ (by omega)⟩) (by assumption) ?_
        try simp only [Act.put]
        refine wpAnyH_ready (rs := [8]) (by kernel_rfl) (by simp) (AllReadyH.cons rfl (fun K hK => ?_) AllReadyH.nil)
        go_simp
        go_at_call 18
        refine (HF1.out _).mono ?_
        rintro e wc ⟨rfl, hb⟩
        have HBC := Lib.hid (below_on HD.out hb HD.out.size)
        clear hb
        refine hK.out _ _ (KK.out _ HBC.out) (fun hHeld => ?_)
        clear hK K
        try simp only [Act.put, List.setIfInBounds_toArray, List.set_cons_zero, List.set_cons_succ]
        refine wpAnyH_take (i := 9) (v := .string s2) rfl (by kernel_rfl) (by kernel_rfl) (by kernel_rfl) (fun _ _ _ h => h) (Or.inl ⟨by kernel_rfl, fun w hSw => by (try dsimp only at hSw); go_simp; all_goals first | omega | exact IntWalk.i64_in _ (by omega)⟩) (by assumption) ?_
        try simp only [Act.put, List.setIfInBounds_toArray]
        refine wpAnyH_take (i := 10) (v := .string s3) rfl (by kernel_rfl) (by kernel_rfl) (by kernel_rfl) (fun _ _ _ h => h) (Or.inl ⟨by kernel_rfl, fun w hSw => by (try dsimp only at hSw); go_simp; all_goals first | omega | exact IntWalk.i64_in _ (by omega)⟩) (by assumption) ?_
        try simp only [Act.put]
        refine wpAnyH_ready (rs := [17]) (by kernel_rfl) (by simp) (AllReadyH.cons rfl (fun K hK => ?_) AllReadyH.nil)
        go_simp
        go_at_call 18
        refine (HF2.out _).mono ?_
        rintro e wd ⟨rfl, hb⟩
        have HBD := Lib.hid (below_on HBC.out hb HBC.out.size)
        clear hb
        refine hK.out _ _ (KK.out _ HBD.out) (fun hHeld => ?_)
        clear hK K
        try simp only [Act.put, List.setIfInBounds_toArray, List.set_cons_zero, List.set_cons_succ]
        refine wpAnyH_take (i := 18) (v := .string s4) rfl (by kernel_rfl) (by kernel_rfl) (by kernel_rfl) (fun _ _ _ h => h) (Or.inl ⟨by kernel_rfl, fun w hSw => by (try dsimp only at hSw); go_simp; all_goals first | omega | exact IntWalk.i64_in _ (by omega)⟩) (by assumption) ?_
        try simp only [Act.put, List.setIfInBounds_toArray]
        refine wpAnyH_take (i := 19) (v := .string s4) rfl (by kernel_rfl) (by kernel_rfl) (by kernel_rfl) (fun _ _ _ h => h) (Or.inl ⟨by kernel_rfl, fun w hSw => by (try dsimp only at hSw); go_simp; all_goals first | omega | exact IntWalk.i64_in _ (by omega)⟩) (by assumption) ?_
        try simp only [Act.put]
        refine wpAnyH_done (by kernel_rfl) ?_ _
        go_wp2_with fail
        go_roundw
        case rel => exact ⟨k + 1, by omega, by rw [HS4.out], by go_num, HF.out.below HBD.out⟩
        case measure => simp [intOf]; omega
      · obtain rfl : k = m.length := by omega
        go_wp2_with fail
        go_ret
        exact ⟨ret_str HTX.out.symm, HF.out.b⟩
  · have hgf : isFB p l m = false := by simpa using hG
    rw [hgf] at HC
    have HTX := Lib.hid (fmtF_no hgf)
    clear hG hgf
    refine (HC.out _ HF.out.f).mono ?_
    rintro e w2 ⟨rfl, hb⟩
    have HF2 := Lib.hid (HF.out.below hb)
    clear hb
    go_wp2_with fail
    go_ret
    exact ⟨ret_str HTX.out.symm, HF2.out.b⟩
end Go.Proofs.YtehendofgcebcaaDoor
