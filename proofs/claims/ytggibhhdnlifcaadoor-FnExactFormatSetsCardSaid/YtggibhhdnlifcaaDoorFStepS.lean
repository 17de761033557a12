/- What spec.FormatSteps answers: the steps in words. -/
import Derived.Test.YtggibhhdnlifcaaDoorStepF
namespace Go.Proofs.YtggibhhdnlifcaaDoor
open Go.RowKit

/-- The step k in words. -/
def stF (l : List Stp) (k : Nat) : ByteArray := stepS (l.getD k zS)
/-- The steps in words. -/
def fmtSteps (l : List Stp) : ByteArray := if l = [] then ⟨#[110, 111, 110, 101]⟩ else accS ⟨#[32]⟩ (stF l) l.length
theorem fmtSteps_no {l : List Stp} (h : l.length = 0) : fmtSteps l = ⟨#[110, 111, 110, 101]⟩ := by
  unfold fmtSteps
  rw [if_pos (List.eq_nil_of_length_eq_zero h)]
theorem fmtSteps_yes {l : List Stp} (h : 0 < l.length) : fmtSteps l = accS ⟨#[32]⟩ (stF l) l.length := by
  unfold fmtSteps
  rw [if_neg (by intro e; subst e; simp at h)]
theorem acc_one {f : Nat → ByteArray} {sep : ByteArray} (n : Nat) (h : 0 < n) (h1 : ∀ k, k < n → 1 ≤ (f k).size) : 1 ≤ (accS sep f n).size := by
  obtain ⟨m, rfl⟩ : ∃ m, n = m + 1 := ⟨n - 1, by omega⟩
  have := h1 m (by omega)
  rw [accS, ByteArray.size_append]
  omega
theorem txt_ne {s : ByteArray} (h : 1 ≤ s.size) : s.toList.isEmpty = false := by
  rw [ByteArray.toList_eq]
  cases hl : s.data.toList with
  | nil =>
    have h0 : s.data.toList.length = 0 := by rw [hl]; rfl
    rw [Array.length_toList] at h0
    have h1 : 1 ≤ s.data.size := h
    omega
  | cons _ _ => rfl
theorem acc_sep {f : Nat → ByteArray} {sep : ByteArray} {k : Nat} (h : 0 < k) : accS sep f (k + 1) = (accS sep f k ++ sep) ++ f k := by rw [accS, if_pos h]
theorem acc_start {f : Nat → ByteArray} {sep : ByteArray} {k : Nat} (h : ¬ 0 < k) : accS sep f (k + 1) = accS sep f k ++ f k := by rw [accS, if_neg h]
/-- All numbers of the steps are numbers of the machine. -/
def R64L (l : List Stp) : Prop := ∀ k, k < l.length → R64S (l.getD k zS)
theorem r64L {l : List Stp} (h : WfS l) : R64L l := fun k hk => ⟨r64 (h k hk).2.1, r64 (h k hk).2.2.1, r64 (h k hk).2.2.2.1, r64 (h k hk).2.2.2.2⟩

set_option maxHeartbeats 8000000 in
set_option maxRecDepth 100000 in
theorem specFSteps (l : List Stp) (A : Option Addr) (cap : Nat) (w : World) (hl : StepsAt w w.heap.size A l) (hr : R64L l) (hn : l.length ≤ 1048576) :
    Calls Tryd.prog 6 #[.slice A l.length cap] w fun e w' => e = .returned (.string (fmtSteps l)) ∧ Below w.heap.size w w' := by
  have HL := Lib.hid hl
  have HR := Lib.hid hr
  have HSZ := Lib.hid (fun (n : Nat) (h : n ≤ l.length) => acc_size ⟨#[32]⟩ (stF l) 90 n fun k hk => (stepS_size (hr k (by omega))).2)
  clear hl hr
  go_enter Tryd.func6, Tryd.ntmps6
  go_wp2_with fail
  go_loopw [3, 4] (fun s i wr => ∃ k : Nat, k ≤ l.length ∧ s = .string (accS ⟨#[32]⟩ (stF l) k) ∧ i = .int .i64 k ∧ Below w.heap.size w wr) (fun _ i _ => l.length - (intOf i).toNat)
  case atStart => exact ⟨0, by omega, rfl, rfl, Below.refl _ _⟩
  case round =>
    obtain ⟨k, hk, rfl, rfl, hb⟩ := hrel
    have HB := Lib.hid hb
    have hbs := hb.size
    clear hb
    have hsz := HSZ.out k hk
    have y4 : (⟨#[32]⟩ : ByteArray).size = 1 := rfl
    by_cases hlt : k < l.length
    · have hi : (k : Int) < (l.length : Int) := by omega
      have hsk : k * (90 + (⟨#[32]⟩ : ByteArray).size) ≤ 1048576 * 91 := by rw [y4]; omega
      obtain ⟨b, off, rfl, hbB, hcell⟩ := HL.out (by omega)
      obtain ⟨d0, d1, d2, d3, d4⟩ := hcell k hlt
      have hc0 := (HB.out.cell (p := ⟨b, off + k * 5, none⟩) hbB).trans d0
      have hc1 := (HB.out.cell (p := ⟨b, off + k * 5 + 1, none⟩) hbB).trans d1
      have hc2 := (HB.out.cell (p := ⟨b, off + k * 5 + 2, none⟩) hbB).trans d2
      have hc3 := (HB.out.cell (p := ⟨b, off + k * 5 + 3, none⟩) hbB).trans d3
      have hc4 := (HB.out.cell (p := ⟨b, off + k * 5 + 4, none⟩) hbB).trans d4
      have hx := HR.out k hlt
      have hsep := @acc_sep (stF l) ⟨#[32]⟩ k
      have hsta := @acc_start (stF l) ⟨#[32]⟩ k
      have hst : stF l k = stepS (l.getD k zS) := rfl
      rw [hst] at hsep hsta
      obtain ⟨sa, hsa⟩ : ∃ s, accS ⟨#[32]⟩ (stF l) k = s := ⟨_, rfl⟩
      rw [hsa] at hsep hsta hsz ⊢
      obtain ⟨x, hxe⟩ : ∃ x, l.getD k zS = x := ⟨_, rfl⟩
      rw [hxe] at hc0 hc1 hc2 hc3 hc4 hx hsep hsta
      clear hcell d0 d1 d2 d3 d4 hxe hst hsa
      obtain ⟨x1, x2, x3, x4, x5⟩ := x
      simp only [R64S, R64] at hx
      dsimp only at hc0 hc1 hc2 hc3 hc4
      have f2 := fmt_size (n := x2) hx.1
      have f3 := fmt_size (n := x3) hx.2.1
      have f4 := fmt_size (n := x4) hx.2.2.1
      have f5 := fmt_size (n := x5) hx.2.2.2
      have y1 : (⟨#[45]⟩ : ByteArray).size = 1 := rfl
      have y2 : (⟨#[58]⟩ : ByteArray).size = 1 := rfl
      have y3 : (⟨#[44]⟩ : ByteArray).size = 1 := rfl
      have y5 : (⟨#[63]⟩ : ByteArray).size = 1 := rfl
      have HX := Lib.hid hx
      have hA := newB wr (.cells #[.int .i64 x1, .int .i64 x2, .int .i64 x3, .int .i64 x4, .int .i64 x5] 36)
      have HA := Lib.hid hA
      have HB0 := Lib.hid (belowB HB.out hA hbs)
      have SB := Lib.hid (show SBox (wr.alloc (.cells #[.int .i64 x1, .int .i64 x2, .int .i64 x3, .int .i64 x4, .int .i64 x5] 36)) wr.heap.size (x1, x2, x3, x4, x5) from sbox_new wr (x1, x2, x3, x4, x5) 36)
      clear hA hx
      by_cases hk0 : 0 < k
      · by_cases c0 : x1 = 0
        · obtain ⟨s0, hs0⟩ : ∃ s, s = sa ++ (⟨#[32]⟩ : ByteArray) := ⟨_, rfl⟩
          have zs0 : s0.size = sa.size + 1 := by rw [hs0, ByteArray.size_append]; rfl
          have as0 : ∀ W : World, (Op.stringOp .add sa (ByteArray.mk #[32])).run Tryd.prog W = .ok (.string s0) W := fun W => by rw [hs0]; exact run_string_add_sum W _ _ (by omega)
          have hnx := hsep hk0
          rw [← hs0] at hnx
          obtain ⟨s1, hs1⟩ : ∃ s, s = s0 ++ (fmtS x3) := ⟨_, rfl⟩
          have zs1 : s1.size = s0.size + (fmtS x3).size := by rw [hs1, ByteArray.size_append]
          have as1 : ∀ W : World, (Op.stringOp .add s0 (fmtS x3)).run Tryd.prog W = .ok (.string s1) W := fun W => by rw [hs1]; exact run_string_add_sum W _ _ (by omega)
          obtain ⟨s2, hs2⟩ : ∃ s, s = s1 ++ (⟨#[45]⟩ : ByteArray) := ⟨_, rfl⟩
          have zs2 : s2.size = s1.size + 1 := by rw [hs2, ByteArray.size_append]; rfl
          have as2 : ∀ W : World, (Op.stringOp .add s1 (ByteArray.mk #[45])).run Tryd.prog W = .ok (.string s2) W := fun W => by rw [hs2]; exact run_string_add_sum W _ _ (by omega)
          obtain ⟨s3, hs3⟩ : ∃ s, s = s2 ++ (fmtS x4) := ⟨_, rfl⟩
          have zs3 : s3.size = s2.size + (fmtS x4).size := by rw [hs3, ByteArray.size_append]
          have as3 : ∀ W : World, (Op.stringOp .add s2 (fmtS x4)).run Tryd.prog W = .ok (.string s3) W := fun W => by rw [hs3]; exact run_string_add_sum W _ _ (by omega)
          have HANS := Lib.hid (show accS ⟨#[32]⟩ (stF l) (k + 1) = s3 by rw [hnx]; unfold stepS; dsimp only; rw [if_pos c0]; rw [hs3, hs2, hs1]; simp only [ByteArray.append_assoc])
          have d0 : (x1 == 0) = true := by simpa using c0
          clear f2 f3 f4 f5 y1 y2 y3 y4 y5 hnx hsep hsta hsz hsk zs0 hs0 zs1 hs1 zs2 hs2 zs3 hs3 c0
          have hki : (0 : Int) < (k : Int) := by omega
          go_wp2_with fail
          generalize (wr.alloc (.cells #[.int .i64 x1, .int .i64 x2, .int .i64 x3, .int .i64 x4, .int .i64 x5] 36)) = w1 at *
          have HB1 := Lib.hid (belowB HB0.out ((Below.refl w1.heap.size w1).drew) HB0.out.size)
          have HD1 := Lib.hid ((Below.refl w1.heap.size w1).drew)
          refine wp_region_held_drew (S := (fun W' : World => W'.cell? ⟨wr.heap.size, 0, none⟩ = some (.int .i64 x1) ∧ W'.cell? ⟨wr.heap.size, 1, none⟩ = some (.int .i64 x2) ∧ W'.cell? ⟨wr.heap.size, 2, none⟩ = some (.int .i64 x3) ∧ W'.cell? ⟨wr.heap.size, 3, none⟩ = some (.int .i64 x4) ∧ W'.cell? ⟨wr.heap.size, 4, none⟩ = some (.int .i64 x5))) (by kernel_rfl) ?_ (fun hHeld => ?_)
          · exact (SB.out.kept HD1.out).2
          refine wpAnyH_take (i := 0) (v := .string s0) rfl (by kernel_rfl) (by kernel_rfl) (by kernel_rfl) (fun _ _ _ h => h) (Or.inl ⟨by kernel_rfl, fun w hSw => by (try dsimp only at hSw); go_simp; all_goals first | omega | exact IntWalk.i64_in _ (by omega)⟩) (by assumption) ?_
          refine wpAnyH_take (i := 1) (v := .pointer (some ⟨wr.heap.size, 2, none⟩)) rfl (by kernel_rfl) (by kernel_rfl) (by kernel_rfl) (fun _ _ _ h => h) (Or.inl ⟨by kernel_rfl, fun w hSw => by (try dsimp only at hSw); go_simp; all_goals first | omega | exact IntWalk.i64_in _ (by omega)⟩) (by assumption) ?_
          refine wpAnyH_take (i := 2) (v := .int .i64 x3) rfl (by kernel_rfl) (by kernel_rfl) (by kernel_rfl) (fun _ _ _ h => h) (Or.inl ⟨by kernel_rfl, fun w hSw => by (try dsimp only at hSw); go_simp; all_goals first | omega | exact IntWalk.i64_in _ (by omega)⟩) (by assumption) ?_
          refine wpAnyH_take (i := 6) (v := .pointer (some ⟨wr.heap.size, 3, none⟩)) rfl (by kernel_rfl) (by kernel_rfl) (by kernel_rfl) (fun _ _ _ h => h) (Or.inl ⟨by kernel_rfl, fun w hSw => by (try dsimp only at hSw); go_simp; all_goals first | omega | exact IntWalk.i64_in _ (by omega)⟩) (by assumption) ?_
          refine wpAnyH_take (i := 7) (v := .int .i64 x4) rfl (by kernel_rfl) (by kernel_rfl) (by kernel_rfl) (fun _ _ _ h => h) (Or.inl ⟨by kernel_rfl, fun w hSw => by (try dsimp only at hSw); go_simp; all_goals first | omega | exact IntWalk.i64_in _ (by omega)⟩) (by assumption) ?_
          refine wpAnyH_ready (rs := [3]) (by kernel_rfl) (by simp) (AllReadyH.cons rfl (fun K hK => ?_) AllReadyH.nil)
          go_simp
          go_at_call 15
          refine (specFmt x3 _ (by have := HX.out; omega) (by have := HX.out; omega)).mono ?_
          rintro e w2 ⟨rfl, hb⟩
          have HD2 := Lib.hid (belowB HD1.out hb HD1.out.size)
          clear hb
          refine hK.out _ _ (SB.out.kept HD2.out).2 (fun hHeld => ?_)
          clear hK K
          refine wpAnyH_take (i := 4) (v := .string s1) rfl (by kernel_rfl) (by kernel_rfl) (by kernel_rfl) (fun _ _ _ h => h) (Or.inl ⟨by kernel_rfl, fun w hSw => by (try dsimp only at hSw); go_simp; all_goals first | omega | exact IntWalk.i64_in _ (by omega)⟩) (by assumption) ?_
          refine wpAnyH_take (i := 5) (v := .string s2) rfl (by kernel_rfl) (by kernel_rfl) (by kernel_rfl) (fun _ _ _ h => h) (Or.inl ⟨by kernel_rfl, fun w hSw => by (try dsimp only at hSw); go_simp; all_goals first | omega | exact IntWalk.i64_in _ (by omega)⟩) (by assumption) ?_
          refine wpAnyH_ready (rs := [8]) (by kernel_rfl) (by simp) (AllReadyH.cons rfl (fun K hK => ?_) AllReadyH.nil)
          go_simp
          go_at_call 15
          refine (specFmt x4 _ (by have := HX.out; omega) (by have := HX.out; omega)).mono ?_
          rintro e w3 ⟨rfl, hb⟩
          have HD3 := Lib.hid (belowB HD2.out hb HD2.out.size)
          clear hb
          refine hK.out _ _ (SB.out.kept HD3.out).2 (fun hHeld => ?_)
          clear hK K
          refine wpAnyH_take (i := 9) (v := .string s3) rfl (by kernel_rfl) (by kernel_rfl) (by kernel_rfl) (fun _ _ _ h => h) (Or.inl ⟨by kernel_rfl, fun w hSw => by (try dsimp only at hSw); go_simp; all_goals first | omega | exact IntWalk.i64_in _ (by omega)⟩) (by assumption) ?_
          refine wpAnyH_take (i := 10) (v := .string s3) rfl (by kernel_rfl) (by kernel_rfl) (by kernel_rfl) (fun _ _ _ h => h) (Or.inl ⟨by kernel_rfl, fun w hSw => by (try dsimp only at hSw); go_simp; all_goals first | omega | exact IntWalk.i64_in _ (by omega)⟩) (by assumption) ?_
          refine wpAnyH_done (by kernel_rfl) ?_ _
          go_wp2_with fail
          go_roundw
          case rel => exact ⟨k + 1, by omega, by rw [HANS.out], by go_num, belowB HB0.out HD3.out HB0.out.size⟩
          case measure => simp [intOf]; omega
        · by_cases c1 : x1 = 1
          · obtain ⟨s0, hs0⟩ : ∃ s, s = sa ++ (⟨#[32]⟩ : ByteArray) := ⟨_, rfl⟩
            have zs0 : s0.size = sa.size + 1 := by rw [hs0, ByteArray.size_append]; rfl
            have as0 : ∀ W : World, (Op.stringOp .add sa (ByteArray.mk #[32])).run Tryd.prog W = .ok (.string s0) W := fun W => by rw [hs0]; exact run_string_add_sum W _ _ (by omega)
            have hnx := hsep hk0
            rw [← hs0] at hnx
            obtain ⟨s1, hs1⟩ : ∃ s, s = s0 ++ (fmtS x2) := ⟨_, rfl⟩
            have zs1 : s1.size = s0.size + (fmtS x2).size := by rw [hs1, ByteArray.size_append]
            have as1 : ∀ W : World, (Op.stringOp .add s0 (fmtS x2)).run Tryd.prog W = .ok (.string s1) W := fun W => by rw [hs1]; exact run_string_add_sum W _ _ (by omega)
            obtain ⟨s2, hs2⟩ : ∃ s, s = s1 ++ (⟨#[58]⟩ : ByteArray) := ⟨_, rfl⟩
            have zs2 : s2.size = s1.size + 1 := by rw [hs2, ByteArray.size_append]; rfl
            have as2 : ∀ W : World, (Op.stringOp .add s1 (ByteArray.mk #[58])).run Tryd.prog W = .ok (.string s2) W := fun W => by rw [hs2]; exact run_string_add_sum W _ _ (by omega)
            obtain ⟨s3, hs3⟩ : ∃ s, s = s2 ++ (fmtS x3) := ⟨_, rfl⟩
            have zs3 : s3.size = s2.size + (fmtS x3).size := by rw [hs3, ByteArray.size_append]
            have as3 : ∀ W : World, (Op.stringOp .add s2 (fmtS x3)).run Tryd.prog W = .ok (.string s3) W := fun W => by rw [hs3]; exact run_string_add_sum W _ _ (by omega)
            obtain ⟨s4, hs4⟩ : ∃ s, s = s3 ++ (⟨#[44]⟩ : ByteArray) := ⟨_, rfl⟩
            have zs4 : s4.size = s3.size + 1 := by rw [hs4, ByteArray.size_append]; rfl
            have as4 : ∀ W : World, (Op.stringOp .add s3 (ByteArray.mk #[44])).run Tryd.prog W = .ok (.string s4) W := fun W => by rw [hs4]; exact run_string_add_sum W _ _ (by omega)
            obtain ⟨s5, hs5⟩ : ∃ s, s = s4 ++ (fmtS x4) := ⟨_, rfl⟩
            have zs5 : s5.size = s4.size + (fmtS x4).size := by rw [hs5, ByteArray.size_append]
            have as5 : ∀ W : World, (Op.stringOp .add s4 (fmtS x4)).run Tryd.prog W = .ok (.string s5) W := fun W => by rw [hs5]; exact run_string_add_sum W _ _ (by omega)
            have HANS := Lib.hid (show accS ⟨#[32]⟩ (stF l) (k + 1) = s5 by rw [hnx]; unfold stepS; dsimp only; rw [if_neg c0, if_pos c1]; rw [hs5, hs4, hs3, hs2, hs1]; simp only [ByteArray.append_assoc])
            have d0 : (x1 == 0) = false := by simpa using c0
            have d1 : (x1 == 1) = true := by simpa using c1
            clear f2 f3 f4 f5 y1 y2 y3 y4 y5 hnx hsep hsta hsz hsk zs0 hs0 zs1 hs1 zs2 hs2 zs3 hs3 zs4 hs4 zs5 hs5 c0 c1
            have hki : (0 : Int) < (k : Int) := by omega
            go_wp2_with fail
            generalize (wr.alloc (.cells #[.int .i64 x1, .int .i64 x2, .int .i64 x3, .int .i64 x4, .int .i64 x5] 36)) = w1 at *
            have HB1 := Lib.hid (belowB HB0.out ((Below.refl w1.heap.size w1).drew) HB0.out.size)
            have HD1 := Lib.hid ((Below.refl w1.heap.size w1).drew)
            refine wp_region_held_drew (S := (fun W' : World => W'.cell? ⟨wr.heap.size, 0, none⟩ = some (.int .i64 x1) ∧ W'.cell? ⟨wr.heap.size, 1, none⟩ = some (.int .i64 x2) ∧ W'.cell? ⟨wr.heap.size, 2, none⟩ = some (.int .i64 x3) ∧ W'.cell? ⟨wr.heap.size, 3, none⟩ = some (.int .i64 x4) ∧ W'.cell? ⟨wr.heap.size, 4, none⟩ = some (.int .i64 x5))) (by kernel_rfl) ?_ (fun hHeld => ?_)
            · exact (SB.out.kept HD1.out).2
            refine wpAnyH_take (i := 0) (v := .string s0) rfl (by kernel_rfl) (by kernel_rfl) (by kernel_rfl) (fun _ _ _ h => h) (Or.inl ⟨by kernel_rfl, fun w hSw => by (try dsimp only at hSw); go_simp; all_goals first | omega | exact IntWalk.i64_in _ (by omega)⟩) (by assumption) ?_
            refine wpAnyH_take (i := 1) (v := .pointer (some ⟨wr.heap.size, 1, none⟩)) rfl (by kernel_rfl) (by kernel_rfl) (by kernel_rfl) (fun _ _ _ h => h) (Or.inl ⟨by kernel_rfl, fun w hSw => by (try dsimp only at hSw); go_simp; all_goals first | omega | exact IntWalk.i64_in _ (by omega)⟩) (by assumption) ?_
            refine wpAnyH_take (i := 2) (v := .int .i64 x2) rfl (by kernel_rfl) (by kernel_rfl) (by kernel_rfl) (fun _ _ _ h => h) (Or.inl ⟨by kernel_rfl, fun w hSw => by (try dsimp only at hSw); go_simp; all_goals first | omega | exact IntWalk.i64_in _ (by omega)⟩) (by assumption) ?_
            refine wpAnyH_take (i := 6) (v := .pointer (some ⟨wr.heap.size, 2, none⟩)) rfl (by kernel_rfl) (by kernel_rfl) (by kernel_rfl) (fun _ _ _ h => h) (Or.inl ⟨by kernel_rfl, fun w hSw => by (try dsimp only at hSw); go_simp; all_goals first | omega | exact IntWalk.i64_in _ (by omega)⟩) (by assumption) ?_
            refine wpAnyH_take (i := 7) (v := .int .i64 x3) rfl (by kernel_rfl) (by kernel_rfl) (by kernel_rfl) (fun _ _ _ h => h) (Or.inl ⟨by kernel_rfl, fun w hSw => by (try dsimp only at hSw); go_simp; all_goals first | omega | exact IntWalk.i64_in _ (by omega)⟩) (by assumption) ?_
            refine wpAnyH_take (i := 11) (v := .pointer (some ⟨wr.heap.size, 3, none⟩)) rfl (by kernel_rfl) (by kernel_rfl) (by kernel_rfl) (fun _ _ _ h => h) (Or.inl ⟨by kernel_rfl, fun w hSw => by (try dsimp only at hSw); go_simp; all_goals first | omega | exact IntWalk.i64_in _ (by omega)⟩) (by assumption) ?_
            refine wpAnyH_take (i := 12) (v := .int .i64 x4) rfl (by kernel_rfl) (by kernel_rfl) (by kernel_rfl) (fun _ _ _ h => h) (Or.inl ⟨by kernel_rfl, fun w hSw => by (try dsimp only at hSw); go_simp; all_goals first | omega | exact IntWalk.i64_in _ (by omega)⟩) (by assumption) ?_
            refine wpAnyH_ready (rs := [3]) (by kernel_rfl) (by simp) (AllReadyH.cons rfl (fun K hK => ?_) AllReadyH.nil)
            go_simp
            go_at_call 15
            refine (specFmt x2 _ (by have := HX.out; omega) (by have := HX.out; omega)).mono ?_
            rintro e w2 ⟨rfl, hb⟩
            have HD2 := Lib.hid (belowB HD1.out hb HD1.out.size)
            clear hb
            refine hK.out _ _ (SB.out.kept HD2.out).2 (fun hHeld => ?_)
            clear hK K
            refine wpAnyH_take (i := 4) (v := .string s1) rfl (by kernel_rfl) (by kernel_rfl) (by kernel_rfl) (fun _ _ _ h => h) (Or.inl ⟨by kernel_rfl, fun w hSw => by (try dsimp only at hSw); go_simp; all_goals first | omega | exact IntWalk.i64_in _ (by omega)⟩) (by assumption) ?_
            refine wpAnyH_take (i := 5) (v := .string s2) rfl (by kernel_rfl) (by kernel_rfl) (by kernel_rfl) (fun _ _ _ h => h) (Or.inl ⟨by kernel_rfl, fun w hSw => by (try dsimp only at hSw); go_simp; all_goals first | omega | exact IntWalk.i64_in _ (by omega)⟩) (by assumption) ?_
            refine wpAnyH_ready (rs := [8]) (by kernel_rfl) (by simp) (AllReadyH.cons rfl (fun K hK => ?_) AllReadyH.nil)
            go_simp
            go_at_call 15
            refine (specFmt x3 _ (by have := HX.out; omega) (by have := HX.out; omega)).mono ?_
            rintro e w3 ⟨rfl, hb⟩
            have HD3 := Lib.hid (belowB HD2.out hb HD2.out.size)
            clear hb
            refine hK.out _ _ (SB.out.kept HD3.out).2 (fun hHeld => ?_)
            clear hK K
            refine wpAnyH_take (i := 9) (v := .string s3) rfl (by kernel_rfl) (by kernel_rfl) (by kernel_rfl) (fun _ _ _ h => h) (Or.inl ⟨by kernel_rfl, fun w hSw => by (try dsimp only at hSw); go_simp; all_goals first | omega | exact IntWalk.i64_in _ (by omega)⟩) (by assumption) ?_
            refine wpAnyH_take (i := 10) (v := .string s4) rfl (by kernel_rfl) (by kernel_rfl) (by kernel_rfl) (fun _ _ _ h => h) (Or.inl ⟨by kernel_rfl, fun w hSw => by (try dsimp only at hSw); go_simp; all_goals first | omega | exact IntWalk.i64_in _ (by omega)⟩) (by assumption) ?_
            refine wpAnyH_ready (rs := [13]) (by kernel_rfl) (by simp) (AllReadyH.cons rfl (fun K hK => ?_) AllReadyH.nil)
            go_simp
            go_at_call 15
            refine (specFmt x4 _ (by have := HX.out; omega) (by have := HX.out; omega)).mono ?_
            rintro e w4 ⟨rfl, hb⟩
            have HD4 := Lib.hid (belowB HD3.out hb HD3.out.size)
            clear hb
            refine hK.out _ _ (SB.out.kept HD4.out).2 (fun hHeld => ?_)
            clear hK K
            refine wpAnyH_take (i := 14) (v := .string s5) rfl (by kernel_rfl) (by kernel_rfl) (by kernel_rfl) (fun _ _ _ h => h) (Or.inl ⟨by kernel_rfl, fun w hSw => by (try dsimp only at hSw); go_simp; all_goals first | omega | exact IntWalk.i64_in _ (by omega)⟩) (by assumption) ?_
            refine wpAnyH_take (i := 15) (v := .string s5) rfl (by kernel_rfl) (by kernel_rfl) (by kernel_rfl) (fun _ _ _ h => h) (Or.inl ⟨by kernel_rfl, fun w hSw => by (try dsimp only at hSw); go_simp; all_goals first | omega | exact IntWalk.i64_in _ (by omega)⟩) (by assumption) ?_
            refine wpAnyH_done (by kernel_rfl) ?_ _
            go_wp2_with fail
            go_roundw
            case rel => exact ⟨k + 1, by omega, by rw [HANS.out], by go_num, belowB HB0.out HD4.out HB0.out.size⟩
            case measure => simp [intOf]; omega
          · by_cases c2 : x1 = 2
            · obtain ⟨s0, hs0⟩ : ∃ s, s = sa ++ (⟨#[32]⟩ : ByteArray) := ⟨_, rfl⟩
              have zs0 : s0.size = sa.size + 1 := by rw [hs0, ByteArray.size_append]; rfl
              have as0 : ∀ W : World, (Op.stringOp .add sa (ByteArray.mk #[32])).run Tryd.prog W = .ok (.string s0) W := fun W => by rw [hs0]; exact run_string_add_sum W _ _ (by omega)
              have hnx := hsep hk0
              rw [← hs0] at hnx
              obtain ⟨s1, hs1⟩ : ∃ s, s = s0 ++ (fmtS x2) := ⟨_, rfl⟩
              have zs1 : s1.size = s0.size + (fmtS x2).size := by rw [hs1, ByteArray.size_append]
              have as1 : ∀ W : World, (Op.stringOp .add s0 (fmtS x2)).run Tryd.prog W = .ok (.string s1) W := fun W => by rw [hs1]; exact run_string_add_sum W _ _ (by omega)
              obtain ⟨s2, hs2⟩ : ∃ s, s = s1 ++ (⟨#[58]⟩ : ByteArray) := ⟨_, rfl⟩
              have zs2 : s2.size = s1.size + 1 := by rw [hs2, ByteArray.size_append]; rfl
              have as2 : ∀ W : World, (Op.stringOp .add s1 (ByteArray.mk #[58])).run Tryd.prog W = .ok (.string s2) W := fun W => by rw [hs2]; exact run_string_add_sum W _ _ (by omega)
              obtain ⟨s3, hs3⟩ : ∃ s, s = s2 ++ (fmtS x3) := ⟨_, rfl⟩
              have zs3 : s3.size = s2.size + (fmtS x3).size := by rw [hs3, ByteArray.size_append]
              have as3 : ∀ W : World, (Op.stringOp .add s2 (fmtS x3)).run Tryd.prog W = .ok (.string s3) W := fun W => by rw [hs3]; exact run_string_add_sum W _ _ (by omega)
              obtain ⟨s4, hs4⟩ : ∃ s, s = s3 ++ (⟨#[45]⟩ : ByteArray) := ⟨_, rfl⟩
              have zs4 : s4.size = s3.size + 1 := by rw [hs4, ByteArray.size_append]; rfl
              have as4 : ∀ W : World, (Op.stringOp .add s3 (ByteArray.mk #[45])).run Tryd.prog W = .ok (.string s4) W := fun W => by rw [hs4]; exact run_string_add_sum W _ _ (by omega)
              obtain ⟨s5, hs5⟩ : ∃ s, s = s4 ++ (fmtS x4) := ⟨_, rfl⟩
              have zs5 : s5.size = s4.size + (fmtS x4).size := by rw [hs5, ByteArray.size_append]
              have as5 : ∀ W : World, (Op.stringOp .add s4 (fmtS x4)).run Tryd.prog W = .ok (.string s5) W := fun W => by rw [hs5]; exact run_string_add_sum W _ _ (by omega)
              obtain ⟨s6, hs6⟩ : ∃ s, s = s5 ++ (⟨#[44]⟩ : ByteArray) := ⟨_, rfl⟩
              have zs6 : s6.size = s5.size + 1 := by rw [hs6, ByteArray.size_append]; rfl
              have as6 : ∀ W : World, (Op.stringOp .add s5 (ByteArray.mk #[44])).run Tryd.prog W = .ok (.string s6) W := fun W => by rw [hs6]; exact run_string_add_sum W _ _ (by omega)
              obtain ⟨s7, hs7⟩ : ∃ s, s = s6 ++ (fmtS x5) := ⟨_, rfl⟩
              have zs7 : s7.size = s6.size + (fmtS x5).size := by rw [hs7, ByteArray.size_append]
              have as7 : ∀ W : World, (Op.stringOp .add s6 (fmtS x5)).run Tryd.prog W = .ok (.string s7) W := fun W => by rw [hs7]; exact run_string_add_sum W _ _ (by omega)
              have HANS := Lib.hid (show accS ⟨#[32]⟩ (stF l) (k + 1) = s7 by rw [hnx]; unfold stepS; dsimp only; rw [if_neg c0, if_neg c1, if_pos c2]; rw [hs7, hs6, hs5, hs4, hs3, hs2, hs1]; simp only [ByteArray.append_assoc])
              have d0 : (x1 == 0) = false := by simpa using c0
              have d1 : (x1 == 1) = false := by simpa using c1
              have d2 : (x1 == 2) = true := by simpa using c2
              clear f2 f3 f4 f5 y1 y2 y3 y4 y5 hnx hsep hsta hsz hsk zs0 hs0 zs1 hs1 zs2 hs2 zs3 hs3 zs4 hs4 zs5 hs5 zs6 hs6 zs7 hs7 c0 c1 c2
              have hki : (0 : Int) < (k : Int) := by omega
              go_wp2_with fail
              generalize (wr.alloc (.cells #[.int .i64 x1, .int .i64 x2, .int .i64 x3, .int .i64 x4, .int .i64 x5] 36)) = w1 at *
              have HB1 := Lib.hid (belowB HB0.out ((Below.refl w1.heap.size w1).drew) HB0.out.size)
              have HD1 := Lib.hid ((Below.refl w1.heap.size w1).drew)
              refine wp_region_held_drew (S := (fun W' : World => W'.cell? ⟨wr.heap.size, 0, none⟩ = some (.int .i64 x1) ∧ W'.cell? ⟨wr.heap.size, 1, none⟩ = some (.int .i64 x2) ∧ W'.cell? ⟨wr.heap.size, 2, none⟩ = some (.int .i64 x3) ∧ W'.cell? ⟨wr.heap.size, 3, none⟩ = some (.int .i64 x4) ∧ W'.cell? ⟨wr.heap.size, 4, none⟩ = some (.int .i64 x5))) (by kernel_rfl) ?_ (fun hHeld => ?_)
              · exact (SB.out.kept HD1.out).2
              refine wpAnyH_take (i := 0) (v := .string s0) rfl (by kernel_rfl) (by kernel_rfl) (by kernel_rfl) (fun _ _ _ h => h) (Or.inl ⟨by kernel_rfl, fun w hSw => by (try dsimp only at hSw); go_simp; all_goals first | omega | exact IntWalk.i64_in _ (by omega)⟩) (by assumption) ?_
              refine wpAnyH_take (i := 1) (v := .pointer (some ⟨wr.heap.size, 1, none⟩)) rfl (by kernel_rfl) (by kernel_rfl) (by kernel_rfl) (fun _ _ _ h => h) (Or.inl ⟨by kernel_rfl, fun w hSw => by (try dsimp only at hSw); go_simp; all_goals first | omega | exact IntWalk.i64_in _ (by omega)⟩) (by assumption) ?_
              refine wpAnyH_take (i := 2) (v := .int .i64 x2) rfl (by kernel_rfl) (by kernel_rfl) (by kernel_rfl) (fun _ _ _ h => h) (Or.inl ⟨by kernel_rfl, fun w hSw => by (try dsimp only at hSw); go_simp; all_goals first | omega | exact IntWalk.i64_in _ (by omega)⟩) (by assumption) ?_
              refine wpAnyH_take (i := 6) (v := .pointer (some ⟨wr.heap.size, 2, none⟩)) rfl (by kernel_rfl) (by kernel_rfl) (by kernel_rfl) (fun _ _ _ h => h) (Or.inl ⟨by kernel_rfl, fun w hSw => by (try dsimp only at hSw); go_simp; all_goals first | omega | exact IntWalk.i64_in _ (by omega)⟩) (by assumption) ?_
              refine wpAnyH_take (i := 7) (v := .int .i64 x3) rfl (by kernel_rfl) (by kernel_rfl) (by kernel_rfl) (fun _ _ _ h => h) (Or.inl ⟨by kernel_rfl, fun w hSw => by (try dsimp only at hSw); go_simp; all_goals first | omega | exact IntWalk.i64_in _ (by omega)⟩) (by assumption) ?_
              refine wpAnyH_take (i := 11) (v := .pointer (some ⟨wr.heap.size, 3, none⟩)) rfl (by kernel_rfl) (by kernel_rfl) (by kernel_rfl) (fun _ _ _ h => h) (Or.inl ⟨by kernel_rfl, fun w hSw => by (try dsimp only at hSw); go_simp; all_goals first | omega | exact IntWalk.i64_in _ (by omega)⟩) (by assumption) ?_
              refine wpAnyH_take (i := 12) (v := .int .i64 x4) rfl (by kernel_rfl) (by kernel_rfl) (by kernel_rfl) (fun _ _ _ h => h) (Or.inl ⟨by kernel_rfl, fun w hSw => by (try dsimp only at hSw); go_simp; all_goals first | omega | exact IntWalk.i64_in _ (by omega)⟩) (by assumption) ?_
              refine wpAnyH_take (i := 16) (v := .pointer (some ⟨wr.heap.size, 4, none⟩)) rfl (by kernel_rfl) (by kernel_rfl) (by kernel_rfl) (fun _ _ _ h => h) (Or.inl ⟨by kernel_rfl, fun w hSw => by (try dsimp only at hSw); go_simp; all_goals first | omega | exact IntWalk.i64_in _ (by omega)⟩) (by assumption) ?_
              refine wpAnyH_take (i := 17) (v := .int .i64 x5) rfl (by kernel_rfl) (by kernel_rfl) (by kernel_rfl) (fun _ _ _ h => h) (Or.inl ⟨by kernel_rfl, fun w hSw => by (try dsimp only at hSw); go_simp; all_goals first | omega | exact IntWalk.i64_in _ (by omega)⟩) (by assumption) ?_
              refine wpAnyH_ready (rs := [3]) (by kernel_rfl) (by simp) (AllReadyH.cons rfl (fun K hK => ?_) AllReadyH.nil)
              go_simp
              go_at_call 15
              refine (specFmt x2 _ (by have := HX.out; omega) (by have := HX.out; omega)).mono ?_
              rintro e w2 ⟨rfl, hb⟩
              have HD2 := Lib.hid (belowB HD1.out hb HD1.out.size)
              clear hb
              refine hK.out _ _ (SB.out.kept HD2.out).2 (fun hHeld => ?_)
              clear hK K
              refine wpAnyH_take (i := 4) (v := .string s1) rfl (by kernel_rfl) (by kernel_rfl) (by kernel_rfl) (fun _ _ _ h => h) (Or.inl ⟨by kernel_rfl, fun w hSw => by (try dsimp only at hSw); go_simp; all_goals first | omega | exact IntWalk.i64_in _ (by omega)⟩) (by assumption) ?_
              refine wpAnyH_take (i := 5) (v := .string s2) rfl (by kernel_rfl) (by kernel_rfl) (by kernel_rfl) (fun _ _ _ h => h) (Or.inl ⟨by kernel_rfl, fun w hSw => by (try dsimp only at hSw); go_simp; all_goals first | omega | exact IntWalk.i64_in _ (by omega)⟩) (by assumption) ?_
              refine wpAnyH_ready (rs := [8]) (by kernel_rfl) (by simp) (AllReadyH.cons rfl (fun K hK => ?_) AllReadyH.nil)
              go_simp
              go_at_call 15
              refine (specFmt x3 _ (by have := HX.out; omega) (by have := HX.out; omega)).mono ?_
              rintro e w3 ⟨rfl, hb⟩
              have HD3 := Lib.hid (belowB HD2.out hb HD2.out.size)
              clear hb
              refine hK.out _ _ (SB.out.kept HD3.out).2 (fun hHeld => ?_)
              clear hK K
              refine wpAnyH_take (i := 9) (v := .string s3) rfl (by kernel_rfl) (by kernel_rfl) (by kernel_rfl) (fun _ _ _ h => h) (Or.inl ⟨by kernel_rfl, fun w hSw => by (try dsimp only at hSw); go_simp; all_goals first | omega | exact IntWalk.i64_in _ (by omega)⟩) (by assumption) ?_
              refine wpAnyH_take (i := 10) (v := .string s4) rfl (by kernel_rfl) (by kernel_rfl) (by kernel_rfl) (fun _ _ _ h => h) (Or.inl ⟨by kernel_rfl, fun w hSw => by (try dsimp only at hSw); go_simp; all_goals first | omega | exact IntWalk.i64_in _ (by omega)⟩) (by assumption) ?_
              refine wpAnyH_ready (rs := [13]) (by kernel_rfl) (by simp) (AllReadyH.cons rfl (fun K hK => ?_) AllReadyH.nil)
              go_simp
              go_at_call 15
              refine (specFmt x4 _ (by have := HX.out; omega) (by have := HX.out; omega)).mono ?_
              rintro e w4 ⟨rfl, hb⟩
              have HD4 := Lib.hid (belowB HD3.out hb HD3.out.size)
              clear hb
              refine hK.out _ _ (SB.out.kept HD4.out).2 (fun hHeld => ?_)
              clear hK K
              refine wpAnyH_take (i := 14) (v := .string s5) rfl (by kernel_rfl) (by kernel_rfl) (by kernel_rfl) (fun _ _ _ h => h) (Or.inl ⟨by kernel_rfl, fun w hSw => by (try dsimp only at hSw); go_simp; all_goals first | omega | exact IntWalk.i64_in _ (by omega)⟩) (by assumption) ?_
              refine wpAnyH_take (i := 15) (v := .string s6) rfl (by kernel_rfl) (by kernel_rfl) (by kernel_rfl) (fun _ _ _ h => h) (Or.inl ⟨by kernel_rfl, fun w hSw => by (try dsimp only at hSw); go_simp; all_goals first | omega | exact IntWalk.i64_in _ (by omega)⟩) (by assumption) ?_
              refine wpAnyH_ready (rs := [18]) (by kernel_rfl) (by simp) (AllReadyH.cons rfl (fun K hK => ?_) AllReadyH.nil)
              go_simp
              go_at_call 15
              refine (specFmt x5 _ (by have := HX.out; omega) (by have := HX.out; omega)).mono ?_
              rintro e w5 ⟨rfl, hb⟩
              have HD5 := Lib.hid (belowB HD4.out hb HD4.out.size)
              clear hb
              refine hK.out _ _ (SB.out.kept HD5.out).2 (fun hHeld => ?_)
              clear hK K
              refine wpAnyH_take (i := 19) (v := .string s7) rfl (by kernel_rfl) (by kernel_rfl) (by kernel_rfl) (fun _ _ _ h => h) (Or.inl ⟨by kernel_rfl, fun w hSw => by (try dsimp only at hSw); go_simp; all_goals first | omega | exact IntWalk.i64_in _ (by omega)⟩) (by assumption) ?_
              refine wpAnyH_take (i := 20) (v := .string s7) rfl (by kernel_rfl) (by kernel_rfl) (by kernel_rfl) (fun _ _ _ h => h) (Or.inl ⟨by kernel_rfl, fun w hSw => by (try dsimp only at hSw); go_simp; all_goals first | omega | exact IntWalk.i64_in _ (by omega)⟩) (by assumption) ?_
              refine wpAnyH_done (by kernel_rfl) ?_ _
              go_wp2_with fail
              go_roundw
              case rel => exact ⟨k + 1, by omega, by rw [HANS.out], by go_num, belowB HB0.out HD5.out HB0.out.size⟩
              case measure => simp [intOf]; omega
            · obtain ⟨s0, hs0⟩ : ∃ s, s = sa ++ (⟨#[32]⟩ : ByteArray) := ⟨_, rfl⟩
              have zs0 : s0.size = sa.size + 1 := by rw [hs0, ByteArray.size_append]; rfl
              have as0 : ∀ W : World, (Op.stringOp .add sa (ByteArray.mk #[32])).run Tryd.prog W = .ok (.string s0) W := fun W => by rw [hs0]; exact run_string_add_sum W _ _ (by omega)
              have hnx := hsep hk0
              rw [← hs0] at hnx
              obtain ⟨s1, hs1⟩ : ∃ s, s = s0 ++ (⟨#[63]⟩ : ByteArray) := ⟨_, rfl⟩
              have zs1 : s1.size = s0.size + 1 := by rw [hs1, ByteArray.size_append]; rfl
              have as1 : ∀ W : World, (Op.stringOp .add s0 (ByteArray.mk #[63])).run Tryd.prog W = .ok (.string s1) W := fun W => by rw [hs1]; exact run_string_add_sum W _ _ (by omega)
              have HANS := Lib.hid (show accS ⟨#[32]⟩ (stF l) (k + 1) = s1 by rw [hnx]; unfold stepS; dsimp only; rw [if_neg c0, if_neg c1, if_neg c2]; rw [hs1])
              have d0 : (x1 == 0) = false := by simpa using c0
              have d1 : (x1 == 1) = false := by simpa using c1
              have d2 : (x1 == 2) = false := by simpa using c2
              clear f2 f3 f4 f5 y1 y2 y3 y4 y5 hnx hsep hsta hsz hsk zs0 hs0 zs1 hs1 c0 c1 c2
              have hki : (0 : Int) < (k : Int) := by omega
              go_wp2_with fail
              go_roundw
              case rel => exact ⟨k + 1, by omega, by rw [HANS.out], by go_num, HB0.out⟩
              case measure => simp [intOf]; omega
      · by_cases c0 : x1 = 0
        · have hnx := hsta hk0
          obtain ⟨s1, hs1⟩ : ∃ s, s = sa ++ (fmtS x3) := ⟨_, rfl⟩
          have zs1 : s1.size = sa.size + (fmtS x3).size := by rw [hs1, ByteArray.size_append]
          have as1 : ∀ W : World, (Op.stringOp .add sa (fmtS x3)).run Tryd.prog W = .ok (.string s1) W := fun W => by rw [hs1]; exact run_string_add_sum W _ _ (by omega)
          obtain ⟨s2, hs2⟩ : ∃ s, s = s1 ++ (⟨#[45]⟩ : ByteArray) := ⟨_, rfl⟩
          have zs2 : s2.size = s1.size + 1 := by rw [hs2, ByteArray.size_append]; rfl
          have as2 : ∀ W : World, (Op.stringOp .add s1 (ByteArray.mk #[45])).run Tryd.prog W = .ok (.string s2) W := fun W => by rw [hs2]; exact run_string_add_sum W _ _ (by omega)
          obtain ⟨s3, hs3⟩ : ∃ s, s = s2 ++ (fmtS x4) := ⟨_, rfl⟩
          have zs3 : s3.size = s2.size + (fmtS x4).size := by rw [hs3, ByteArray.size_append]
          have as3 : ∀ W : World, (Op.stringOp .add s2 (fmtS x4)).run Tryd.prog W = .ok (.string s3) W := fun W => by rw [hs3]; exact run_string_add_sum W _ _ (by omega)
          have HANS := Lib.hid (show accS ⟨#[32]⟩ (stF l) (k + 1) = s3 by rw [hnx]; unfold stepS; dsimp only; rw [if_pos c0]; rw [hs3, hs2, hs1]; simp only [ByteArray.append_assoc])
          have d0 : (x1 == 0) = true := by simpa using c0
          clear f2 f3 f4 f5 y1 y2 y3 y4 y5 hnx hsep hsta hsz hsk zs1 hs1 zs2 hs2 zs3 hs3 c0
          have hki : ¬ (0 : Int) < (k : Int) := by omega
          go_wp2_with fail
          generalize (wr.alloc (.cells #[.int .i64 x1, .int .i64 x2, .int .i64 x3, .int .i64 x4, .int .i64 x5] 36)) = w1 at *
          have HB1 := Lib.hid (belowB HB0.out ((Below.refl w1.heap.size w1).drew) HB0.out.size)
          have HD1 := Lib.hid ((Below.refl w1.heap.size w1).drew)
          refine wp_region_held_drew (S := (fun W' : World => W'.cell? ⟨wr.heap.size, 0, none⟩ = some (.int .i64 x1) ∧ W'.cell? ⟨wr.heap.size, 1, none⟩ = some (.int .i64 x2) ∧ W'.cell? ⟨wr.heap.size, 2, none⟩ = some (.int .i64 x3) ∧ W'.cell? ⟨wr.heap.size, 3, none⟩ = some (.int .i64 x4) ∧ W'.cell? ⟨wr.heap.size, 4, none⟩ = some (.int .i64 x5))) (by kernel_rfl) ?_ (fun hHeld => ?_)
          · exact (SB.out.kept HD1.out).2
          refine wpAnyH_take (i := 0) (v := .string sa) rfl (by kernel_rfl) (by kernel_rfl) (by kernel_rfl) (fun _ _ _ h => h) (Or.inl ⟨by kernel_rfl, fun w hSw => by (try dsimp only at hSw); go_simp; all_goals first | omega | exact IntWalk.i64_in _ (by omega)⟩) (by assumption) ?_
          refine wpAnyH_take (i := 1) (v := .pointer (some ⟨wr.heap.size, 2, none⟩)) rfl (by kernel_rfl) (by kernel_rfl) (by kernel_rfl) (fun _ _ _ h => h) (Or.inl ⟨by kernel_rfl, fun w hSw => by (try dsimp only at hSw); go_simp; all_goals first | omega | exact IntWalk.i64_in _ (by omega)⟩) (by assumption) ?_
          refine wpAnyH_take (i := 2) (v := .int .i64 x3) rfl (by kernel_rfl) (by kernel_rfl) (by kernel_rfl) (fun _ _ _ h => h) (Or.inl ⟨by kernel_rfl, fun w hSw => by (try dsimp only at hSw); go_simp; all_goals first | omega | exact IntWalk.i64_in _ (by omega)⟩) (by assumption) ?_
          refine wpAnyH_take (i := 6) (v := .pointer (some ⟨wr.heap.size, 3, none⟩)) rfl (by kernel_rfl) (by kernel_rfl) (by kernel_rfl) (fun _ _ _ h => h) (Or.inl ⟨by kernel_rfl, fun w hSw => by (try dsimp only at hSw); go_simp; all_goals first | omega | exact IntWalk.i64_in _ (by omega)⟩) (by assumption) ?_
          refine wpAnyH_take (i := 7) (v := .int .i64 x4) rfl (by kernel_rfl) (by kernel_rfl) (by kernel_rfl) (fun _ _ _ h => h) (Or.inl ⟨by kernel_rfl, fun w hSw => by (try dsimp only at hSw); go_simp; all_goals first | omega | exact IntWalk.i64_in _ (by omega)⟩) (by assumption) ?_
          refine wpAnyH_ready (rs := [3]) (by kernel_rfl) (by simp) (AllReadyH.cons rfl (fun K hK => ?_) AllReadyH.nil)
          go_simp
          go_at_call 15
          refine (specFmt x3 _ (by have := HX.out; omega) (by have := HX.out; omega)).mono ?_
          rintro e w2 ⟨rfl, hb⟩
          have HD2 := Lib.hid (belowB HD1.out hb HD1.out.size)
          clear hb
          refine hK.out _ _ (SB.out.kept HD2.out).2 (fun hHeld => ?_)
          clear hK K
          refine wpAnyH_take (i := 4) (v := .string s1) rfl (by kernel_rfl) (by kernel_rfl) (by kernel_rfl) (fun _ _ _ h => h) (Or.inl ⟨by kernel_rfl, fun w hSw => by (try dsimp only at hSw); go_simp; all_goals first | omega | exact IntWalk.i64_in _ (by omega)⟩) (by assumption) ?_
          refine wpAnyH_take (i := 5) (v := .string s2) rfl (by kernel_rfl) (by kernel_rfl) (by kernel_rfl) (fun _ _ _ h => h) (Or.inl ⟨by kernel_rfl, fun w hSw => by (try dsimp only at hSw); go_simp; all_goals first | omega | exact IntWalk.i64_in _ (by omega)⟩) (by assumption) ?_
          refine wpAnyH_ready (rs := [8]) (by kernel_rfl) (by simp) (AllReadyH.cons rfl (fun K hK => ?_) AllReadyH.nil)
          go_simp
          go_at_call 15
          refine (specFmt x4 _ (by have := HX.out; omega) (by have := HX.out; omega)).mono ?_
          rintro e w3 ⟨rfl, hb⟩
          have HD3 := Lib.hid (belowB HD2.out hb HD2.out.size)
          clear hb
          refine hK.out _ _ (SB.out.kept HD3.out).2 (fun hHeld => ?_)
          clear hK K
          refine wpAnyH_take (i := 9) (v := .string s3) rfl (by kernel_rfl) (by kernel_rfl) (by kernel_rfl) (fun _ _ _ h => h) (Or.inl ⟨by kernel_rfl, fun w hSw => by (try dsimp only at hSw); go_simp; all_goals first | omega | exact IntWalk.i64_in _ (by omega)⟩) (by assumption) ?_
          refine wpAnyH_take (i := 10) (v := .string s3) rfl (by kernel_rfl) (by kernel_rfl) (by kernel_rfl) (fun _ _ _ h => h) (Or.inl ⟨by kernel_rfl, fun w hSw => by (try dsimp only at hSw); go_simp; all_goals first | omega | exact IntWalk.i64_in _ (by omega)⟩) (by assumption) ?_
          refine wpAnyH_done (by kernel_rfl) ?_ _
          go_wp2_with fail
          go_roundw
          case rel => exact ⟨k + 1, by omega, by rw [HANS.out], by go_num, belowB HB0.out HD3.out HB0.out.size⟩
          case measure => simp [intOf]; omega
        · by_cases c1 : x1 = 1
          · have hnx := hsta hk0
            obtain ⟨s1, hs1⟩ : ∃ s, s = sa ++ (fmtS x2) := ⟨_, rfl⟩
            have zs1 : s1.size = sa.size + (fmtS x2).size := by rw [hs1, ByteArray.size_append]
            have as1 : ∀ W : World, (Op.stringOp .add sa (fmtS x2)).run Tryd.prog W = .ok (.string s1) W := fun W => by rw [hs1]; exact run_string_add_sum W _ _ (by omega)
            obtain ⟨s2, hs2⟩ : ∃ s, s = s1 ++ (⟨#[58]⟩ : ByteArray) := ⟨_, rfl⟩
            have zs2 : s2.size = s1.size + 1 := by rw [hs2, ByteArray.size_append]; rfl
            have as2 : ∀ W : World, (Op.stringOp .add s1 (ByteArray.mk #[58])).run Tryd.prog W = .ok (.string s2) W := fun W => by rw [hs2]; exact run_string_add_sum W _ _ (by omega)
            obtain ⟨s3, hs3⟩ : ∃ s, s = s2 ++ (fmtS x3) := ⟨_, rfl⟩
            have zs3 : s3.size = s2.size + (fmtS x3).size := by rw [hs3, ByteArray.size_append]
            have as3 : ∀ W : World, (Op.stringOp .add s2 (fmtS x3)).run Tryd.prog W = .ok (.string s3) W := fun W => by rw [hs3]; exact run_string_add_sum W _ _ (by omega)
            obtain ⟨s4, hs4⟩ : ∃ s, s = s3 ++ (⟨#[44]⟩ : ByteArray) := ⟨_, rfl⟩
            have zs4 : s4.size = s3.size + 1 := by rw [hs4, ByteArray.size_append]; rfl
            have as4 : ∀ W : World, (Op.stringOp .add s3 (ByteArray.mk #[44])).run Tryd.prog W = .ok (.string s4) W := fun W => by rw [hs4]; exact run_string_add_sum W _ _ (by omega)
            obtain ⟨s5, hs5⟩ : ∃ s, s = s4 ++ (fmtS x4) := ⟨_, rfl⟩
            have zs5 : s5.size = s4.size + (fmtS x4).size := by rw [hs5, ByteArray.size_append]
            have as5 : ∀ W : World, (Op.stringOp .add s4 (fmtS x4)).run Tryd.prog W = .ok (.string s5) W := fun W => by rw [hs5]; exact run_string_add_sum W _ _ (by omega)
            have HANS := Lib.hid (show accS ⟨#[32]⟩ (stF l) (k + 1) = s5 by rw [hnx]; unfold stepS; dsimp only; rw [if_neg c0, if_pos c1]; rw [hs5, hs4, hs3, hs2, hs1]; simp only [ByteArray.append_assoc])
            have d0 : (x1 == 0) = false := by simpa using c0
            have d1 : (x1 == 1) = true := by simpa using c1
            clear f2 f3 f4 f5 y1 y2 y3 y4 y5 hnx hsep hsta hsz hsk zs1 hs1 zs2 hs2 zs3 hs3 zs4 hs4 zs5 hs5 c0 c1
            have hki : ¬ (0 : Int) < (k : Int) := by omega
            go_wp2_with fail
            generalize (wr.alloc (.cells #[.int .i64 x1, .int .i64 x2, .int .i64 x3, .int .i64 x4, .int .i64 x5] 36)) = w1 at *
            have HB1 := Lib.hid (belowB HB0.out ((Below.refl w1.heap.size w1).drew) HB0.out.size)
            have HD1 := Lib.hid ((Below.refl w1.heap.size w1).drew)
            refine wp_region_held_drew (S := (fun W' : World => W'.cell? ⟨wr.heap.size, 0, none⟩ = some (.int .i64 x1) ∧ W'.cell? ⟨wr.heap.size, 1, none⟩ = some (.int .i64 x2) ∧ W'.cell? ⟨wr.heap.size, 2, none⟩ = some (.int .i64 x3) ∧ W'.cell? ⟨wr.heap.size, 3, none⟩ = some (.int .i64 x4) ∧ W'.cell? ⟨wr.heap.size, 4, none⟩ = some (.int .i64 x5))) (by kernel_rfl) ?_ (fun hHeld => ?_)
            · exact (SB.out.kept HD1.out).2
            refine wpAnyH_take (i := 0) (v := .string sa) rfl (by kernel_rfl) (by kernel_rfl) (by kernel_rfl) (fun _ _ _ h => h) (Or.inl ⟨by kernel_rfl, fun w hSw => by (try dsimp only at hSw); go_simp; all_goals first | omega | exact IntWalk.i64_in _ (by omega)⟩) (by assumption) ?_
            refine wpAnyH_take (i := 1) (v := .pointer (some ⟨wr.heap.size, 1, none⟩)) rfl (by kernel_rfl) (by kernel_rfl) (by kernel_rfl) (fun _ _ _ h => h) (Or.inl ⟨by kernel_rfl, fun w hSw => by (try dsimp only at hSw); go_simp; all_goals first | omega | exact IntWalk.i64_in _ (by omega)⟩) (by assumption) ?_
            refine wpAnyH_take (i := 2) (v := .int .i64 x2) rfl (by kernel_rfl) (by kernel_rfl) (by kernel_rfl) (fun _ _ _ h => h) (Or.inl ⟨by kernel_rfl, fun w hSw => by (try dsimp only at hSw); go_simp; all_goals first | omega | exact IntWalk.i64_in _ (by omega)⟩) (by assumption) ?_
            refine wpAnyH_take (i := 6) (v := .pointer (some ⟨wr.heap.size, 2, none⟩)) rfl (by kernel_rfl) (by kernel_rfl) (by kernel_rfl) (fun _ _ _ h => h) (Or.inl ⟨by kernel_rfl, fun w hSw => by (try dsimp only at hSw); go_simp; all_goals first | omega | exact IntWalk.i64_in _ (by omega)⟩) (by assumption) ?_
            refine wpAnyH_take (i := 7) (v := .int .i64 x3) rfl (by kernel_rfl) (by kernel_rfl) (by kernel_rfl) (fun _ _ _ h => h) (Or.inl ⟨by kernel_rfl, fun w hSw => by (try dsimp only at hSw); go_simp; all_goals first | omega | exact IntWalk.i64_in _ (by omega)⟩) (by assumption) ?_
            refine wpAnyH_take (i := 11) (v := .pointer (some ⟨wr.heap.size, 3, none⟩)) rfl (by kernel_rfl) (by kernel_rfl) (by kernel_rfl) (fun _ _ _ h => h) (Or.inl ⟨by kernel_rfl, fun w hSw => by (try dsimp only at hSw); go_simp; all_goals first | omega | exact IntWalk.i64_in _ (by omega)⟩) (by assumption) ?_
            refine wpAnyH_take (i := 12) (v := .int .i64 x4) rfl (by kernel_rfl) (by kernel_rfl) (by kernel_rfl) (fun _ _ _ h => h) (Or.inl ⟨by kernel_rfl, fun w hSw => by (try dsimp only at hSw); go_simp; all_goals first | omega | exact IntWalk.i64_in _ (by omega)⟩) (by assumption) ?_
            refine wpAnyH_ready (rs := [3]) (by kernel_rfl) (by simp) (AllReadyH.cons rfl (fun K hK => ?_) AllReadyH.nil)
            go_simp
            go_at_call 15
            refine (specFmt x2 _ (by have := HX.out; omega) (by have := HX.out; omega)).mono ?_
            rintro e w2 ⟨rfl, hb⟩
            have HD2 := Lib.hid (belowB HD1.out hb HD1.out.size)
            clear hb
            refine hK.out _ _ (SB.out.kept HD2.out).2 (fun hHeld => ?_)
            clear hK K
            refine wpAnyH_take (i := 4) (v := .string s1) rfl (by kernel_rfl) (by kernel_rfl) (by kernel_rfl) (fun _ _ _ h => h) (Or.inl ⟨by kernel_rfl, fun w hSw => by (try dsimp only at hSw); go_simp; all_goals first | omega | exact IntWalk.i64_in _ (by omega)⟩) (by assumption) ?_
            refine wpAnyH_take (i := 5) (v := .string s2) rfl (by kernel_rfl) (by kernel_rfl) (by kernel_rfl) (fun _ _ _ h => h) (Or.inl ⟨by kernel_rfl, fun w hSw => by (try dsimp only at hSw); go_simp; all_goals first | omega | exact IntWalk.i64_in _ (by omega)⟩) (by assumption) ?_
            refine wpAnyH_ready (rs := [8]) (by kernel_rfl) (by simp) (AllReadyH.cons rfl (fun K hK => ?_) AllReadyH.nil)
            go_simp
            go_at_call 15
            refine (specFmt x3 _ (by have := HX.out; omega) (by have := HX.out; omega)).mono ?_
            rintro e w3 ⟨rfl, hb⟩
            have HD3 := Lib.hid (belowB HD2.out hb HD2.out.size)
            clear hb
            refine hK.out _ _ (SB.out.kept HD3.out).2 (fun hHeld => ?_)
            clear hK K
            refine wpAnyH_take (i := 9) (v := .string s3) rfl (by kernel_rfl) (by kernel_rfl) (by kernel_rfl) (fun _ _ _ h => h) (Or.inl ⟨by kernel_rfl, fun w hSw => by (try dsimp only at hSw); go_simp; all_goals first | omega | exact IntWalk.i64_in _ (by omega)⟩) (by assumption) ?_
            refine wpAnyH_take (i := 10) (v := .string s4) rfl (by kernel_rfl) (by kernel_rfl) (by kernel_rfl) (fun _ _ _ h => h) (Or.inl ⟨by kernel_rfl, fun w hSw => by (try dsimp only at hSw); go_simp; all_goals first | omega | exact IntWalk.i64_in _ (by omega)⟩) (by assumption) ?_
            refine wpAnyH_ready (rs := [13]) (by kernel_rfl) (by simp) (AllReadyH.cons rfl (fun K hK => ?_) AllReadyH.nil)
            go_simp
            go_at_call 15
            refine (specFmt x4 _ (by have := HX.out; omega) (by have := HX.out; omega)).mono ?_
            rintro e w4 ⟨rfl, hb⟩
            have HD4 := Lib.hid (belowB HD3.out hb HD3.out.size)
            clear hb
            refine hK.out _ _ (SB.out.kept HD4.out).2 (fun hHeld => ?_)
            clear hK K
            refine wpAnyH_take (i := 14) (v := .string s5) rfl (by kernel_rfl) (by kernel_rfl) (by kernel_rfl) (fun _ _ _ h => h) (Or.inl ⟨by kernel_rfl, fun w hSw => by (try dsimp only at hSw); go_simp; all_goals first | omega | exact IntWalk.i64_in _ (by omega)⟩) (by assumption) ?_
            refine wpAnyH_take (i := 15) (v := .string s5) rfl (by kernel_rfl) (by kernel_rfl) (by kernel_rfl) (fun _ _ _ h => h) (Or.inl ⟨by kernel_rfl, fun w hSw => by (try dsimp only at hSw); go_simp; all_goals first | omega | exact IntWalk.i64_in _ (by omega)⟩) (by assumption) ?_
            refine wpAnyH_done (by kernel_rfl) ?_ _
            go_wp2_with fail
            go_roundw
            case rel => exact ⟨k + 1, by omega, by rw [HANS.out], by go_num, belowB HB0.out HD4.out HB0.out.size⟩
            case measure => simp [intOf]; omega
          · by_cases c2 : x1 = 2
            · have hnx := hsta hk0
              obtain ⟨s1, hs1⟩ : ∃ s, s = sa ++ (fmtS x2) := ⟨_, rfl⟩
              have zs1 : s1.size = sa.size + (fmtS x2).size := by rw [hs1, ByteArray.size_append]
              have as1 : ∀ W : World, (Op.stringOp .add sa (fmtS x2)).run Tryd.prog W = .ok (.string s1) W := fun W => by rw [hs1]; exact run_string_add_sum W _ _ (by omega)
              obtain ⟨s2, hs2⟩ : ∃ s, s = s1 ++ (⟨#[58]⟩ : ByteArray) := ⟨_, rfl⟩
              have zs2 : s2.size = s1.size + 1 := by rw [hs2, ByteArray.size_append]; rfl
              have as2 : ∀ W : World, (Op.stringOp .add s1 (ByteArray.mk #[58])).run Tryd.prog W = .ok (.string s2) W := fun W => by rw [hs2]; exact run_string_add_sum W _ _ (by omega)
              obtain ⟨s3, hs3⟩ : ∃ s, s = s2 ++ (fmtS x3) := ⟨_, rfl⟩
              have zs3 : s3.size = s2.size + (fmtS x3).size := by rw [hs3, ByteArray.size_append]
              have as3 : ∀ W : World, (Op.stringOp .add s2 (fmtS x3)).run Tryd.prog W = .ok (.string s3) W := fun W => by rw [hs3]; exact run_string_add_sum W _ _ (by omega)
              obtain ⟨s4, hs4⟩ : ∃ s, s = s3 ++ (⟨#[45]⟩ : ByteArray) := ⟨_, rfl⟩
              have zs4 : s4.size = s3.size + 1 := by rw [hs4, ByteArray.size_append]; rfl
              have as4 : ∀ W : World, (Op.stringOp .add s3 (ByteArray.mk #[45])).run Tryd.prog W = .ok (.string s4) W := fun W => by rw [hs4]; exact run_string_add_sum W _ _ (by omega)
              obtain ⟨s5, hs5⟩ : ∃ s, s = s4 ++ (fmtS x4) := ⟨_, rfl⟩
              have zs5 : s5.size = s4.size + (fmtS x4).size := by rw [hs5, ByteArray.size_append]
              have as5 : ∀ W : World, (Op.stringOp .add s4 (fmtS x4)).run Tryd.prog W = .ok (.string s5) W := fun W => by rw [hs5]; exact run_string_add_sum W _ _ (by omega)
              obtain ⟨s6, hs6⟩ : ∃ s, s = s5 ++ (⟨#[44]⟩ : ByteArray) := ⟨_, rfl⟩
              have zs6 : s6.size = s5.size + 1 := by rw [hs6, ByteArray.size_append]; rfl
              have as6 : ∀ W : World, (Op.stringOp .add s5 (ByteArray.mk #[44])).run Tryd.prog W = .ok (.string s6) W := fun W => by rw [hs6]; exact run_string_add_sum W _ _ (by omega)
              obtain ⟨s7, hs7⟩ : ∃ s, s = s6 ++ (fmtS x5) := ⟨_, rfl⟩
              have zs7 : s7.size = s6.size + (fmtS x5).size := by rw [hs7, ByteArray.size_append]
              have as7 : ∀ W : World, (Op.stringOp .add s6 (fmtS x5)).run Tryd.prog W = .ok (.string s7) W := fun W => by rw [hs7]; exact run_string_add_sum W _ _ (by omega)
              have HANS := Lib.hid (show accS ⟨#[32]⟩ (stF l) (k + 1) = s7 by rw [hnx]; unfold stepS; dsimp only; rw [if_neg c0, if_neg c1, if_pos c2]; rw [hs7, hs6, hs5, hs4, hs3, hs2, hs1]; simp only [ByteArray.append_assoc])
              have d0 : (x1 == 0) = false := by simpa using c0
              have d1 : (x1 == 1) = false := by simpa using c1
              have d2 : (x1 == 2) = true := by simpa using c2
              clear f2 f3 f4 f5 y1 y2 y3 y4 y5 hnx hsep hsta hsz hsk zs1 hs1 zs2 hs2 zs3 hs3 zs4 hs4 zs5 hs5 zs6 hs6 zs7 hs7 c0 c1 c2
              have hki : ¬ (0 : Int) < (k : Int) := by omega
              go_wp2_with fail
              generalize (wr.alloc (.cells #[.int .i64 x1, .int .i64 x2, .int .i64 x3, .int .i64 x4, .int .i64 x5] 36)) = w1 at *
              have HB1 := Lib.hid (belowB HB0.out ((Below.refl w1.heap.size w1).drew) HB0.out.size)
              have HD1 := Lib.hid ((Below.refl w1.heap.size w1).drew)
              refine wp_region_held_drew (S := (fun W' : World => W'.cell? ⟨wr.heap.size, 0, none⟩ = some (.int .i64 x1) ∧ W'.cell? ⟨wr.heap.size, 1, none⟩ = some (.int .i64 x2) ∧ W'.cell? ⟨wr.heap.size, 2, none⟩ = some (.int .i64 x3) ∧ W'.cell? ⟨wr.heap.size, 3, none⟩ = some (.int .i64 x4) ∧ W'.cell? ⟨wr.heap.size, 4, none⟩ = some (.int .i64 x5))) (by kernel_rfl) ?_ (fun hHeld => ?_)
              · exact (SB.out.kept HD1.out).2
              refine wpAnyH_take (i := 0) (v := .string sa) rfl (by kernel_rfl) (by kernel_rfl) (by kernel_rfl) (fun _ _ _ h => h) (Or.inl ⟨by kernel_rfl, fun w hSw => by (try dsimp only at hSw); go_simp; all_goals first | omega | exact IntWalk.i64_in _ (by omega)⟩) (by assumption) ?_
              refine wpAnyH_take (i := 1) (v := .pointer (some ⟨wr.heap.size, 1, none⟩)) rfl (by kernel_rfl) (by kernel_rfl) (by kernel_rfl) (fun _ _ _ h => h) (Or.inl ⟨by kernel_rfl, fun w hSw => by (try dsimp only at hSw); go_simp; all_goals first | omega | exact IntWalk.i64_in _ (by omega)⟩) (by assumption) ?_
              refine wpAnyH_take (i := 2) (v := .int .i64 x2) rfl (by kernel_rfl) (by kernel_rfl) (by kernel_rfl) (fun _ _ _ h => h) (Or.inl ⟨by kernel_rfl, fun w hSw => by (try dsimp only at hSw); go_simp; all_goals first | omega | exact IntWalk.i64_in _ (by omega)⟩) (by assumption) ?_
              refine wpAnyH_take (i := 6) (v := .pointer (some ⟨wr.heap.size, 2, none⟩)) rfl (by kernel_rfl) (by kernel_rfl) (by kernel_rfl) (fun _ _ _ h => h) (Or.inl ⟨by kernel_rfl, fun w hSw => by (try dsimp only at hSw); go_simp; all_goals first | omega | exact IntWalk.i64_in _ (by omega)⟩) (by assumption) ?_
              refine wpAnyH_take (i := 7) (v := .int .i64 x3) rfl (by kernel_rfl) (by kernel_rfl) (by kernel_rfl) (fun _ _ _ h => h) (Or.inl ⟨by kernel_rfl, fun w hSw => by (try dsimp only at hSw); go_simp; all_goals first | omega | exact IntWalk.i64_in _ (by omega)⟩) (by assumption) ?_
              refine wpAnyH_take (i := 11) (v := .pointer (some ⟨wr.heap.size, 3, none⟩)) rfl (by kernel_rfl) (by kernel_rfl) (by kernel_rfl) (fun _ _ _ h => h) (Or.inl ⟨by kernel_rfl, fun w hSw => by (try dsimp only at hSw); go_simp; all_goals first | omega | exact IntWalk.i64_in _ (by omega)⟩) (by assumption) ?_
              refine wpAnyH_take (i := 12) (v := .int .i64 x4) rfl (by kernel_rfl) (by kernel_rfl) (by kernel_rfl) (fun _ _ _ h => h) (Or.inl ⟨by kernel_rfl, fun w hSw => by (try dsimp only at hSw); go_simp; all_goals first | omega | exact IntWalk.i64_in _ (by omega)⟩) (by assumption) ?_
              refine wpAnyH_take (i := 16) (v := .pointer (some ⟨wr.heap.size, 4, none⟩)) rfl (by kernel_rfl) (by kernel_rfl) (by kernel_rfl) (fun _ _ _ h => h) (Or.inl ⟨by kernel_rfl, fun w hSw => by (try dsimp only at hSw); go_simp; all_goals first | omega | exact IntWalk.i64_in _ (by omega)⟩) (by assumption) ?_
              refine wpAnyH_take (i := 17) (v := .int .i64 x5) rfl (by kernel_rfl) (by kernel_rfl) (by kernel_rfl) (fun _ _ _ h => h) (Or.inl ⟨by kernel_rfl, fun w hSw => by (try dsimp only at hSw); go_simp; all_goals first | omega | exact IntWalk.i64_in _ (by omega)⟩) (by assumption) ?_
              refine wpAnyH_ready (rs := [3]) (by kernel_rfl) (by simp) (AllReadyH.cons rfl (fun K hK => ?_) AllReadyH.nil)
              go_simp
              go_at_call 15
              refine (specFmt x2 _ (by have := HX.out; omega) (by have := HX.out; omega)).mono ?_
              rintro e w2 ⟨rfl, hb⟩
              have HD2 := Lib.hid (belowB HD1.out hb HD1.out.size)
              clear hb
              refine hK.out _ _ (SB.out.kept HD2.out).2 (fun hHeld => ?_)
              clear hK K
              refine wpAnyH_take (i := 4) (v := .string s1) rfl (by kernel_rfl) (by kernel_rfl) (by kernel_rfl) (fun _ _ _ h => h) (Or.inl ⟨by kernel_rfl, fun w hSw => by (try dsimp only at hSw); go_simp; all_goals first | omega | exact IntWalk.i64_in _ (by omega)⟩) (by assumption) ?_
              refine wpAnyH_take (i := 5) (v := .string s2) rfl (by kernel_rfl) (by kernel_rfl) (by kernel_rfl) (fun _ _ _ h => h) (Or.inl ⟨by kernel_rfl, fun w hSw => by (try dsimp only at hSw); go_simp; all_goals first | omega | exact IntWalk.i64_in _ (by omega)⟩) (by assumption) ?_
              refine wpAnyH_ready (rs := [8]) (by kernel_rfl) (by simp) (AllReadyH.cons rfl (fun K hK => ?_) AllReadyH.nil)
              go_simp
              go_at_call 15
              refine (specFmt x3 _ (by have := HX.out; omega) (by have := HX.out; omega)).mono ?_
              rintro e w3 ⟨rfl, hb⟩
              have HD3 := Lib.hid (belowB HD2.out hb HD2.out.size)
              clear hb
              refine hK.out _ _ (SB.out.kept HD3.out).2 (fun hHeld => ?_)
              clear hK K
              refine wpAnyH_take (i := 9) (v := .string s3) rfl (by kernel_rfl) (by kernel_rfl) (by kernel_rfl) (fun _ _ _ h => h) (Or.inl ⟨by kernel_rfl, fun w hSw => by (try dsimp only at hSw); go_simp; all_goals first | omega | exact IntWalk.i64_in _ (by omega)⟩) (by assumption) ?_
              refine wpAnyH_take (i := 10) (v := .string s4) rfl (by kernel_rfl) (by kernel_rfl) (by kernel_rfl) (fun _ _ _ h => h) (Or.inl ⟨by kernel_rfl, fun w hSw => by (try dsimp only at hSw); go_simp; all_goals first | omega | exact IntWalk.i64_in _ (by omega)⟩) (by assumption) ?_
              refine wpAnyH_ready (rs := [13]) (by kernel_rfl) (by simp) (AllReadyH.cons rfl (fun K hK => ?_) AllReadyH.nil)
              go_simp
              go_at_call 15
              refine (specFmt x4 _ (by have := HX.out; omega) (by have := HX.out; omega)).mono ?_
              rintro e w4 ⟨rfl, hb⟩
              have HD4 := Lib.hid (belowB HD3.out hb HD3.out.size)
              clear hb
              refine hK.out _ _ (SB.out.kept HD4.out).2 (fun hHeld => ?_)
              clear hK K
              refine wpAnyH_take (i := 14) (v := .string s5) rfl (by kernel_rfl) (by kernel_rfl) (by kernel_rfl) (fun _ _ _ h => h) (Or.inl ⟨by kernel_rfl, fun w hSw => by (try dsimp only at hSw); go_simp; all_goals first | omega | exact IntWalk.i64_in _ (by omega)⟩) (by assumption) ?_
              refine wpAnyH_take (i := 15) (v := .string s6) rfl (by kernel_rfl) (by kernel_rfl) (by kernel_rfl) (fun _ _ _ h => h) (Or.inl ⟨by kernel_rfl, fun w hSw => by (try dsimp only at hSw); go_simp; all_goals first | omega | exact IntWalk.i64_in _ (by omega)⟩) (by assumption) ?_
              refine wpAnyH_ready (rs := [18]) (by kernel_rfl) (by simp) (AllReadyH.cons rfl (fun K hK => ?_) AllReadyH.nil)
              go_simp
              go_at_call 15
              refine (specFmt x5 _ (by have := HX.out; omega) (by have := HX.out; omega)).mono ?_
              rintro e w5 ⟨rfl, hb⟩
              have HD5 := Lib.hid (belowB HD4.out hb HD4.out.size)
              clear hb
              refine hK.out _ _ (SB.out.kept HD5.out).2 (fun hHeld => ?_)
              clear hK K
              refine wpAnyH_take (i := 19) (v := .string s7) rfl (by kernel_rfl) (by kernel_rfl) (by kernel_rfl) (fun _ _ _ h => h) (Or.inl ⟨by kernel_rfl, fun w hSw => by (try dsimp only at hSw); go_simp; all_goals first | omega | exact IntWalk.i64_in _ (by omega)⟩) (by assumption) ?_
              refine wpAnyH_take (i := 20) (v := .string s7) rfl (by kernel_rfl) (by kernel_rfl) (by kernel_rfl) (fun _ _ _ h => h) (Or.inl ⟨by kernel_rfl, fun w hSw => by (try dsimp only at hSw); go_simp; all_goals first | omega | exact IntWalk.i64_in _ (by omega)⟩) (by assumption) ?_
              refine wpAnyH_done (by kernel_rfl) ?_ _
              go_wp2_with fail
              go_roundw
              case rel => exact ⟨k + 1, by omega, by rw [HANS.out], by go_num, belowB HB0.out HD5.out HB0.out.size⟩
              case measure => simp [intOf]; omega
            · have hnx := hsta hk0
              obtain ⟨s1, hs1⟩ : ∃ s, s = sa ++ (⟨#[63]⟩ : ByteArray) := ⟨_, rfl⟩
              have zs1 : s1.size = sa.size + 1 := by rw [hs1, ByteArray.size_append]; rfl
              have as1 : ∀ W : World, (Op.stringOp .add sa (ByteArray.mk #[63])).run Tryd.prog W = .ok (.string s1) W := fun W => by rw [hs1]; exact run_string_add_sum W _ _ (by omega)
              have HANS := Lib.hid (show accS ⟨#[32]⟩ (stF l) (k + 1) = s1 by rw [hnx]; unfold stepS; dsimp only; rw [if_neg c0, if_neg c1, if_neg c2]; rw [hs1])
              have d0 : (x1 == 0) = false := by simpa using c0
              have d1 : (x1 == 1) = false := by simpa using c1
              have d2 : (x1 == 2) = false := by simpa using c2
              clear f2 f3 f4 f5 y1 y2 y3 y4 y5 hnx hsep hsta hsz hsk zs1 hs1 c0 c1 c2
              have hki : ¬ (0 : Int) < (k : Int) := by omega
              go_wp2_with fail
              go_roundw
              case rel => exact ⟨k + 1, by omega, by rw [HANS.out], by go_num, HB0.out⟩
              case measure => simp [intOf]; omega
    · obtain rfl : k = l.length := by omega
      by_cases h0 : l.length = 0
      · have HE := Lib.hid (fmtSteps_no h0)
        rw [h0]
        have he : accS ⟨#[32]⟩ (stF l) 0 = ⟨#[]⟩ := rfl
        rw [he]
        go_wp2_with fail
        go_ret
        exact ⟨by rw [HE.out] <;> rfl, HB.out⟩
      · have HE := Lib.hid (fmtSteps_yes (l := l) (by omega))
        have h1 := acc_one (f := stF l) (sep := ⟨#[32]⟩) l.length (by omega) fun k hk => (stepS_size (HR.out k hk)).1
        obtain ⟨sa, hsa⟩ : ∃ s, accS ⟨#[32]⟩ (stF l) l.length = s := ⟨_, rfl⟩
        rw [hsa] at HE h1 ⊢
        have hne := txt_ne h1
        clear hsa h1 hsz
        go_wp2_with fail
        go_ret
        exact ⟨by rw [HE.out] <;> rfl, HB.out⟩
end Go.Proofs.YtggibhhdnlifcaaDoor
