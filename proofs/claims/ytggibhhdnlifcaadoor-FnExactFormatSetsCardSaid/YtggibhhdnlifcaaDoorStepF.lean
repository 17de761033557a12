/- A step in words: the pure side; and what impl.Step.format answers, wherever the library's table of powers of ten reads as the program lays it. -/
import Derived.Test.YtggibhhdnlifcaaDoorFmt
import Derived.Test.YtggibhhdnlifcaaDoorStep
import Derived.Test.YtggibhhdnlifcaaDoorStrs
import Derived.Deep.RegionHeld3
namespace Go.Proofs.YtggibhhdnlifcaaDoor
open Go.RowKit

theorem newB (w : World) (o : Obj) : Below w.heap.size w (w.alloc o) := (Below.refl _ _).alloc (Nat.le_refl _) _
theorem belowB {B : Nat} {a b c : World} (h : Below B a b) (k : Below b.heap.size b c) (hB : B ≤ b.heap.size) : Below B a c := h.trans (k.mono hB)
/-- A step lies in the block b. -/
def SBox (W : World) (b : Nat) (x : Stp) : Prop := b < W.heap.size ∧ W.cell? ⟨b, 0, none⟩ = some (.int .i64 x.1) ∧ W.cell? ⟨b, 1, none⟩ = some (.int .i64 x.2.1) ∧ W.cell? ⟨b, 2, none⟩ = some (.int .i64 x.2.2.1) ∧ W.cell? ⟨b, 3, none⟩ = some (.int .i64 x.2.2.2.1) ∧ W.cell? ⟨b, 4, none⟩ = some (.int .i64 x.2.2.2.2)
theorem SBox.kept {W W' : World} {b : Nat} {x : Stp} (h : SBox W b x) (hb : Below W.heap.size W W') : SBox W' b x :=
  ⟨Nat.lt_of_lt_of_le h.1 hb.size, (hb.cell (p := ⟨b, 0, none⟩) h.1).trans h.2.1, (hb.cell (p := ⟨b, 1, none⟩) h.1).trans h.2.2.1, (hb.cell (p := ⟨b, 2, none⟩) h.1).trans h.2.2.2.1, (hb.cell (p := ⟨b, 3, none⟩) h.1).trans h.2.2.2.2.1, (hb.cell (p := ⟨b, 4, none⟩) h.1).trans h.2.2.2.2.2⟩
theorem sbox_new (w : World) (x : Stp) (t : TypeId) : SBox (w.alloc (.cells #[.int .i64 x.1, .int .i64 x.2.1, .int .i64 x.2.2.1, .int .i64 x.2.2.2.1, .int .i64 x.2.2.2.2] t)) w.heap.size x :=
  ⟨by simp, by rw [World.cell?_alloc_at _ _ _ _ rfl]; rfl, by rw [World.cell?_alloc_at _ _ _ _ rfl]; rfl, by rw [World.cell?_alloc_at _ _ _ _ rfl]; rfl, by rw [World.cell?_alloc_at _ _ _ _ rfl]; rfl, by rw [World.cell?_alloc_at _ _ _ _ rfl]; rfl⟩
/-- A number of the machine. -/
def R64 (n : Int) : Prop := -9223372036854775808 ≤ n ∧ n ≤ 9223372036854775807
theorem r64 {n : Int} (h : (Lit.int .i64 n).wf = true) : R64 n := by
  simp [Lit.wf, IntKind.min, IntKind.max, IntKind.signed, IntKind.bits] at h
  unfold R64
  omega
theorem fmt_size {n : Int} (h : R64 n) : (fmtS n).size ≤ 21 := by
  have := Lib.itoa_length_le n h.1 h.2
  unfold fmtS
  show (Lib.itoa n).toArray.size ≤ 21
  rw [List.size_toArray]
  omega
/-- The numbers of a step that are put in words. -/
def R64S (x : Stp) : Prop := R64 x.2.1 ∧ R64 x.2.2.1 ∧ R64 x.2.2.2.1 ∧ R64 x.2.2.2.2
/-- A step in words. -/
def stepS (x : Stp) : ByteArray :=
  if x.1 = 0 then (fmtS x.2.2.1 ++ ⟨#[45]⟩) ++ fmtS x.2.2.2.1
  else if x.1 = 1 then (((fmtS x.2.1 ++ ⟨#[58]⟩) ++ fmtS x.2.2.1) ++ ⟨#[44]⟩) ++ fmtS x.2.2.2.1
  else if x.1 = 2 then (((fmtS x.2.1 ++ ⟨#[58]⟩) ++ ((fmtS x.2.2.1 ++ ⟨#[45]⟩) ++ fmtS x.2.2.2.1)) ++ ⟨#[44]⟩) ++ fmtS x.2.2.2.2
  else ⟨#[63]⟩
theorem stepS_size {x : Stp} (h : R64S x) : 1 ≤ (stepS x).size ∧ (stepS x).size ≤ 90 := by
  have h1 := fmt_size h.1
  have h2 := fmt_size h.2.1
  have h3 := fmt_size h.2.2.1
  have h4 := fmt_size h.2.2.2
  have k1 : (⟨#[45]⟩ : ByteArray).size = 1 := rfl
  have k2 : (⟨#[58]⟩ : ByteArray).size = 1 := rfl
  have k3 : (⟨#[44]⟩ : ByteArray).size = 1 := rfl
  have k4 : (⟨#[63]⟩ : ByteArray).size = 1 := rfl
  unfold stepS
  split
  · simp only [ByteArray.size_append]; omega
  · split
    · simp only [ByteArray.size_append]; omega
    · split
      · simp only [ByteArray.size_append]; omega
      · omega

set_option maxHeartbeats 4000000 in
set_option maxRecDepth 100000 in
theorem stepFormat (x : Stp) (w : World) (hx : R64S x) (ht : Tab w) :
    Calls Tryd.prog 17 #[.agg #[.int .i64 x.1, .int .i64 x.2.1, .int .i64 x.2.2.1, .int .i64 x.2.2.2.1, .int .i64 x.2.2.2.2]] w fun e w' => e = .returned (.string (stepS x)) ∧ Below w.heap.size w w' := by
  obtain ⟨x1, x2, x3, x4, x5⟩ := x
  simp only [R64S, R64] at hx
  dsimp only
  have f2 := fmt_size (n := x2) hx.1
  have f3 := fmt_size (n := x3) hx.2.1
  have f4 := fmt_size (n := x4) hx.2.2.1
  have f5 := fmt_size (n := x5) hx.2.2.2
  have y1 : (⟨#[45]⟩ : ByteArray).size = 1 := rfl
  have y2 : (⟨#[58]⟩ : ByteArray).size = 1 := rfl
  have y3 : (⟨#[44]⟩ : ByteArray).size = 1 := rfl
  have HX := Lib.hid hx
  have hA := newB w (.cells #[.int .i64 x1, .int .i64 x2, .int .i64 x3, .int .i64 x4, .int .i64 x5] 36)
  have HA := Lib.hid hA
  have HT := Lib.hid (ht.below hA)
  have SB := Lib.hid (show SBox (w.alloc (.cells #[.int .i64 x1, .int .i64 x2, .int .i64 x3, .int .i64 x4, .int .i64 x5] 36)) w.heap.size (x1, x2, x3, x4, x5) from sbox_new w (x1, x2, x3, x4, x5) 36)
  clear hA ht hx
  obtain ⟨s1, hs1⟩ : ∃ s, s = fmtS x3 ++ (⟨#[45]⟩ : ByteArray) := ⟨_, rfl⟩
  have zs1 : s1.size = (fmtS x3).size + 1 := by rw [hs1, ByteArray.size_append]; rfl
  have as1 : ∀ W : World, (Op.stringOp .add (fmtS x3) (ByteArray.mk #[45])).run Tryd.prog W = .ok (.string s1) W := fun W => by rw [hs1]; exact run_string_add_sum W _ _ (by omega)
  obtain ⟨s2, hs2⟩ : ∃ s, s = s1 ++ (fmtS x4) := ⟨_, rfl⟩
  have zs2 : s2.size = s1.size + (fmtS x4).size := by rw [hs2, ByteArray.size_append]
  have as2 : ∀ W : World, (Op.stringOp .add s1 (fmtS x4)).run Tryd.prog W = .ok (.string s2) W := fun W => by rw [hs2]; exact run_string_add_sum W _ _ (by omega)
  by_cases c0 : x1 = 0
  · have HANS := Lib.hid (show stepS (x1, x2, x3, x4, x5) = s2 by unfold stepS; rw [if_pos c0, hs2, hs1])
    clear f2 f3 f4 f5 y1 y2 y3 zs1 hs1 zs2 hs2
    have d0 : (x1 == 0) = true := by simpa using c0
    clear c0
    go_enter Tryd.func17, Tryd.ntmps17
    go_wp2_with fail
    generalize (w.alloc (.cells #[.int .i64 x1, .int .i64 x2, .int .i64 x3, .int .i64 x4, .int .i64 x5] 36)) = w1 at *
    have HB1 := Lib.hid ((Below.refl w1.heap.size w1).drew)
    obtain ⟨g0, g1, g2, g3, g4, g5⟩ := SB.out
    go_region_held3 (fun W' => W'.cell? ⟨w.heap.size, 0, none⟩ = some (.int .i64 x1) ∧ W'.cell? ⟨w.heap.size, 1, none⟩ = some (.int .i64 x2) ∧ W'.cell? ⟨w.heap.size, 2, none⟩ = some (.int .i64 x3) ∧ W'.cell? ⟨w.heap.size, 3, none⟩ = some (.int .i64 x4) ∧ W'.cell? ⟨w.heap.size, 4, none⟩ = some (.int .i64 x5))
      (first | exact (SB.out.kept HB1.out).2 | exact (SB.out.kept HB2.out).2 | exact (SB.out.kept HB3.out).2 | fail)
      (first
        | (go_at_call 22; refine (implFmt x3 _ (by have := HX.out; omega) (by have := HX.out; omega) (HT.out.below HB1.out)).mono ?_; rintro e w2 ⟨rfl, hb⟩; have HB2 := Lib.hid (belowB HB1.out hb HB1.out.size); clear hb)
        | (go_at_call 22; refine (implFmt x4 _ (by have := HX.out; omega) (by have := HX.out; omega) (HT.out.below HB2.out)).mono ?_; rintro e w3 ⟨rfl, hb⟩; have HB3 := Lib.hid (belowB HB2.out hb HB2.out.size); clear hb))
    clear g0 g1 g2 g3 g4 g5
    obtain ⟨g0, g1, g2, g3, g4, g5⟩ := SB.out.kept HB3.out
    go_wp2_with fail
    go_ret
    exact ⟨by rw [HANS.out] <;> rfl, belowB HA.out HB3.out HA.out.size⟩
  · by_cases c1 : x1 = 1
    · obtain ⟨s3, hs3⟩ : ∃ s, s = fmtS x2 ++ (⟨#[58]⟩ : ByteArray) := ⟨_, rfl⟩
      have zs3 : s3.size = (fmtS x2).size + 1 := by rw [hs3, ByteArray.size_append]; rfl
      have as3 : ∀ W : World, (Op.stringOp .add (fmtS x2) (ByteArray.mk #[58])).run Tryd.prog W = .ok (.string s3) W := fun W => by rw [hs3]; exact run_string_add_sum W _ _ (by omega)
      obtain ⟨s4, hs4⟩ : ∃ s, s = s3 ++ (fmtS x3) := ⟨_, rfl⟩
      have zs4 : s4.size = s3.size + (fmtS x3).size := by rw [hs4, ByteArray.size_append]
      have as4 : ∀ W : World, (Op.stringOp .add s3 (fmtS x3)).run Tryd.prog W = .ok (.string s4) W := fun W => by rw [hs4]; exact run_string_add_sum W _ _ (by omega)
      obtain ⟨s5, hs5⟩ : ∃ s, s = s4 ++ (⟨#[44]⟩ : ByteArray) := ⟨_, rfl⟩
      have zs5 : s5.size = s4.size + 1 := by rw [hs5, ByteArray.size_append]; rfl
      have as5 : ∀ W : World, (Op.stringOp .add s4 (ByteArray.mk #[44])).run Tryd.prog W = .ok (.string s5) W := fun W => by rw [hs5]; exact run_string_add_sum W _ _ (by omega)
      obtain ⟨s6, hs6⟩ : ∃ s, s = s5 ++ (fmtS x4) := ⟨_, rfl⟩
      have zs6 : s6.size = s5.size + (fmtS x4).size := by rw [hs6, ByteArray.size_append]
      have as6 : ∀ W : World, (Op.stringOp .add s5 (fmtS x4)).run Tryd.prog W = .ok (.string s6) W := fun W => by rw [hs6]; exact run_string_add_sum W _ _ (by omega)
      have HANS := Lib.hid (show stepS (x1, x2, x3, x4, x5) = s6 by unfold stepS; rw [if_neg c0, if_pos c1, hs6, hs5, hs4, hs3])
      clear f2 f3 f4 f5 y1 y2 y3 zs1 hs1 zs2 hs2 zs3 hs3 zs4 hs4 zs5 hs5 zs6 hs6
      have d0 : (x1 == 0) = false := by simpa using c0
      have d1 : (x1 == 1) = true := by simpa using c1
      clear c0 c1
      go_enter Tryd.func17, Tryd.ntmps17
      go_wp2_with fail
      generalize (w.alloc (.cells #[.int .i64 x1, .int .i64 x2, .int .i64 x3, .int .i64 x4, .int .i64 x5] 36)) = w1 at *
      have HB1 := Lib.hid ((Below.refl w1.heap.size w1).drew)
      obtain ⟨g0, g1, g2, g3, g4, g5⟩ := SB.out
      go_region_held3 (fun W' => W'.cell? ⟨w.heap.size, 0, none⟩ = some (.int .i64 x1) ∧ W'.cell? ⟨w.heap.size, 1, none⟩ = some (.int .i64 x2) ∧ W'.cell? ⟨w.heap.size, 2, none⟩ = some (.int .i64 x3) ∧ W'.cell? ⟨w.heap.size, 3, none⟩ = some (.int .i64 x4) ∧ W'.cell? ⟨w.heap.size, 4, none⟩ = some (.int .i64 x5))
        (first | exact (SB.out.kept HB1.out).2 | exact (SB.out.kept HB2.out).2 | exact (SB.out.kept HB3.out).2 | fail)
        (first
          | (go_at_call 22; refine (implFmt x3 _ (by have := HX.out; omega) (by have := HX.out; omega) (HT.out.below HB1.out)).mono ?_; rintro e w2 ⟨rfl, hb⟩; have HB2 := Lib.hid (belowB HB1.out hb HB1.out.size); clear hb)
          | (go_at_call 22; refine (implFmt x4 _ (by have := HX.out; omega) (by have := HX.out; omega) (HT.out.below HB2.out)).mono ?_; rintro e w3 ⟨rfl, hb⟩; have HB3 := Lib.hid (belowB HB2.out hb HB2.out.size); clear hb))
      clear g0 g1 g2 g3 g4 g5
      obtain ⟨g0, g1, g2, g3, g4, g5⟩ := SB.out.kept HB3.out
      have HB4 := Lib.hid (belowB HB3.out ((Below.refl w3.heap.size w3).drew) HB3.out.size)
      go_wp2_with fail
      go_region_held3 (fun W' => W'.cell? ⟨w.heap.size, 0, none⟩ = some (.int .i64 x1) ∧ W'.cell? ⟨w.heap.size, 1, none⟩ = some (.int .i64 x2) ∧ W'.cell? ⟨w.heap.size, 2, none⟩ = some (.int .i64 x3) ∧ W'.cell? ⟨w.heap.size, 3, none⟩ = some (.int .i64 x4) ∧ W'.cell? ⟨w.heap.size, 4, none⟩ = some (.int .i64 x5))
        (first | exact (SB.out.kept HB4.out).2 | exact (SB.out.kept HB5.out).2 | exact (SB.out.kept HB6.out).2 | exact (SB.out.kept HB7.out).2 | fail)
        (first
          | (go_at_call 22; refine (implFmt x2 _ (by have := HX.out; omega) (by have := HX.out; omega) (HT.out.below HB4.out)).mono ?_; rintro e w5 ⟨rfl, hb⟩; have HB5 := Lib.hid (belowB HB4.out hb HB4.out.size); clear hb)
          | (go_at_call 22; refine (implFmt x3 _ (by have := HX.out; omega) (by have := HX.out; omega) (HT.out.below HB5.out)).mono ?_; rintro e w6 ⟨rfl, hb⟩; have HB6 := Lib.hid (belowB HB5.out hb HB5.out.size); clear hb)
          | (go_at_call 22; refine (implFmt x4 _ (by have := HX.out; omega) (by have := HX.out; omega) (HT.out.below HB6.out)).mono ?_; rintro e w7 ⟨rfl, hb⟩; have HB7 := Lib.hid (belowB HB6.out hb HB6.out.size); clear hb))
      go_wp2_with fail
      go_ret
      exact ⟨by rw [HANS.out] <;> rfl, belowB HA.out HB7.out HA.out.size⟩
    · by_cases c2 : x1 = 2
      · obtain ⟨s3, hs3⟩ : ∃ s, s = fmtS x2 ++ (⟨#[58]⟩ : ByteArray) := ⟨_, rfl⟩
        have zs3 : s3.size = (fmtS x2).size + 1 := by rw [hs3, ByteArray.size_append]; rfl
        have as3 : ∀ W : World, (Op.stringOp .add (fmtS x2) (ByteArray.mk #[58])).run Tryd.prog W = .ok (.string s3) W := fun W => by rw [hs3]; exact run_string_add_sum W _ _ (by omega)
        obtain ⟨s4, hs4⟩ : ∃ s, s = s3 ++ (s2) := ⟨_, rfl⟩
        have zs4 : s4.size = s3.size + s2.size := by rw [hs4, ByteArray.size_append]
        have as4 : ∀ W : World, (Op.stringOp .add s3 (s2)).run Tryd.prog W = .ok (.string s4) W := fun W => by rw [hs4]; exact run_string_add_sum W _ _ (by omega)
        obtain ⟨s5, hs5⟩ : ∃ s, s = s4 ++ (⟨#[44]⟩ : ByteArray) := ⟨_, rfl⟩
        have zs5 : s5.size = s4.size + 1 := by rw [hs5, ByteArray.size_append]; rfl
        have as5 : ∀ W : World, (Op.stringOp .add s4 (ByteArray.mk #[44])).run Tryd.prog W = .ok (.string s5) W := fun W => by rw [hs5]; exact run_string_add_sum W _ _ (by omega)
        obtain ⟨s6, hs6⟩ : ∃ s, s = s5 ++ (fmtS x5) := ⟨_, rfl⟩
        have zs6 : s6.size = s5.size + (fmtS x5).size := by rw [hs6, ByteArray.size_append]
        have as6 : ∀ W : World, (Op.stringOp .add s5 (fmtS x5)).run Tryd.prog W = .ok (.string s6) W := fun W => by rw [hs6]; exact run_string_add_sum W _ _ (by omega)
        have HANS := Lib.hid (show stepS (x1, x2, x3, x4, x5) = s6 by unfold stepS; rw [if_neg c0, if_neg c1, if_pos c2, hs6, hs5, hs4, hs3, hs2, hs1])
        clear f2 f3 f4 f5 y1 y2 y3 zs1 hs1 zs2 hs2 zs3 hs3 zs4 hs4 zs5 hs5 zs6 hs6
        have d0 : (x1 == 0) = false := by simpa using c0
        have d1 : (x1 == 1) = false := by simpa using c1
        have d2 : (x1 == 2) = true := by simpa using c2
        clear c0 c1 c2
        go_enter Tryd.func17, Tryd.ntmps17
        go_wp2_with fail
        generalize (w.alloc (.cells #[.int .i64 x1, .int .i64 x2, .int .i64 x3, .int .i64 x4, .int .i64 x5] 36)) = w1 at *
        have HB1 := Lib.hid ((Below.refl w1.heap.size w1).drew)
        obtain ⟨g0, g1, g2, g3, g4, g5⟩ := SB.out
        go_region_held3 (fun W' => W'.cell? ⟨w.heap.size, 0, none⟩ = some (.int .i64 x1) ∧ W'.cell? ⟨w.heap.size, 1, none⟩ = some (.int .i64 x2) ∧ W'.cell? ⟨w.heap.size, 2, none⟩ = some (.int .i64 x3) ∧ W'.cell? ⟨w.heap.size, 3, none⟩ = some (.int .i64 x4) ∧ W'.cell? ⟨w.heap.size, 4, none⟩ = some (.int .i64 x5))
          (first | exact (SB.out.kept HB1.out).2 | exact (SB.out.kept HB2.out).2 | exact (SB.out.kept HB3.out).2 | fail)
          (first
            | (go_at_call 22; refine (implFmt x3 _ (by have := HX.out; omega) (by have := HX.out; omega) (HT.out.below HB1.out)).mono ?_; rintro e w2 ⟨rfl, hb⟩; have HB2 := Lib.hid (belowB HB1.out hb HB1.out.size); clear hb)
            | (go_at_call 22; refine (implFmt x4 _ (by have := HX.out; omega) (by have := HX.out; omega) (HT.out.below HB2.out)).mono ?_; rintro e w3 ⟨rfl, hb⟩; have HB3 := Lib.hid (belowB HB2.out hb HB2.out.size); clear hb))
        clear g0 g1 g2 g3 g4 g5
        obtain ⟨g0, g1, g2, g3, g4, g5⟩ := SB.out.kept HB3.out
        have HB4 := Lib.hid (belowB HB3.out ((Below.refl w3.heap.size w3).drew) HB3.out.size)
        go_wp2_with fail
        go_region_held3 (fun W' => W'.cell? ⟨w.heap.size, 0, none⟩ = some (.int .i64 x1) ∧ W'.cell? ⟨w.heap.size, 1, none⟩ = some (.int .i64 x2) ∧ W'.cell? ⟨w.heap.size, 2, none⟩ = some (.int .i64 x3) ∧ W'.cell? ⟨w.heap.size, 3, none⟩ = some (.int .i64 x4) ∧ W'.cell? ⟨w.heap.size, 4, none⟩ = some (.int .i64 x5))
          (first | exact (SB.out.kept HB4.out).2 | exact (SB.out.kept HB5.out).2 | exact (SB.out.kept HB6.out).2 | fail)
          (first
            | (go_at_call 22; refine (implFmt x2 _ (by have := HX.out; omega) (by have := HX.out; omega) (HT.out.below HB4.out)).mono ?_; rintro e w5 ⟨rfl, hb⟩; have HB5 := Lib.hid (belowB HB4.out hb HB4.out.size); clear hb)
            | (go_at_call 22; refine (implFmt x5 _ (by have := HX.out; omega) (by have := HX.out; omega) (HT.out.below HB5.out)).mono ?_; rintro e w6 ⟨rfl, hb⟩; have HB6 := Lib.hid (belowB HB5.out hb HB5.out.size); clear hb))
        go_wp2_with fail
        go_ret
        exact ⟨by rw [HANS.out] <;> rfl, belowB HA.out HB6.out HA.out.size⟩
      · have HANS := Lib.hid (show stepS (x1, x2, x3, x4, x5) = ⟨#[63]⟩ by unfold stepS; rw [if_neg c0, if_neg c1, if_neg c2])
        clear f2 f3 f4 f5 y1 y2 y3 zs1 hs1 zs2 hs2
        have d0 : (x1 == 0) = false := by simpa using c0
        have d1 : (x1 == 1) = false := by simpa using c1
        have d2 : (x1 == 2) = false := by simpa using c2
        clear c0 c1 c2
        go_enter Tryd.func17, Tryd.ntmps17
        go_wp2_with fail
        generalize (w.alloc (.cells #[.int .i64 x1, .int .i64 x2, .int .i64 x3, .int .i64 x4, .int .i64 x5] 36)) = w1 at *
        have HB1 := Lib.hid ((Below.refl w1.heap.size w1).drew)
        obtain ⟨g0, g1, g2, g3, g4, g5⟩ := SB.out
        go_region_held3 (fun W' => W'.cell? ⟨w.heap.size, 0, none⟩ = some (.int .i64 x1) ∧ W'.cell? ⟨w.heap.size, 1, none⟩ = some (.int .i64 x2) ∧ W'.cell? ⟨w.heap.size, 2, none⟩ = some (.int .i64 x3) ∧ W'.cell? ⟨w.heap.size, 3, none⟩ = some (.int .i64 x4) ∧ W'.cell? ⟨w.heap.size, 4, none⟩ = some (.int .i64 x5))
          (first | exact (SB.out.kept HB1.out).2 | exact (SB.out.kept HB2.out).2 | exact (SB.out.kept HB3.out).2 | fail)
          (first
            | (go_at_call 22; refine (implFmt x3 _ (by have := HX.out; omega) (by have := HX.out; omega) (HT.out.below HB1.out)).mono ?_; rintro e w2 ⟨rfl, hb⟩; have HB2 := Lib.hid (belowB HB1.out hb HB1.out.size); clear hb)
            | (go_at_call 22; refine (implFmt x4 _ (by have := HX.out; omega) (by have := HX.out; omega) (HT.out.below HB2.out)).mono ?_; rintro e w3 ⟨rfl, hb⟩; have HB3 := Lib.hid (belowB HB2.out hb HB2.out.size); clear hb))
        clear g0 g1 g2 g3 g4 g5
        obtain ⟨g0, g1, g2, g3, g4, g5⟩ := SB.out.kept HB3.out
        go_wp2_with fail
        go_ret
        exact ⟨by rw [HANS.out] <;> rfl, belowB HA.out HB3.out HA.out.size⟩
end Go.Proofs.YtggibhhdnlifcaaDoor
