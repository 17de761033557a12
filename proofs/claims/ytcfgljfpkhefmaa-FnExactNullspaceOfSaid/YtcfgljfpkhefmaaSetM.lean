/- Sets of points as numbers, the bars that they span, and the first set that spans too many: words on lists, of no program. No condition. -/
import Derived.Test.YtcfgljfpkhefmaaGMath
import Derived.WalkKit
namespace Go.Proofs.Ytcfgljfpkhefmaa
open Go.RowKit

def memS (zs : List Int) (v : Int) : Bool := decide (v ∈ zs)
/-- Does S hold both ends of bar number i? -/
def spanF (l : List (Int × Int)) (S : Int → Bool) (i : Nat) : Bool := S (l.getD i (0, 0)).1 && S (l.getD i (0, 0)).2
def spanL (l : List (Int × Int)) (S : Int → Bool) : List Int := outF l.length (spanF l S)
theorem spanL_len (l : List (Int × Int)) (S : Int → Bool) : (spanL l S).length ≤ l.length := outF_len _ _
theorem outF_count (n : Nat) (S : Nat → Bool) : (outF n S).length = (List.range n).countP S := by
  unfold outF
  rw [List.length_map, List.countP_eq_length_filter]
theorem count_range (l : List (Int × Int)) (f : Int × Int → Bool) : ∀ k, k ≤ l.length → (List.range k).countP (fun i => f (l.getD i (0, 0))) = (l.take k).countP f := by
  intro k
  induction k with
  | zero => intro _; simp
  | succ k ih =>
    intro h
    rw [List.range_succ, List.countP_append, countP_take f l k (by omega), ih (by omega), List.countP_cons, List.countP_nil, Nat.zero_add]
theorem mem_outF (n : Nat) (S : Nat → Bool) (v : Int) : v ∈ outF n S ↔ ∃ u : Nat, u < n ∧ S u = true ∧ v = (u : Int) := by
  unfold outF
  simp only [List.mem_map, List.mem_filter, List.mem_range]
  constructor
  · rintro ⟨u, ⟨h1, h2⟩, rfl⟩; exact ⟨u, h1, h2, rfl⟩
  · rintro ⟨u, h1, h2, rfl⟩; exact ⟨u, ⟨h1, h2⟩, rfl⟩
/-- The points of the set m below P. -/
def setL (P m : Nat) : List Int := outF P (fun v => m.testBit v)
theorem setL_len (P m : Nat) : (setL P m).length ≤ P := outF_len _ _
def bothB (m : Nat) (x : Int × Int) : Bool := m.testBit x.1.toNat && m.testBit x.2.toNat
/-- How many bars the set m spans. -/
def cntS (l : List (Int × Int)) (m : Nat) : Nat := l.countP (bothB m)
theorem memS_set (P m : Nat) (v : Int) (h0 : 0 ≤ v) (h1 : v < (P : Int)) : memS (setL P m) v = m.testBit v.toNat := by
  unfold memS setL
  cases h : m.testBit v.toNat with
  | true => exact decide_eq_true ((mem_outF _ _ _).2 ⟨v.toNat, by omega, h, by omega⟩)
  | false =>
    refine decide_eq_false fun hm => ?_
    obtain ⟨u, _, h2, h3⟩ := (mem_outF _ _ _).1 hm
    have : v.toNat = u := by omega
    rw [this, h2] at h
    cases h
theorem span_cnt (P m : Nat) (l : List (Int × Int)) (hl : ∀ i, i < l.length → 0 ≤ (l.getD i (0, 0)).1 ∧ (l.getD i (0, 0)).1 < (l.getD i (0, 0)).2 ∧ (l.getD i (0, 0)).2 < (P : Int)) : (spanL l (memS (setL P m))).length = cntS l m := by
  unfold spanL cntS
  rw [outF_count]
  have h := count_range l (bothB m) l.length (Nat.le_refl _)
  rw [List.take_length] at h
  rw [← h]
  refine List.countP_congr fun i hi => ?_
  have hi' := hl i (List.mem_range.1 hi)
  unfold spanF bothB
  rw [memS_set P m _ (by omega) (by omega), memS_set P m _ (by omega) (by omega)]
theorem cntS_le (l : List (Int × Int)) (m : Nat) : cntS l m ≤ l.length := List.countP_le_length
theorem cntS_zero (l : List (Int × Int)) : cntS l 0 = 0 := by
  unfold cntS
  rw [List.countP_eq_zero]
  intro x _
  simp [bothB]
def rangeB (k c : Int) : Bool := decide (1 ≤ k) && decide (k ≤ 3) && decide (0 ≤ c) && decide (c ≤ 2 * k - 1)
/-- Does the set m span too many bars? -/
def badS (l : List (Int × Int)) (k c : Int) (P m : Nat) : Bool := decide (0 < cntS l m) && decide (k * ((setL P m).length : Int) - c < (cntS l m : Int))
theorem badS_zero (l : List (Int × Int)) (k c : Int) (P : Nat) : badS l k c P 0 = false := by simp [badS, cntS_zero]
/-- The first set that spans too many. -/
noncomputable def overM (p : Int) (l : List (Int × Int)) (k c : Int) : Option Nat := if (isGB p l && rangeB k c) = true then (List.range (2 ^ p.toNat)).find? (badS l k c p.toNat) else none
noncomputable def overL (p : Int) (l : List (Int × Int)) (k c : Int) : List Int := match overM p l k c with | some m => setL p.toNat m | none => []
noncomputable def overB (p : Int) (l : List (Int × Int)) (k c : Int) : Bool := (overM p l k c).isSome
theorem over_no {p k c : Int} {l : List (Int × Int)} (h : isGB p l = false ∨ rangeB k c = false) : overL p l k c = [] ∧ overB p l k c = false := by
  have : overM p l k c = none := by
    unfold overM
    rw [if_neg]
    rcases h with h | h <;> rw [h] <;> simp
  unfold overL overB
  rw [this]
  exact ⟨rfl, rfl⟩
theorem over_none {P : Nat} {k c : Int} {l : List (Int × Int)} (h : ∀ m, m < 2 ^ P → badS l k c P m = false) : overL (P : Int) l k c = [] ∧ overB (P : Int) l k c = false := by
  have : overM (P : Int) l k c = none := by
    unfold overM
    split
    · rw [List.find?_eq_none]
      intro m hm
      rw [Int.toNat_natCast] at *
      rw [h m (List.mem_range.1 hm)]
      simp
    · rfl
  unfold overL overB
  rw [this]
  exact ⟨rfl, rfl⟩
theorem over_some {P m : Nat} {k c : Int} {l : List (Int × Int)} (hg : isGB (P : Int) l = true) (hr : rangeB k c = true) (h : ∀ i, i < m → badS l k c P i = false) (hm : m < 2 ^ P) (hb : badS l k c P m = true) : overL (P : Int) l k c = setL P m ∧ overB (P : Int) l k c = true := by
  have : overM (P : Int) l k c = some m := by
    unfold overM
    rw [if_pos (by rw [hg, hr]; rfl), Int.toNat_natCast]
    rw [List.find?_range_eq_some]
    refine ⟨hb, List.mem_range.2 hm, fun j hj => ?_⟩
    rw [h j hj]
    rfl
  unfold overL overB
  rw [this]
  exact ⟨rfl, rfl⟩
theorem overL_len (p : Int) (l : List (Int × Int)) (k c : Int) : (overL p l k c).length ≤ 8 := by
  by_cases h : isGB p l = true
  · have hG : IsG p l := Classical.byContradiction fun g => by rw [isGB_no g] at h; cases h
    unfold overL
    split
    · have := setL_len p.toNat ‹_›
      have := hG.1
      omega
    · simp
  · rw [(over_no (k := k) (c := c) (.inl (by simpa using h))).1]
    simp
/-- The counts of bits of the sets below 2 ^ P, P at most 8. -/
theorem bit_and (k : IntKind) (hk : k = .i64 ∨ k = .u64) : ∀ m : Nat, m < 256 → ∀ v : Nat, v < 8 → bits .and k ((m : Int) / 2 ^ v) 1 = if m.testBit v then 1 else 0 := by
  rcases hk with rfl | rfl <;> decide +kernel
/-- Numbers of 64 bits. -/
def Wf (x : Int) : Prop := (Lit.int .i64 x).wf = true
def WfB (l : List (Int × Int)) : Prop := ∀ k, k < l.length → Wf (l.getD k (0, 0)).1 ∧ Wf (l.getD k (0, 0)).2
def WfI (zs : List Int) : Prop := ∀ k, k < zs.length → Wf (zs.getD k 0)
end Go.Proofs.Ytcfgljfpkhefmaa
