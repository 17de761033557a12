/- Rows in lowest terms: rows that are multiples of each other have the same lowest terms. Words on numbers. No condition. -/
import Derived.Test.YtcfgljfpkhefmaaWords
namespace Go.Proofs.Ytcfgljfpkhefmaa

/-- The greatest common divisor of the magnitudes of a row. -/
def gcdL : List Int → Nat
  | [] => 0
  | x :: v => Nat.gcd x.natAbs (gcdL v)
/-- The first number that is not 0; 0 if there is none. -/
def firstZ : List Int → Int
  | [] => 0
  | x :: v => if x = 0 then firstZ v else x
/-- What a row is divided by. -/
def divZ (v : List Int) : Int := if firstZ v < 0 then -(gcdL v : Int) else gcdL v
/-- A row in lowest terms. -/
def primV (v : List Int) : List Int := if gcdL v = 0 then v else v.map fun x => Int.tdiv x (divZ v)
theorem gcdL_dvd : ∀ {v : List Int} {x : Int}, x ∈ v → (gcdL v : Int) ∣ x := by
  intro v
  induction v with
  | nil => intro x h; cases h
  | cons y v ih =>
    intro x h
    rw [Int.ofNat_dvd_left]
    cases h with
    | head => exact Nat.gcd_dvd_left ..
    | tail _ h => exact Nat.dvd_trans (Nat.gcd_dvd_right ..) (Int.ofNat_dvd_left.1 (ih h))
theorem divZ_dvd {v : List Int} {x : Int} (h : x ∈ v) : divZ v ∣ x := by
  unfold divZ; split
  · exact Int.neg_dvd.2 (gcdL_dvd h)
  · exact gcdL_dvd h
theorem gcdL_zero : ∀ {v : List Int}, gcdL v = 0 ↔ ∀ x ∈ v, x = 0 := by
  intro v
  induction v with
  | nil => exact ⟨fun _ x h => (by cases h), fun _ => rfl⟩
  | cons y v ih =>
    show Nat.gcd y.natAbs (gcdL v) = 0 ↔ _
    rw [Nat.gcd_eq_zero_iff, ih]
    constructor
    · intro h x hx
      cases hx with
      | head => exact Int.natAbs_eq_zero.1 h.1
      | tail _ hx => exact h.2 x hx
    · intro h
      exact ⟨Int.natAbs_eq_zero.2 (h y (List.mem_cons_self ..)), fun x hx => h x (List.mem_cons_of_mem _ hx)⟩
theorem firstZ_zero : ∀ {v : List Int}, firstZ v = 0 ↔ ∀ x ∈ v, x = 0 := by
  intro v
  induction v with
  | nil => exact ⟨fun _ x h => (by cases h), fun _ => rfl⟩
  | cons y v ih =>
    show (if y = 0 then firstZ v else y) = 0 ↔ _
    by_cases e : y = 0
    · rw [if_pos e, ih]
      exact ⟨fun h x hx => by cases hx with
        | head => exact e
        | tail _ hx => exact h x hx, fun h x hx => h x (List.mem_cons_of_mem _ hx)⟩
    · rw [if_neg e]
      exact ⟨fun h => absurd h e, fun h => absurd (h y (List.mem_cons_self ..)) e⟩
theorem gcdL_mul (s : Int) : ∀ (v : List Int), gcdL (v.map (s * ·)) = s.natAbs * gcdL v := by
  intro v
  induction v with
  | nil => rfl
  | cons y v ih =>
    show Nat.gcd (s * y).natAbs (gcdL (v.map (s * ·))) = _
    rw [ih, Int.natAbs_mul, Nat.gcd_mul_left]; rfl
theorem firstZ_mul {s : Int} (hs : s ≠ 0) : ∀ (v : List Int), firstZ (v.map (s * ·)) = s * firstZ v := by
  intro v
  induction v with
  | nil => exact (Int.mul_zero s).symm
  | cons y v ih =>
    show (if s * y = 0 then firstZ (v.map (s * ·)) else s * y) = s * (if y = 0 then firstZ v else y)
    by_cases e : y = 0
    · rw [if_pos (by rw [e, Int.mul_zero]), if_pos e, ih]
    · rw [if_neg (by intro h; exact e ((Int.mul_eq_zero.1 h).resolve_left hs)), if_neg e]
theorem divZ_mul {s : Int} (hs : s ≠ 0) (v : List Int) (hg : gcdL v ≠ 0) : divZ (v.map (s * ·)) = s * divZ v := by
  unfold divZ
  rw [gcdL_mul, firstZ_mul hs]
  have hf : firstZ v ≠ 0 := fun h => hg (gcdL_zero.2 (firstZ_zero.1 h))
  rcases Int.lt_or_gt_of_ne hs with h | h
  · have e : ((s.natAbs * gcdL v : Nat) : Int) = -(s * gcdL v) := by
      rw [Int.natCast_mul]
      have : (s.natAbs : Int) = -s := by omega
      rw [this, Int.neg_mul]
    rw [e]
    rcases Int.lt_or_gt_of_ne hf with h2 | h2
    · have : 0 < s * firstZ v := Int.mul_pos_of_neg_of_neg h h2
      rw [if_neg (by omega), if_pos h2, Int.mul_neg]
    · have : s * firstZ v < 0 := Int.mul_neg_of_neg_of_pos h h2
      rw [if_pos this, if_neg (by omega), Int.neg_neg]
  · have e : ((s.natAbs * gcdL v : Nat) : Int) = s * gcdL v := by
      rw [Int.natCast_mul]
      have : (s.natAbs : Int) = s := by omega
      rw [this]
    rw [e]
    rcases Int.lt_or_gt_of_ne hf with h2 | h2
    · have : s * firstZ v < 0 := Int.mul_neg_of_pos_of_neg h h2
      rw [if_pos this, if_pos h2, Int.mul_neg]
    · have : 0 < s * firstZ v := Int.mul_pos h h2
      rw [if_neg (by omega), if_neg (by omega)]
theorem divZ_nz {v : List Int} (hg : gcdL v ≠ 0) : divZ v ≠ 0 := by
  unfold divZ; split <;> omega
theorem primV_mul {s : Int} (hs : s ≠ 0) (v : List Int) : primV (v.map (s * ·)) = primV v := by
  unfold primV
  by_cases hg : gcdL v = 0
  · have h0 : gcdL (v.map (s * ·)) = 0 := by rw [gcdL_mul, hg, Nat.mul_zero]
    rw [if_pos hg, if_pos h0]
    have := gcdL_zero.1 hg
    apply List.ext_getElem (by simp)
    intro i h1 h2
    rw [List.getElem_map, this _ (List.getElem_mem h2), Int.mul_zero]
  · have h0 : gcdL (v.map (s * ·)) ≠ 0 := by
      rw [gcdL_mul]; exact Nat.mul_ne_zero (by omega) hg
    rw [if_neg hg, if_neg h0, List.map_map, divZ_mul hs v hg]
    apply List.map_congr_left
    intro x hx
    obtain ⟨q, hq⟩ := divZ_dvd hx
    have hd := divZ_nz hg
    show Int.tdiv (s * x) (s * divZ v) = Int.tdiv x (divZ v)
    rw [hq, ← Int.mul_assoc, Int.mul_tdiv_cancel_left _ (Int.mul_ne_zero hs hd), Int.mul_tdiv_cancel_left _ hd]
theorem primV_len (v : List Int) : (primV v).length = v.length := by
  unfold primV; split
  · rfl
  · exact List.length_map ..
/-- A row is a multiple of its lowest terms. -/
theorem primV_eq (v : List Int) : ∃ s : Int, s ≠ 0 ∧ v = (primV v).map (s * ·) := by
  unfold primV
  by_cases hg : gcdL v = 0
  · refine ⟨1, by decide, ?_⟩
    rw [if_pos hg]
    exact (List.map_id'' (fun x => Int.one_mul x) v).symm
  · refine ⟨divZ v, divZ_nz hg, ?_⟩
    rw [if_neg hg, List.map_map]
    have e : v.map (fun x => x) = v.map (fun x => divZ v * Int.tdiv x (divZ v)) := by
      apply List.map_congr_left
      intro x hx
      obtain ⟨q, hq⟩ := divZ_dvd hx
      show x = divZ v * Int.tdiv x (divZ v)
      rw [hq, Int.mul_tdiv_cancel_left _ (divZ_nz hg)]
    rw [List.map_id'] at e
    exact e
theorem primV_prim (v : List Int) : primV (primV v) = primV v := by
  obtain ⟨s, hs, e⟩ := primV_eq v
  have := primV_mul hs (primV v)
  rw [← e] at this; exact this.symm
/-- Rows that are multiples of each other have the same lowest terms. -/
theorem primV_prop {a b : Int} (ha : a ≠ 0) (hb : b ≠ 0) {v w : List Int} (h : v.map (a * ·) = w.map (b * ·)) : primV v = primV w := by
  rw [← primV_mul ha v, h, primV_mul hb]
theorem gcdL_snoc (x : Int) : ∀ (v : List Int), gcdL (v ++ [x]) = Nat.gcd (gcdL v) x.natAbs := by
  intro v
  induction v with
  | nil => show Nat.gcd x.natAbs 0 = Nat.gcd 0 x.natAbs; rw [Nat.gcd_zero_right, Nat.gcd_zero_left]
  | cons y v ih =>
    show Nat.gcd y.natAbs (gcdL (v ++ [x])) = Nat.gcd (Nat.gcd y.natAbs (gcdL v)) x.natAbs
    rw [ih, Nat.gcd_assoc]
theorem firstZ_snoc (x : Int) : ∀ (v : List Int), firstZ (v ++ [x]) = if firstZ v = 0 then x else firstZ v := by
  intro v
  induction v with
  | nil => show (if x = 0 then 0 else x) = if (0 : Int) = 0 then x else 0; rw [if_pos rfl]; split <;> omega
  | cons y v ih =>
    show (if y = 0 then firstZ (v ++ [x]) else y) = if (if y = 0 then firstZ v else y) = 0 then x else (if y = 0 then firstZ v else y)
    by_cases e : y = 0
    · rw [if_pos e, if_pos e, ih]
    · rw [if_neg e, if_neg e, if_neg e]
/-- One round of the division algorithm. -/
theorem gcd_step (a b : Int) : Nat.gcd b.natAbs (Int.tmod a b).natAbs = Nat.gcd a.natAbs b.natAbs := by
  rw [Int.natAbs_tmod, Nat.gcd_comm a.natAbs, Nat.gcd_rec b.natAbs a.natAbs, Nat.gcd_comm]
end Go.Proofs.Ytcfgljfpkhefmaa
