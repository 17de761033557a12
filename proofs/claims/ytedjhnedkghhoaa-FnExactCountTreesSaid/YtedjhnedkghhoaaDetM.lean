/- Determinants as the specification writes them, and how the program finds them by elimination: a matrix whose numbers beside the diagonal are not positive and whose rows sum up to nothing negative keeps that; where a pivot is zero, so is the determinant. Words on numbers. No condition. -/
import Derived.Test.YtedjhnedkghhoaaDetI
namespace Go.Proofs.Ytedjhnedkghhoaa

def sumZ (g : Nat → Int) : Nat → Int
  | 0 => 0
  | t + 1 => sumZ g t + g t
def skipC (j x : Nat) : Nat := if x < j then x else x + 1
/-- A determinant, by its last row. -/
def detF : Nat → (Nat → Nat → Int) → Int
  | 0, _ => 1
  | n + 1, f => sumZ (fun j => if (n + j) % 2 = 1 then -(f n j * detF n (fun i x => f i (skipC j x))) else f n j * detF n (fun i x => f i (skipC j x))) (n + 1)
def subM (a : Nat → Nat → Int) (k i j : Nat) : Nat → Nat → Int := fun r c => a (if r < k then r else i) (if c < k then c else j)
/-- The first k rows and columns, and row i and column j. -/
def bordD (k : Nat) (a : Nat → Nat → Int) (i j : Nat) : Int := detF (k + 1) (subM a k i j)
theorem sumZ_congr {g h : Nat → Int} : ∀ t, (∀ j, j < t → g j = h j) → sumZ g t = sumZ h t := by
  intro t
  induction t with
  | zero => intro _; rfl
  | succ t ih => intro e; rw [sumZ, sumZ, ih fun j hj => e j (by omega), e t (by omega)]
theorem sumZ_front (g : Nat → Int) : ∀ t, sumZ g (t + 1) = g 0 + sumZ (fun s => g (s + 1)) t := by
  intro t
  induction t with
  | zero => simp [sumZ]
  | succ t ih => rw [sumZ, ih, sumZ]; omega
theorem sumZ_lin (g h : Nat → Int) (p q : Int) : ∀ t, sumZ (fun j => p * g j - q * h j) t = p * sumZ g t - q * sumZ h t := by
  intro t
  induction t with
  | zero => simp [sumZ]
  | succ t ih => rw [sumZ, ih, sumZ, sumZ, Int.mul_add, Int.mul_add]; omega
theorem sumZ_mul (g : Nat → Int) (q : Int) : ∀ t, sumZ (fun j => g j * q) t = sumZ g t * q := by
  intro t
  induction t with
  | zero => simp [sumZ]
  | succ t ih => rw [sumZ, ih, sumZ, Int.add_mul]
theorem sumZ_low {g : Nat → Int} : ∀ t, (∀ j, j < t → g j ≤ 0) → sumZ g t ≤ 0 ∧ (0 ≤ sumZ g t → ∀ j, j < t → g j = 0) := by
  intro t
  induction t with
  | zero => intro _; exact ⟨Int.le_refl _, fun _ j hj => absurd hj (by omega)⟩
  | succ t ih =>
    intro h
    obtain ⟨i1, i2⟩ := ih fun j hj => h j (by omega)
    have ht := h t (by omega)
    rw [sumZ]
    refine ⟨by omega, fun h0 j hj => ?_⟩
    by_cases c : j = t
    · subst c; omega
    · exact i2 (by omega) j (by omega)
theorem sumZ_bd {g : Nat → Int} {B : Int} : ∀ t : Nat, (∀ j, j < t → -B ≤ g j ∧ g j ≤ B) → -((t : Int) * B) ≤ sumZ g t ∧ sumZ g t ≤ (t : Int) * B := by
  intro t
  induction t with
  | zero => intro _; simp [sumZ]
  | succ t ih =>
    intro h
    have i1 := ih fun j hj => h j (by omega)
    have ht := h t (by omega)
    have e : ((t + 1 : Nat) : Int) * B = (t : Int) * B + B := by rw [Int.natCast_succ, Int.add_mul, Int.one_mul]
    rw [sumZ, e]
    omega
theorem detF_congr : ∀ n (f g : Nat → Nat → Int), (∀ r c, r < n → c < n → f r c = g r c) → detF n f = detF n g := by
  intro n
  induction n with
  | zero => intro f g _; rfl
  | succ n ih =>
    intro f g h
    unfold detF
    refine sumZ_congr (n + 1) fun j hj => ?_
    have e : detF n (fun i x => f i (skipC j x)) = detF n (fun i x => g i (skipC j x)) := ih _ _ fun r c hr hc => h r _ (by omega) (by unfold skipC; split <;> omega)
    rw [e, h n j (by omega) hj]
def bndD : Nat → Int
  | 0 => 1
  | n + 1 => ((n + 1 : Nat) : Int) * (24 * bndD n)
theorem mul_bd {x y B C : Int} (hx : -B ≤ x ∧ x ≤ B) (hy : -C ≤ y ∧ y ≤ C) : -(B * C) ≤ x * y ∧ x * y ≤ B * C := by
  have hB : 0 ≤ B := by omega
  have hC : 0 ≤ C := by omega
  have h1 : 0 ≤ (B - x) * (C - y) := Int.mul_nonneg (by omega) (by omega)
  have h2 : 0 ≤ (B + x) * (C + y) := Int.mul_nonneg (by omega) (by omega)
  have h3 : 0 ≤ (B - x) * (C + y) := Int.mul_nonneg (by omega) (by omega)
  have h4 : 0 ≤ (B + x) * (C - y) := Int.mul_nonneg (by omega) (by omega)
  grind
theorem detF_bd : ∀ n (f : Nat → Nat → Int), (∀ r c, -24 ≤ f r c ∧ f r c ≤ 24) → -bndD n ≤ detF n f ∧ detF n f ≤ bndD n := by
  intro n
  induction n with
  | zero => intro f _; exact ⟨(by decide : -(1 : Int) ≤ 1), (by decide : (1 : Int) ≤ 1)⟩
  | succ n ih =>
    intro f h
    unfold detF bndD
    refine sumZ_bd (n + 1) fun j _ => ?_
    have h1 := mul_bd (h n j) (ih (fun i x => f i (skipC j x)) fun r c => h r _)
    split <;> omega
theorem bordD_bd {a : Nat → Nat → Int} (h : ∀ r c, -24 ≤ a r c ∧ a r c ≤ 24) (k i j : Nat) : -bndD (k + 1) ≤ bordD k a i j ∧ bordD k a i j ≤ bndD (k + 1) := detF_bd (k + 1) _ fun _ _ => h _ _
theorem bndD_val : bndD 1 = 24 ∧ bndD 2 = 1152 ∧ bndD 3 = 82944 ∧ bndD 4 = 7962624 ∧ bndD 5 = 955514880 := by decide
theorem bordD_det (a : Nat → Nat → Int) (n : Nat) : bordD n a n n = detF (n + 1) a := by
  unfold bordD
  refine detF_congr _ _ _ fun r c hr hc => ?_
  unfold subM
  congr 1
  · split <;> omega
  · split <;> omega

/-! Written out. -/
theorem bord_0 (a : Nat → Nat → Int) (i j : Nat) : bordD 0 a i j = (0 + a i j * 1) := rfl
theorem bord_1 (a : Nat → Nat → Int) (i j : Nat) : bordD 1 a i j = ((0 + -(a i 0 * (0 + a 0 j * 1))) + a i j * (0 + a 0 0 * 1)) := rfl
theorem bord_2 (a : Nat → Nat → Int) (i j : Nat) : bordD 2 a i j = (((0 + a i 0 * ((0 + -(a 1 1 * (0 + a 0 j * 1))) + a 1 j * (0 + a 0 1 * 1))) + -(a i 1 * ((0 + -(a 1 0 * (0 + a 0 j * 1))) + a 1 j * (0 + a 0 0 * 1)))) + a i j * ((0 + -(a 1 0 * (0 + a 0 1 * 1))) + a 1 1 * (0 + a 0 0 * 1))) := rfl
theorem bord_3 (a : Nat → Nat → Int) (i j : Nat) : bordD 3 a i j = ((((0 + -(a i 0 * (((0 + a 2 1 * ((0 + -(a 1 2 * (0 + a 0 j * 1))) + a 1 j * (0 + a 0 2 * 1))) + -(a 2 2 * ((0 + -(a 1 1 * (0 + a 0 j * 1))) + a 1 j * (0 + a 0 1 * 1)))) + a 2 j * ((0 + -(a 1 1 * (0 + a 0 2 * 1))) + a 1 2 * (0 + a 0 1 * 1))))) + a i 1 * (((0 + a 2 0 * ((0 + -(a 1 2 * (0 + a 0 j * 1))) + a 1 j * (0 + a 0 2 * 1))) + -(a 2 2 * ((0 + -(a 1 0 * (0 + a 0 j * 1))) + a 1 j * (0 + a 0 0 * 1)))) + a 2 j * ((0 + -(a 1 0 * (0 + a 0 2 * 1))) + a 1 2 * (0 + a 0 0 * 1)))) + -(a i 2 * (((0 + a 2 0 * ((0 + -(a 1 1 * (0 + a 0 j * 1))) + a 1 j * (0 + a 0 1 * 1))) + -(a 2 1 * ((0 + -(a 1 0 * (0 + a 0 j * 1))) + a 1 j * (0 + a 0 0 * 1)))) + a 2 j * ((0 + -(a 1 0 * (0 + a 0 1 * 1))) + a 1 1 * (0 + a 0 0 * 1))))) + a i j * (((0 + a 2 0 * ((0 + -(a 1 1 * (0 + a 0 2 * 1))) + a 1 2 * (0 + a 0 1 * 1))) + -(a 2 1 * ((0 + -(a 1 0 * (0 + a 0 2 * 1))) + a 1 2 * (0 + a 0 0 * 1)))) + a 2 2 * ((0 + -(a 1 0 * (0 + a 0 1 * 1))) + a 1 1 * (0 + a 0 0 * 1)))) := rfl
theorem bord_4 (a : Nat → Nat → Int) (i j : Nat) : bordD 4 a i j = (((((0 + a i 0 * ((((0 + -(a 3 1 * (((0 + a 2 2 * ((0 + -(a 1 3 * (0 + a 0 j * 1))) + a 1 j * (0 + a 0 3 * 1))) + -(a 2 3 * ((0 + -(a 1 2 * (0 + a 0 j * 1))) + a 1 j * (0 + a 0 2 * 1)))) + a 2 j * ((0 + -(a 1 2 * (0 + a 0 3 * 1))) + a 1 3 * (0 + a 0 2 * 1))))) + a 3 2 * (((0 + a 2 1 * ((0 + -(a 1 3 * (0 + a 0 j * 1))) + a 1 j * (0 + a 0 3 * 1))) + -(a 2 3 * ((0 + -(a 1 1 * (0 + a 0 j * 1))) + a 1 j * (0 + a 0 1 * 1)))) + a 2 j * ((0 + -(a 1 1 * (0 + a 0 3 * 1))) + a 1 3 * (0 + a 0 1 * 1)))) + -(a 3 3 * (((0 + a 2 1 * ((0 + -(a 1 2 * (0 + a 0 j * 1))) + a 1 j * (0 + a 0 2 * 1))) + -(a 2 2 * ((0 + -(a 1 1 * (0 + a 0 j * 1))) + a 1 j * (0 + a 0 1 * 1)))) + a 2 j * ((0 + -(a 1 1 * (0 + a 0 2 * 1))) + a 1 2 * (0 + a 0 1 * 1))))) + a 3 j * (((0 + a 2 1 * ((0 + -(a 1 2 * (0 + a 0 3 * 1))) + a 1 3 * (0 + a 0 2 * 1))) + -(a 2 2 * ((0 + -(a 1 1 * (0 + a 0 3 * 1))) + a 1 3 * (0 + a 0 1 * 1)))) + a 2 3 * ((0 + -(a 1 1 * (0 + a 0 2 * 1))) + a 1 2 * (0 + a 0 1 * 1))))) + -(a i 1 * ((((0 + -(a 3 0 * (((0 + a 2 2 * ((0 + -(a 1 3 * (0 + a 0 j * 1))) + a 1 j * (0 + a 0 3 * 1))) + -(a 2 3 * ((0 + -(a 1 2 * (0 + a 0 j * 1))) + a 1 j * (0 + a 0 2 * 1)))) + a 2 j * ((0 + -(a 1 2 * (0 + a 0 3 * 1))) + a 1 3 * (0 + a 0 2 * 1))))) + a 3 2 * (((0 + a 2 0 * ((0 + -(a 1 3 * (0 + a 0 j * 1))) + a 1 j * (0 + a 0 3 * 1))) + -(a 2 3 * ((0 + -(a 1 0 * (0 + a 0 j * 1))) + a 1 j * (0 + a 0 0 * 1)))) + a 2 j * ((0 + -(a 1 0 * (0 + a 0 3 * 1))) + a 1 3 * (0 + a 0 0 * 1)))) + -(a 3 3 * (((0 + a 2 0 * ((0 + -(a 1 2 * (0 + a 0 j * 1))) + a 1 j * (0 + a 0 2 * 1))) + -(a 2 2 * ((0 + -(a 1 0 * (0 + a 0 j * 1))) + a 1 j * (0 + a 0 0 * 1)))) + a 2 j * ((0 + -(a 1 0 * (0 + a 0 2 * 1))) + a 1 2 * (0 + a 0 0 * 1))))) + a 3 j * (((0 + a 2 0 * ((0 + -(a 1 2 * (0 + a 0 3 * 1))) + a 1 3 * (0 + a 0 2 * 1))) + -(a 2 2 * ((0 + -(a 1 0 * (0 + a 0 3 * 1))) + a 1 3 * (0 + a 0 0 * 1)))) + a 2 3 * ((0 + -(a 1 0 * (0 + a 0 2 * 1))) + a 1 2 * (0 + a 0 0 * 1)))))) + a i 2 * ((((0 + -(a 3 0 * (((0 + a 2 1 * ((0 + -(a 1 3 * (0 + a 0 j * 1))) + a 1 j * (0 + a 0 3 * 1))) + -(a 2 3 * ((0 + -(a 1 1 * (0 + a 0 j * 1))) + a 1 j * (0 + a 0 1 * 1)))) + a 2 j * ((0 + -(a 1 1 * (0 + a 0 3 * 1))) + a 1 3 * (0 + a 0 1 * 1))))) + a 3 1 * (((0 + a 2 0 * ((0 + -(a 1 3 * (0 + a 0 j * 1))) + a 1 j * (0 + a 0 3 * 1))) + -(a 2 3 * ((0 + -(a 1 0 * (0 + a 0 j * 1))) + a 1 j * (0 + a 0 0 * 1)))) + a 2 j * ((0 + -(a 1 0 * (0 + a 0 3 * 1))) + a 1 3 * (0 + a 0 0 * 1)))) + -(a 3 3 * (((0 + a 2 0 * ((0 + -(a 1 1 * (0 + a 0 j * 1))) + a 1 j * (0 + a 0 1 * 1))) + -(a 2 1 * ((0 + -(a 1 0 * (0 + a 0 j * 1))) + a 1 j * (0 + a 0 0 * 1)))) + a 2 j * ((0 + -(a 1 0 * (0 + a 0 1 * 1))) + a 1 1 * (0 + a 0 0 * 1))))) + a 3 j * (((0 + a 2 0 * ((0 + -(a 1 1 * (0 + a 0 3 * 1))) + a 1 3 * (0 + a 0 1 * 1))) + -(a 2 1 * ((0 + -(a 1 0 * (0 + a 0 3 * 1))) + a 1 3 * (0 + a 0 0 * 1)))) + a 2 3 * ((0 + -(a 1 0 * (0 + a 0 1 * 1))) + a 1 1 * (0 + a 0 0 * 1))))) + -(a i 3 * ((((0 + -(a 3 0 * (((0 + a 2 1 * ((0 + -(a 1 2 * (0 + a 0 j * 1))) + a 1 j * (0 + a 0 2 * 1))) + -(a 2 2 * ((0 + -(a 1 1 * (0 + a 0 j * 1))) + a 1 j * (0 + a 0 1 * 1)))) + a 2 j * ((0 + -(a 1 1 * (0 + a 0 2 * 1))) + a 1 2 * (0 + a 0 1 * 1))))) + a 3 1 * (((0 + a 2 0 * ((0 + -(a 1 2 * (0 + a 0 j * 1))) + a 1 j * (0 + a 0 2 * 1))) + -(a 2 2 * ((0 + -(a 1 0 * (0 + a 0 j * 1))) + a 1 j * (0 + a 0 0 * 1)))) + a 2 j * ((0 + -(a 1 0 * (0 + a 0 2 * 1))) + a 1 2 * (0 + a 0 0 * 1)))) + -(a 3 2 * (((0 + a 2 0 * ((0 + -(a 1 1 * (0 + a 0 j * 1))) + a 1 j * (0 + a 0 1 * 1))) + -(a 2 1 * ((0 + -(a 1 0 * (0 + a 0 j * 1))) + a 1 j * (0 + a 0 0 * 1)))) + a 2 j * ((0 + -(a 1 0 * (0 + a 0 1 * 1))) + a 1 1 * (0 + a 0 0 * 1))))) + a 3 j * (((0 + a 2 0 * ((0 + -(a 1 1 * (0 + a 0 2 * 1))) + a 1 2 * (0 + a 0 1 * 1))) + -(a 2 1 * ((0 + -(a 1 0 * (0 + a 0 2 * 1))) + a 1 2 * (0 + a 0 0 * 1)))) + a 2 2 * ((0 + -(a 1 0 * (0 + a 0 1 * 1))) + a 1 1 * (0 + a 0 0 * 1)))))) + a i j * ((((0 + -(a 3 0 * (((0 + a 2 1 * ((0 + -(a 1 2 * (0 + a 0 3 * 1))) + a 1 3 * (0 + a 0 2 * 1))) + -(a 2 2 * ((0 + -(a 1 1 * (0 + a 0 3 * 1))) + a 1 3 * (0 + a 0 1 * 1)))) + a 2 3 * ((0 + -(a 1 1 * (0 + a 0 2 * 1))) + a 1 2 * (0 + a 0 1 * 1))))) + a 3 1 * (((0 + a 2 0 * ((0 + -(a 1 2 * (0 + a 0 3 * 1))) + a 1 3 * (0 + a 0 2 * 1))) + -(a 2 2 * ((0 + -(a 1 0 * (0 + a 0 3 * 1))) + a 1 3 * (0 + a 0 0 * 1)))) + a 2 3 * ((0 + -(a 1 0 * (0 + a 0 2 * 1))) + a 1 2 * (0 + a 0 0 * 1)))) + -(a 3 2 * (((0 + a 2 0 * ((0 + -(a 1 1 * (0 + a 0 3 * 1))) + a 1 3 * (0 + a 0 1 * 1))) + -(a 2 1 * ((0 + -(a 1 0 * (0 + a 0 3 * 1))) + a 1 3 * (0 + a 0 0 * 1)))) + a 2 3 * ((0 + -(a 1 0 * (0 + a 0 1 * 1))) + a 1 1 * (0 + a 0 0 * 1))))) + a 3 3 * (((0 + a 2 0 * ((0 + -(a 1 1 * (0 + a 0 2 * 1))) + a 1 2 * (0 + a 0 1 * 1))) + -(a 2 1 * ((0 + -(a 1 0 * (0 + a 0 2 * 1))) + a 1 2 * (0 + a 0 0 * 1)))) + a 2 2 * ((0 + -(a 1 0 * (0 + a 0 1 * 1))) + a 1 1 * (0 + a 0 0 * 1))))) := rfl
/-- The pivot before. -/
def prevD (a : Nat → Nat → Int) : Nat → Int
  | 0 => 1
  | v + 1 => bordD v a v v
theorem bord_next (a : Nat → Nat → Int) (i j : Nat) : ∀ v, v ≤ 3 → bordD (v + 1) a i j * prevD a v = bordD v a v v * bordD v a i j - bordD v a i v * bordD v a v j := by
  intro v hv
  match v, hv with
  | 0, _ =>
    show bordD 1 a i j * 1 = bordD 0 a 0 0 * bordD 0 a i j - bordD 0 a i 0 * bordD 0 a 0 j
    rw [bord_1, bord_0, bord_0, bord_0, bord_0]
    grind
  | 1, _ =>
    show bordD 2 a i j * bordD 0 a 0 0 = bordD 1 a 1 1 * bordD 1 a i j - bordD 1 a i 1 * bordD 1 a 1 j
    rw [bord_2, bord_0, bord_1, bord_1, bord_1, bord_1]
    exact bord1 (a 0 0) (a 0 1) (a 0 j) (a 1 0) (a 1 1) (a 1 j) (a i 0) (a i 1) (a i j)
  | 2, _ =>
    show bordD 3 a i j * bordD 1 a 1 1 = bordD 2 a 2 2 * bordD 2 a i j - bordD 2 a i 2 * bordD 2 a 2 j
    rw [bord_3, bord_1, bord_2, bord_2, bord_2, bord_2]
    exact bord2 (a 0 0) (a 0 1) (a 0 2) (a 0 j) (a 1 0) (a 1 1) (a 1 2) (a 1 j) (a 2 0) (a 2 1) (a 2 2) (a 2 j) (a i 0) (a i 1) (a i 2) (a i j)
  | 3, _ =>
    show bordD 4 a i j * bordD 2 a 2 2 = bordD 3 a 3 3 * bordD 3 a i j - bordD 3 a i 3 * bordD 3 a 3 j
    rw [bord_4, bord_2, bord_3, bord_3, bord_3, bord_3]
    exact bord3 (a 0 0) (a 0 1) (a 0 2) (a 0 3) (a 0 j) (a 1 0) (a 1 1) (a 1 2) (a 1 3) (a 1 j) (a 2 0) (a 2 1) (a 2 2) (a 2 3) (a 2 j) (a 3 0) (a 3 1) (a 3 2) (a 3 3) (a 3 j) (a i 0) (a i 1) (a i 2) (a i 3) (a i j)
/-- A row of zeros among the bordered ones: no determinant. -/
theorem dep_zero (a : Nat → Nat → Int) {v n : Nat} (hv : v < n) (hn : n ≤ 5) (hp : prevD a v ≠ 0) (h : ∀ j, v ≤ j → j < n → bordD v a v j = 0) : detF n a = 0 := by
  have key : prevD a v * detF n a = 0 := by
    obtain ⟨m, rfl⟩ : ∃ m, n = m + 1 := ⟨n - 1, by omega⟩
    rw [← bordD_det]
    by_cases e : v = m
    · subst e
      rw [h v (Nat.le_refl _) (by omega), Int.mul_zero]
    · match v, m, hv, hn, e, h with
      | 0, 1, _, _, _, h =>
        have h0 := h 0 (by omega) (by omega)
        have h1 := h 1 (by omega) (by omega)
        rw [bord_0] at h0 h1
        show 1 * bordD 1 a 1 1 = 0
        rw [bord_1, Int.one_mul]
        refine (dep02 (a 0 0) (a 0 1) (a 1 0) (a 1 1)).trans ?_
        rw [h0, h1]
        simp only [Int.zero_mul, Int.add_zero]
      | 0, 2, _, _, _, h =>
        have h0 := h 0 (by omega) (by omega)
        have h1 := h 1 (by omega) (by omega)
        have h2 := h 2 (by omega) (by omega)
        rw [bord_0] at h0 h1 h2
        show 1 * bordD 2 a 2 2 = 0
        rw [bord_2, Int.one_mul]
        refine (dep03 (a 0 0) (a 0 1) (a 0 2) (a 1 0) (a 1 1) (a 1 2) (a 2 0) (a 2 1) (a 2 2)).trans ?_
        rw [h0, h1, h2]
        simp only [Int.zero_mul, Int.add_zero]
      | 1, 2, _, _, _, h =>
        have h1 := h 1 (by omega) (by omega)
        have h2 := h 2 (by omega) (by omega)
        rw [bord_1] at h1 h2
        show bordD 0 a 0 0 * bordD 2 a 2 2 = 0
        rw [bord_0, bord_2]
        refine (dep13 (a 0 0) (a 0 1) (a 0 2) (a 1 0) (a 1 1) (a 1 2) (a 2 0) (a 2 1) (a 2 2)).trans ?_
        rw [h1, h2]
        simp only [Int.zero_mul, Int.add_zero]
      | 0, 3, _, _, _, h =>
        have h0 := h 0 (by omega) (by omega)
        have h1 := h 1 (by omega) (by omega)
        have h2 := h 2 (by omega) (by omega)
        have h3 := h 3 (by omega) (by omega)
        rw [bord_0] at h0 h1 h2 h3
        show 1 * bordD 3 a 3 3 = 0
        rw [bord_3, Int.one_mul]
        refine (dep04 (a 0 0) (a 0 1) (a 0 2) (a 0 3) (a 1 0) (a 1 1) (a 1 2) (a 1 3) (a 2 0) (a 2 1) (a 2 2) (a 2 3) (a 3 0) (a 3 1) (a 3 2) (a 3 3)).trans ?_
        rw [h0, h1, h2, h3]
        simp only [Int.zero_mul, Int.add_zero]
      | 1, 3, _, _, _, h =>
        have h1 := h 1 (by omega) (by omega)
        have h2 := h 2 (by omega) (by omega)
        have h3 := h 3 (by omega) (by omega)
        rw [bord_1] at h1 h2 h3
        show bordD 0 a 0 0 * bordD 3 a 3 3 = 0
        rw [bord_0, bord_3]
        refine (dep14 (a 0 0) (a 0 1) (a 0 2) (a 0 3) (a 1 0) (a 1 1) (a 1 2) (a 1 3) (a 2 0) (a 2 1) (a 2 2) (a 2 3) (a 3 0) (a 3 1) (a 3 2) (a 3 3)).trans ?_
        rw [h1, h2, h3]
        simp only [Int.zero_mul, Int.add_zero]
      | 2, 3, _, _, _, h =>
        have h2 := h 2 (by omega) (by omega)
        have h3 := h 3 (by omega) (by omega)
        rw [bord_2] at h2 h3
        show bordD 1 a 1 1 * bordD 3 a 3 3 = 0
        rw [bord_1, bord_3]
        refine (dep24 (a 0 0) (a 0 1) (a 0 2) (a 0 3) (a 1 0) (a 1 1) (a 1 2) (a 1 3) (a 2 0) (a 2 1) (a 2 2) (a 2 3) (a 3 0) (a 3 1) (a 3 2) (a 3 3)).trans ?_
        rw [h2, h3]
        simp only [Int.zero_mul, Int.add_zero]
      | 0, 4, _, _, _, h =>
        have h0 := h 0 (by omega) (by omega)
        have h1 := h 1 (by omega) (by omega)
        have h2 := h 2 (by omega) (by omega)
        have h3 := h 3 (by omega) (by omega)
        have h4 := h 4 (by omega) (by omega)
        rw [bord_0] at h0 h1 h2 h3 h4
        show 1 * bordD 4 a 4 4 = 0
        rw [bord_4, Int.one_mul]
        refine (dep05 (a 0 0) (a 0 1) (a 0 2) (a 0 3) (a 0 4) (a 1 0) (a 1 1) (a 1 2) (a 1 3) (a 1 4) (a 2 0) (a 2 1) (a 2 2) (a 2 3) (a 2 4) (a 3 0) (a 3 1) (a 3 2) (a 3 3) (a 3 4) (a 4 0) (a 4 1) (a 4 2) (a 4 3) (a 4 4)).trans ?_
        rw [h0, h1, h2, h3, h4]
        simp only [Int.zero_mul, Int.add_zero]
      | 1, 4, _, _, _, h =>
        have h1 := h 1 (by omega) (by omega)
        have h2 := h 2 (by omega) (by omega)
        have h3 := h 3 (by omega) (by omega)
        have h4 := h 4 (by omega) (by omega)
        rw [bord_1] at h1 h2 h3 h4
        show bordD 0 a 0 0 * bordD 4 a 4 4 = 0
        rw [bord_0, bord_4]
        refine (dep15 (a 0 0) (a 0 1) (a 0 2) (a 0 3) (a 0 4) (a 1 0) (a 1 1) (a 1 2) (a 1 3) (a 1 4) (a 2 0) (a 2 1) (a 2 2) (a 2 3) (a 2 4) (a 3 0) (a 3 1) (a 3 2) (a 3 3) (a 3 4) (a 4 0) (a 4 1) (a 4 2) (a 4 3) (a 4 4)).trans ?_
        rw [h1, h2, h3, h4]
        simp only [Int.zero_mul, Int.add_zero]
      | 2, 4, _, _, _, h =>
        have h2 := h 2 (by omega) (by omega)
        have h3 := h 3 (by omega) (by omega)
        have h4 := h 4 (by omega) (by omega)
        rw [bord_2] at h2 h3 h4
        show bordD 1 a 1 1 * bordD 4 a 4 4 = 0
        rw [bord_1, bord_4]
        refine (dep25 (a 0 0) (a 0 1) (a 0 2) (a 0 3) (a 0 4) (a 1 0) (a 1 1) (a 1 2) (a 1 3) (a 1 4) (a 2 0) (a 2 1) (a 2 2) (a 2 3) (a 2 4) (a 3 0) (a 3 1) (a 3 2) (a 3 3) (a 3 4) (a 4 0) (a 4 1) (a 4 2) (a 4 3) (a 4 4)).trans ?_
        rw [h2, h3, h4]
        simp only [Int.zero_mul, Int.add_zero]
      | 3, 4, _, _, _, h =>
        have h3 := h 3 (by omega) (by omega)
        have h4 := h 4 (by omega) (by omega)
        rw [bord_3] at h3 h4
        show bordD 2 a 2 2 * bordD 4 a 4 4 = 0
        rw [bord_2, bord_4]
        refine (dep35 (a 0 0) (a 0 1) (a 0 2) (a 0 3) (a 0 4) (a 1 0) (a 1 1) (a 1 2) (a 1 3) (a 1 4) (a 2 0) (a 2 1) (a 2 2) (a 2 3) (a 2 4) (a 3 0) (a 3 1) (a 3 2) (a 3 3) (a 3 4) (a 4 0) (a 4 1) (a 4 2) (a 4 3) (a 4 4)).trans ?_
        rw [h3, h4]
        simp only [Int.zero_mul, Int.add_zero]
      | v + 4, m, hv, hn, e, _ => omega
  rcases Int.mul_eq_zero.1 key with h0 | h0
  · exact absurd h0 hp
  · exact h0
/-- From v on: nothing positive beside the diagonal, and no row sums up to less than nothing. -/
structure Lapl (n v : Nat) (b : Nat → Nat → Int) : Prop where
  off : ∀ i j, v ≤ i → i < n → v ≤ j → j < n → i ≠ j → b i j ≤ 0
  row : ∀ i, v ≤ i → i < n → 0 ≤ sumZ (fun t => b i (v + t)) (n - v)
theorem Lapl.split {n v : Nat} {b : Nat → Nat → Int} (hv : v < n) (i : Nat) : sumZ (fun t => b i (v + t)) (n - v) = b i v + sumZ (fun t => b i (v + 1 + t)) (n - (v + 1)) := by
  have e : n - v = (n - (v + 1)) + 1 := by omega
  rw [e, sumZ_front]
  congr 1
  exact sumZ_congr _ fun j _ => by rw [show v + (j + 1) = v + 1 + j by omega]
theorem Lapl.pivot {n v : Nat} {b : Nat → Nat → Int} (h : Lapl n v b) (hv : v < n) : 0 ≤ b v v ∧ (b v v = 0 → ∀ j, v ≤ j → j < n → b v j = 0) := by
  have hr := h.row v (Nat.le_refl _) hv
  rw [Lapl.split hv] at hr
  have hs := sumZ_low (g := fun t => b v (v + 1 + t)) (n - (v + 1)) fun t ht => h.off v (v + 1 + t) (Nat.le_refl _) hv (by omega) (by omega) (by omega)
  refine ⟨by omega, fun h0 j hj hjn => ?_⟩
  by_cases e : j = v
  · rw [e]; exact h0
  · have := hs.2 (by omega) (j - (v + 1)) (by omega)
    rwa [show v + 1 + (j - (v + 1)) = j by omega] at this
theorem le_of_mul {x q : Int} (hq : 0 < q) (h : x * q ≤ 0) : x ≤ 0 := by
  by_cases c : 0 < x
  · have := Int.mul_pos c hq
    omega
  · omega
theorem ge_of_mul {x q : Int} (hq : 0 < q) (h : 0 ≤ x * q) : 0 ≤ x := by
  by_cases c : x < 0
  · have : 0 < -x * q := Int.mul_pos (by omega) hq
    rw [Int.neg_mul] at this
    omega
  · omega
theorem Lapl.next {n v : Nat} {b c : Nat → Nat → Int} {q : Int} (h : Lapl n v b) (hv : v < n) (hp : 0 < b v v) (hq : 0 < q) (hc : ∀ i j, c i j * q = b v v * b i j - b i v * b v j) : Lapl n (v + 1) c := by
  refine ⟨fun i j hi hin hj hjn hij => le_of_mul hq ?_, fun i hi hin => ge_of_mul hq ?_⟩
  · rw [hc]
    have h1 := h.off i j (by omega) hin (by omega) hjn hij
    have h2 := h.off i v (by omega) hin (Nat.le_refl _) hv (by omega)
    have h3 := h.off v j (Nat.le_refl _) hv (by omega) hjn (by omega)
    have k1 : 0 ≤ b v v * -b i j := Int.mul_nonneg (by omega) (by omega)
    have k2 : 0 ≤ -b i v * -b v j := Int.mul_nonneg (by omega) (by omega)
    rw [Int.mul_neg] at k1
    rw [Int.neg_mul_neg] at k2
    omega
  · rw [← sumZ_mul]
    rw [sumZ_congr (h := fun t => b v v * b i (v + 1 + t) - b i v * b v (v + 1 + t)) _ fun j _ => hc i (v + 1 + j), sumZ_lin]
    have r1 := h.row i (by omega) hin
    have r2 := h.row v (Nat.le_refl _) hv
    rw [Lapl.split hv] at r1 r2
    have h2 := h.off i v (by omega) hin (Nat.le_refl _) hv (by omega)
    generalize sumZ (fun t => b i (v + 1 + t)) (n - (v + 1)) = X at *
    generalize sumZ (fun t => b v (v + 1 + t)) (n - (v + 1)) = Y at *
    have k1 : 0 ≤ b v v * (b i v + X) := Int.mul_nonneg (by omega) (by omega)
    have k2 : 0 ≤ -b i v * (b v v + Y) := Int.mul_nonneg (by omega) (by omega)
    grind
/-- As long as no pivot was zero, all were positive. -/
theorem lapl_run {a : Nat → Nat → Int} {n : Nat} (h : Lapl n 0 a) (hn : n ≤ 5) : ∀ v, v < n → (∀ u, u < v → bordD u a u u ≠ 0) → Lapl n v (bordD v a) ∧ 0 < prevD a v := by
  intro v
  induction v with
  | zero =>
    intro _ _
    refine ⟨?_, (by decide : (0 : Int) < 1)⟩
    have e : bordD 0 a = a := by
      funext i j
      rw [bord_0]
      simp
    rw [e]
    exact h
  | succ v ih =>
    intro hv hu
    obtain ⟨h1, h2⟩ := ih (by omega) fun u hu' => hu u (by omega)
    have hp := (h1.pivot (by omega)).1
    have hne := hu v (by omega)
    refine ⟨h1.next (by omega) (by omega) h2 fun i j => bord_next a i j v (by omega), ?_⟩
    show 0 < bordD v a v v
    omega
/-- A pivot that is zero: the determinant is. -/
theorem lapl_zero {a : Nat → Nat → Int} {n : Nat} (h : Lapl n 0 a) (hn : n ≤ 5) {v : Nat} (hv : v < n) (hu : ∀ u, u < v → bordD u a u u ≠ 0) (h0 : bordD v a v v = 0) : detF n a = 0 := by
  obtain ⟨h1, h2⟩ := lapl_run h hn v hv hu
  exact dep_zero a hv hn (by omega) fun j hj hjn => (h1.pivot hv).2 h0 j hj hjn
/-- One number of the next step, by a division without remainder. -/
theorem lapl_div {a : Nat → Nat → Int} {n : Nat} (h : Lapl n 0 a) (hn : n ≤ 5) {v : Nat} (hv : v + 1 < n) (hu : ∀ u, u < v → bordD u a u u ≠ 0) (i j : Nat) : (bordD v a i j * bordD v a v v - bordD v a i v * bordD v a v j).tdiv (prevD a v) = bordD (v + 1) a i j := by
  have h2 := (lapl_run h hn v (by omega) hu).2
  rw [Int.mul_comm (bordD v a i j), ← bord_next a i j v (by omega)]
  exact Int.mul_tdiv_cancel _ (by omega)
end Go.Proofs.Ytedjhnedkghhoaa
