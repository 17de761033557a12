/- Forms on n coordinates (trees of numbers), their products with vectors and what vectors take out of them, their lengths; and the elimination that divides by the last pivot: all its divisions are exact, and its numbers are minors, no greater than the lengths of the rows allow (Hadamard's bound). Words on numbers. No condition. -/
import Derived.Test.YtcfgljfpkhefmaaWords
namespace Go.Proofs.Ytcfgljfpkhefmaa

/-- Forms on n coordinates: a tree of depth n. -/
def Form : Nat → Type
  | 0 => Int
  | n + 1 => Form n × Form n
/-- x times a form and y times another. -/
def lin (x : Int) : (n : Nat) → Form n → Int → Form n → Form n
  | 0, a, y, b => (x * (show Int from a) + y * (show Int from b) : Int)
  | n + 1, (a, b), y, (c, d) => (lin x n a y c, lin x n b y d)
def oneW : (n : Nat) → Form n
  | 0 => (1 : Int)
  | n + 1 => (oneW n, lin 0 n (oneW n) 0 (oneW n))
/-- The coefficient at a path. -/
def co : (n : Nat) → List Bool → Form n → Int
  | 0, _, a => a
  | _ + 1, [], _ => 0
  | n + 1, false :: s, (a, _) => co n s a
  | n + 1, true :: s, (_, b) => co n s b
def wed (v : Nat → Int) : (n : Nat) → Form n → Form n
  | 0, _ => (0 : Int)
  | n + 1, (a, b) => (wed v n a, lin (v n) n a (-1) (wed v n b))
def ctr (v : Nat → Int) : (n : Nat) → Form n → Form n
  | 0, _ => (0 : Int)
  | n + 1, (a, b) => (lin 1 n (ctr v n a) (v n) b, lin (-1) n (ctr v n b) 0 b)
def dotW : (n : Nat) → Form n → Form n → Int
  | 0, a, b => (show Int from a) * (show Int from b)
  | n + 1, (a, b), (c, d) => dotW n a c + dotW n b d
def nrm (n : Nat) (a : Form n) : Int := dotW n a a
def dotV (u v : Nat → Int) : Nat → Int
  | 0 => 0
  | n + 1 => dotV u v n + u n * v n
theorem sq_pos (x : Int) : 0 ≤ x * x := by
  rcases Int.le_total 0 x with h | h
  · exact Int.mul_nonneg h h
  · exact Int.mul_nonneg_of_nonpos_of_nonpos h h
theorem co_lin (x y : Int) : ∀ (n : Nat) (s : List Bool) (a b : Form n), co n s (lin x n a y b) = x * co n s a + y * co n s b := by
  intro n
  induction n with
  | zero => intro s a b; rfl
  | succ n ih =>
    intro s a b
    obtain ⟨a1, a2⟩ := a; obtain ⟨b1, b2⟩ := b
    match s with
    | [] => simp [co]
    | false :: s => exact ih s a1 b1
    | true :: s => exact ih s a2 b2
theorem co_ext : ∀ (n : Nat) (a b : Form n), (∀ s, co n s a = co n s b) → a = b := by
  intro n
  induction n with
  | zero => intro a b h; exact h []
  | succ n ih =>
    intro a b h
    obtain ⟨a1, a2⟩ := a; obtain ⟨b1, b2⟩ := b
    have h1 := ih a1 b1 fun s => h (false :: s)
    have h2 := ih a2 b2 fun s => h (true :: s)
    rw [h1, h2]
theorem lin_cancel {x : Int} (hx : x ≠ 0) {n : Nat} {a b : Form n} (h : lin x n a 0 a = lin x n b 0 b) : a = b := by
  apply co_ext
  intro s
  have := congrArg (co n s) h
  rw [co_lin, co_lin] at this
  exact Int.eq_of_mul_eq_mul_left hx (by omega)
theorem wed_lin (v : Nat → Int) (x y : Int) : ∀ (n : Nat) (a b : Form n), wed v n (lin x n a y b) = lin x n (wed v n a) y (wed v n b) := by
  intro n
  induction n with
  | zero => intro a b; show (0 : Int) = x * 0 + y * 0; omega
  | succ n ih =>
    intro a b
    obtain ⟨a1, a2⟩ := a; obtain ⟨b1, b2⟩ := b
    show (wed v n (lin x n a1 y b1), lin (v n) n (lin x n a1 y b1) (-1) (wed v n (lin x n a2 y b2))) = (lin x n (wed v n a1) y (wed v n b1), lin x n (lin (v n) n a1 (-1) (wed v n a2)) y (lin (v n) n b1 (-1) (wed v n b2)))
    rw [ih, ih]
    congr 1
    apply co_ext; intro s; simp only [co_lin]; grind
theorem ctr_lin (v : Nat → Int) (x y : Int) : ∀ (n : Nat) (a b : Form n), ctr v n (lin x n a y b) = lin x n (ctr v n a) y (ctr v n b) := by
  intro n
  induction n with
  | zero => intro a b; show (0 : Int) = x * 0 + y * 0; omega
  | succ n ih =>
    intro a b
    obtain ⟨a1, a2⟩ := a; obtain ⟨b1, b2⟩ := b
    show (lin 1 n (ctr v n (lin x n a1 y b1)) (v n) (lin x n a2 y b2), lin (-1) n (ctr v n (lin x n a2 y b2)) 0 (lin x n a2 y b2)) = (lin x n (lin 1 n (ctr v n a1) (v n) a2) y (lin 1 n (ctr v n b1) (v n) b2), lin x n (lin (-1) n (ctr v n a2) 0 a2) y (lin (-1) n (ctr v n b2) 0 b2))
    rw [ih, ih]
    congr 1
    · apply co_ext; intro s; simp only [co_lin]; grind
    · apply co_ext; intro s; simp only [co_lin]; grind
theorem wed_vec (u v : Nat → Int) (x y : Int) : ∀ (n : Nat) (a : Form n), wed (fun j => x * u j + y * v j) n a = lin x n (wed u n a) y (wed v n a) := by
  intro n
  induction n with
  | zero => intro a; show (0 : Int) = x * 0 + y * 0; omega
  | succ n ih =>
    intro a
    obtain ⟨a1, a2⟩ := a
    show (wed _ n a1, lin _ n a1 (-1) (wed _ n a2)) = (lin x n (wed u n a1) y (wed v n a1), lin x n (lin (u n) n a1 (-1) (wed u n a2)) y (lin (v n) n a1 (-1) (wed v n a2)))
    rw [ih, ih]
    congr 1
    apply co_ext; intro s; simp only [co_lin]; grind
theorem wed_congr {u v : Nat → Int} : ∀ (n : Nat) (a : Form n), (∀ j, j < n → u j = v j) → wed u n a = wed v n a := by
  intro n
  induction n with
  | zero => intro a _; rfl
  | succ n ih =>
    intro a h
    obtain ⟨a1, a2⟩ := a
    show (wed u n a1, lin (u n) n a1 (-1) (wed u n a2)) = (wed v n a1, lin (v n) n a1 (-1) (wed v n a2))
    rw [ih a1 fun j hj => h j (by omega), ih a2 fun j hj => h j (by omega), h n (by omega)]
/-- What is taken out of a product. -/
theorem ctr_wed (u v : Nat → Int) : ∀ (n : Nat) (a : Form n), ctr v n (wed u n a) = lin (dotV u v n) n a (-1) (wed u n (ctr v n a)) := by
  intro n
  induction n with
  | zero => intro a; show (0 : Int) = 0 * (show Int from a) + -1 * 0; omega
  | succ n ih =>
    intro a
    obtain ⟨a1, a2⟩ := a
    show (lin 1 n (ctr v n (wed u n a1)) (v n) (lin (u n) n a1 (-1) (wed u n a2)), lin (-1) n (ctr v n (lin (u n) n a1 (-1) (wed u n a2))) 0 (lin (u n) n a1 (-1) (wed u n a2)))
      = (lin (dotV u v n + u n * v n) n a1 (-1) (wed u n (lin 1 n (ctr v n a1) (v n) a2)), lin (dotV u v n + u n * v n) n a2 (-1) (lin (u n) n (lin 1 n (ctr v n a1) (v n) a2) (-1) (wed u n (lin (-1) n (ctr v n a2) 0 a2))))
    rw [ctr_lin, ih, ih, wed_lin, wed_lin]
    congr 1
    · apply co_ext; intro s; simp only [co_lin]; grind
    · apply co_ext; intro s; simp only [co_lin]; grind
theorem wed_wed (u v : Nat → Int) : ∀ (n : Nat) (a : Form n), wed u n (wed v n a) = lin (-1) n (wed v n (wed u n a)) 0 a := by
  intro n
  induction n with
  | zero => intro a; show (0 : Int) = -1 * 0 + 0 * (show Int from a); omega
  | succ n ih =>
    intro a
    obtain ⟨a1, a2⟩ := a
    show (wed u n (wed v n a1), lin (u n) n (wed v n a1) (-1) (wed u n (lin (v n) n a1 (-1) (wed v n a2)))) = (lin (-1) n (wed v n (wed u n a1)) 0 a1, lin (-1) n (lin (v n) n (wed u n a1) (-1) (wed v n (lin (u n) n a1 (-1) (wed u n a2)))) 0 a2)
    rw [wed_lin, wed_lin, ih a1, ih a2]
    congr 1
    apply co_ext; intro s; simp only [co_lin]; grind
theorem dotW_lin (x y : Int) : ∀ (n : Nat) (a b c : Form n), dotW n (lin x n a y b) c = x * dotW n a c + y * dotW n b c := by
  intro n
  induction n with
  | zero => intro a b c; exact Int.add_mul .. |>.trans (by rw [Int.mul_assoc, Int.mul_assoc]; rfl)
  | succ n ih =>
    intro a b c
    obtain ⟨a1, a2⟩ := a; obtain ⟨b1, b2⟩ := b; obtain ⟨c1, c2⟩ := c
    show dotW n (lin x n a1 y b1) c1 + dotW n (lin x n a2 y b2) c2 = x * (dotW n a1 c1 + dotW n a2 c2) + y * (dotW n b1 c1 + dotW n b2 c2)
    rw [ih, ih]; grind
theorem dotW_comm : ∀ (n : Nat) (a b : Form n), dotW n a b = dotW n b a := by
  intro n
  induction n with
  | zero => intro a b; exact Int.mul_comm ..
  | succ n ih =>
    intro a b
    obtain ⟨a1, a2⟩ := a; obtain ⟨b1, b2⟩ := b
    show dotW n a1 b1 + dotW n a2 b2 = dotW n b1 a1 + dotW n b2 a2
    rw [ih, ih a2]
theorem nrm_pos : ∀ (n : Nat) (a : Form n), 0 ≤ nrm n a := by
  intro n
  induction n with
  | zero => intro a; show (0 : Int) ≤ (show Int from a) * (show Int from a); exact sq_pos _
  | succ n ih => intro a; exact Int.add_nonneg (ih a.1) (ih a.2)
theorem nrm_lin (x y : Int) (n : Nat) (a b : Form n) : nrm n (lin x n a y b) = x * x * nrm n a + 2 * (x * y) * dotW n a b + y * y * nrm n b := by
  unfold nrm
  rw [dotW_lin, dotW_comm n a, dotW_comm n b, dotW_lin, dotW_lin, dotW_comm n b a]; grind
theorem adj (v : Nat → Int) : ∀ (n : Nat) (a b : Form n), dotW n (wed v n b) a = dotW n b (ctr v n a) := by
  intro n
  induction n with
  | zero => intro a b; show (0 : Int) * (show Int from a) = (show Int from b) * 0; omega
  | succ n ih =>
    intro a b
    obtain ⟨a1, a2⟩ := a; obtain ⟨b1, b2⟩ := b
    show dotW n (wed v n b1) a1 + dotW n (lin (v n) n b1 (-1) (wed v n b2)) a2 = dotW n b1 (lin 1 n (ctr v n a1) (v n) a2) + dotW n b2 (lin (-1) n (ctr v n a2) 0 a2)
    rw [dotW_lin, dotW_comm n b1 (lin _ _ _ _ _), dotW_comm n b2 (lin _ _ _ _ _), dotW_lin, dotW_lin, ih, ih, dotW_comm n b1 a2, dotW_comm n b2 (ctr v n a2), dotW_comm n b1 (ctr v n a1)]
    grind
/-- How long a product and what is taken out are, together. -/
theorem nrm_both (v : Nat → Int) : ∀ (n : Nat) (a : Form n), nrm n (wed v n a) + nrm n (ctr v n a) = dotV v v n * nrm n a := by
  intro n
  induction n with
  | zero => intro a; show (0 : Int) * 0 + 0 * 0 = 0 * _; omega
  | succ n ih =>
    intro a
    obtain ⟨a1, a2⟩ := a
    show (nrm n (wed v n a1) + nrm n (lin (v n) n a1 (-1) (wed v n a2))) + (nrm n (lin 1 n (ctr v n a1) (v n) a2) + nrm n (lin (-1) n (ctr v n a2) 0 a2)) = (dotV v v n + v n * v n) * (nrm n a1 + nrm n a2)
    rw [nrm_lin, nrm_lin, nrm_lin]
    have h1 := ih a1; have h2 := ih a2
    have h3 := adj v n a1 a2
    rw [dotW_comm n a1 (wed v n a2), h3, dotW_comm n a2]
    grind
theorem nrm_one : ∀ n, nrm n (oneW n) = 1 := by
  intro n
  induction n with
  | zero => rfl
  | succ n ih =>
    show nrm n (oneW n) + nrm n (lin 0 n (oneW n) 0 (oneW n)) = 1
    rw [nrm_lin, ih]; omega
theorem ctr_one (v : Nat → Int) : ∀ n, ctr v n (oneW n) = lin 0 n (oneW n) 0 (oneW n) := by
  intro n
  induction n with
  | zero => rfl
  | succ n ih =>
    show (lin 1 n (ctr v n (oneW n)) (v n) (lin 0 n (oneW n) 0 (oneW n)), lin (-1) n (ctr v n (lin 0 n (oneW n) 0 (oneW n))) 0 (lin 0 n (oneW n) 0 (oneW n))) = (lin 0 n (oneW n) 0 (oneW n), lin 0 n (lin 0 n (oneW n) 0 (oneW n)) 0 (lin 0 n (oneW n) 0 (oneW n)))
    rw [ctr_lin, ih]
    congr 1
    · apply co_ext; intro s; simp only [co_lin]; grind
    · apply co_ext; intro s; simp only [co_lin]; grind
theorem nrm_wed_le (v : Nat → Int) (n : Nat) (a : Form n) : nrm n (wed v n a) ≤ dotV v v n * nrm n a := by
  have := nrm_both v n a; have := nrm_pos n (ctr v n a); omega
theorem nrm_ctr_le (v : Nat → Int) (n : Nat) (a : Form n) : nrm n (ctr v n a) ≤ dotV v v n * nrm n a := by
  have := nrm_both v n a; have := nrm_pos n (wed v n a); omega
theorem nrm_vec (v : Nat → Int) (n : Nat) : nrm n (wed v n (oneW n)) = dotV v v n := by
  have h := nrm_both v n (oneW n)
  rw [ctr_one, nrm_lin, nrm_one] at h; omega
theorem dotV_sq (v : Nat → Int) : ∀ n j, j < n → v j * v j ≤ dotV v v n ∧ 0 ≤ dotV v v n := by
  intro n
  induction n with
  | zero => intro j hj; omega
  | succ n ih =>
    intro j hj
    have hs : 0 ≤ v n * v n := sq_pos _
    have hp : 0 ≤ dotV v v n := by
      cases n with
      | zero => exact Int.le_refl 0
      | succ n => exact (ih 0 (by omega)).2
    show v j * v j ≤ dotV v v n + v n * v n ∧ 0 ≤ dotV v v n + v n * v n
    by_cases h : j = n
    · subst h; omega
    · have := ih j (by omega); omega
def unitV (c : Nat) : Nat → Int := fun j => if j = c then 1 else 0
theorem dotV_unit (u : Nat → Int) (c : Nat) : ∀ n, dotV u (unitV c) n = if c < n then u c else 0 := by
  intro n
  induction n with
  | zero => rfl
  | succ n ih =>
    show dotV u (unitV c) n + u n * unitV c n = _
    rw [ih]; unfold unitV
    by_cases h : c = n
    · subst h; simp
    · have h' : ¬ n = c := fun e => h e.symm
      rw [if_neg h', Int.mul_zero, Int.add_zero]
      by_cases h2 : c < n
      · rw [if_pos h2, if_pos (by omega)]
      · rw [if_neg h2, if_neg (by omega)]
/-- A form that is a multiple of a number, divided. -/
theorem div_one {D y : Int} (hD : D ≠ 0) : ∀ (n : Nat) (a : Form n), lin D n a 0 a = lin y n (oneW n) 0 (oneW n) → ∃ t, a = lin t n (oneW n) 0 (oneW n) ∧ D * t = y := by
  intro n
  induction n with
  | zero =>
    intro a h
    have key : ∀ b : Int, D * b + 0 * b = y * 1 + 0 * 1 → b = b * 1 + 0 * 1 ∧ D * b = y := fun b h => by omega
    exact ⟨a, (key a h).1, (key a h).2⟩
  | succ n ih =>
    intro a h
    obtain ⟨a1, a2⟩ := a
    have h1 : lin D n a1 0 a1 = lin y n (oneW n) 0 (oneW n) := congrArg Prod.fst h
    have h2 : lin D n a2 0 a2 = lin y n (lin 0 n (oneW n) 0 (oneW n)) 0 (lin 0 n (oneW n) 0 (oneW n)) := congrArg Prod.snd h
    obtain ⟨t, rfl, ht⟩ := ih a1 h1
    refine ⟨t, ?_, ht⟩
    have : a2 = lin 0 n (oneW n) 0 (oneW n) := by
      apply lin_cancel hD
      rw [h2]
      apply co_ext; intro s; simp only [co_lin]; omega
    show (_, a2) = (_, lin t n (lin 0 n (oneW n) 0 (oneW n)) 0 (lin 0 n (oneW n) 0 (oneW n)))
    rw [this]
    congr 1
    apply co_ext; intro s; simp only [co_lin]; grind
/-- A form that is a multiple of a vector, divided. -/
theorem div_vec {D : Int} (hD : D ≠ 0) (y : Nat → Int) : ∀ (n : Nat) (a : Form n), lin D n a 0 a = wed y n (oneW n) → ∃ x : Nat → Int, a = wed x n (oneW n) ∧ ∀ j, j < n → D * x j = y j := by
  intro n
  induction n with
  | zero =>
    intro a h
    have h' : D * (show Int from a) + 0 * (show Int from a) = 0 := h
    have ha : (show Int from a) = 0 := by
      have : D * (show Int from a) = 0 := by omega
      exact (Int.mul_eq_zero.1 this).resolve_left hD
    exact ⟨fun _ => 0, ha, fun j hj => by omega⟩
  | succ n ih =>
    intro a h
    obtain ⟨a1, a2⟩ := a
    have h1 : lin D n a1 0 a1 = wed y n (oneW n) := congrArg Prod.fst h
    have h2 : lin D n a2 0 a2 = lin (y n) n (oneW n) (-1) (wed y n (lin 0 n (oneW n) 0 (oneW n))) := congrArg Prod.snd h
    obtain ⟨x, rfl, hx⟩ := ih a1 h1
    obtain ⟨t, rfl, ht⟩ := div_one (y := y n) hD n a2 (by
      rw [h2, wed_lin]
      apply co_ext; intro s; simp only [co_lin]; grind)
    refine ⟨fun j => if j = n then t else x j, ?_, fun j hj => ?_⟩
    · show (_, _) = (wed _ n (oneW n), lin _ n (oneW n) (-1) (wed _ n (lin 0 n (oneW n) 0 (oneW n))))
      rw [wed_congr (u := fun j => if j = n then t else x j) (v := x) n (oneW n) (fun j hj => if_neg (by omega)), wed_lin]
      congr 1
      apply co_ext; intro s; simp only [co_lin, if_pos]; grind
    · by_cases e : j = n
      · subst e; simp only [if_pos]; exact ht
      · simp only [if_neg e]; exact hx j (by omega)
/-- What stands while rows are reduced: n columns, m rows, k of them with a pivot; R the numbers, D the last pivot. -/
structure BarS (n m k : Nat) (R : Nat → Nat → Int) (D : Int) : Prop where
  nz : D ≠ 0
  le : k ≤ m
  ops : ∃ (T : Form n → Form n) (S : Nat → Form n → Form n) (a : Nat → Nat → Int),
    (∀ x p y q, T (lin x n p y q) = lin x n (T p) y (T q)) ∧
    (∀ i, i < m → ∀ x p y q, S i (lin x n p y q) = lin x n (S i p) y (S i q)) ∧
    T (oneW n) = lin D n (oneW n) 0 (oneW n) ∧
    (∀ i, i < m → S i (oneW n) = wed (R i) n (oneW n)) ∧
    (∀ i, i < m → ∀ p, lin D n (S i p) 0 p = wed (R i) n (T p)) ∧
    (∀ i, k ≤ i → i < m → ∀ p, S i p = T (wed (a i) n p)) ∧
    (∀ i, i < m → dotV (a i) (a i) n ≤ 64) ∧
    (∀ p, nrm n (T p) ≤ 64 ^ k * nrm n p) ∧
    (∀ i, i < m → ∀ p, nrm n (S i p) ≤ 64 ^ (if i < k then k else k + 1) * nrm n p)
theorem lin_zero (x y : Int) (n : Nat) (p q : Form n) (h : x = y) : lin x n p 0 q = lin y n p 0 p := by
  subst h; apply co_ext; intro s; simp only [co_lin]; omega
theorem BarS.start {n m : Nat} {A : Nat → Nat → Int} (hA : ∀ i, i < m → dotV (A i) (A i) n ≤ 64) : BarS n m 0 A 1 where
  nz := by decide
  le := Nat.zero_le _
  ops := by
    refine ⟨id, fun i p => wed (A i) n p, A, fun _ _ _ _ => rfl, fun i _ x p y q => wed_lin .., ?_, fun i _ => rfl, ?_, fun i _ _ p => rfl, hA, ?_, ?_⟩
    · apply co_ext; intro s; simp only [co_lin, id]; omega
    · intro i _ p; apply co_ext; intro s; simp only [co_lin, id]; omega
    · intro p; simp only [id, Int.pow_zero, Int.one_mul]; exact Int.le_refl _
    · intro i hi p
      simp only [Nat.not_lt_zero, if_false, Nat.zero_add, Int.pow_one] 
      exact Int.le_trans (nrm_wed_le ..) (Int.mul_le_mul_of_nonneg_right (hA i hi) (nrm_pos ..))
/-- Two rows without a pivot exchanged. -/
theorem BarS.swap {n m k : Nat} {R : Nat → Nat → Int} {D : Int} (h : BarS n m k R D) {f : Nat} (hk : k ≤ f) (hf : f < m) : BarS n m k (fun i => if i = k then R f else if i = f then R k else R i) D := by
  obtain ⟨T, S, a, h1, h2, h3, h4, h5, h6, h7, h8, h9⟩ := h.ops
  have key : ∀ i, ∃ i', (i < m → i' < m) ∧ (k ≤ i → i < m → k ≤ i') ∧ ((if i < k then k else k + 1) = (if i' < k then k else k + 1)) ∧ i' = (if i = k then f else if i = f then k else i) := by
    intro i
    refine ⟨_, ?_, ?_, ?_, rfl⟩ <;> split <;> (try split) <;> (try split) <;> (try split) <;> omega
  have e : (fun i => if i = k then R f else if i = f then R k else R i) = fun i => R (if i = k then f else if i = f then k else i) := by
    funext i; split
    · rfl
    · split <;> rfl
  rw [e]
  refine ⟨h.nz, h.le, T, fun i => S (if i = k then f else if i = f then k else i), fun i => a (if i = k then f else if i = f then k else i), h1, ?_, h3, ?_, ?_, ?_, ?_, h8, ?_⟩
  all_goals intro i
  · intro hi; obtain ⟨i', g1, g2, g3, rfl⟩ := key i; exact h2 _ (g1 hi)
  · intro hi; obtain ⟨i', g1, g2, g3, rfl⟩ := key i; exact h4 _ (g1 hi)
  · intro hi; obtain ⟨i', g1, g2, g3, rfl⟩ := key i; exact h5 _ (g1 hi)
  · intro hk hi; obtain ⟨i', g1, g2, g3, rfl⟩ := key i; exact h6 _ (g2 hk hi) (g1 hi)
  · intro hi; obtain ⟨i', g1, g2, g3, rfl⟩ := key i; exact h7 _ (g1 hi)
  · intro hi p; obtain ⟨i', g1, g2, g3, rfl⟩ := key i; rw [g3]; exact h9 _ (g1 hi) p
/-- How great the numbers are. -/
theorem BarS.small {n m k : Nat} {R : Nat → Nat → Int} {D : Int} (h : BarS n m k R D) {i j : Nat} (hi : i < m) (hj : j < n) : R i j * R i j ≤ 64 ^ (if i < k then k else k + 1) := by
  obtain ⟨T, S, a, h1, h2, h3, h4, h5, h6, h7, h8, h9⟩ := h.ops
  have := h9 i hi (oneW n)
  rw [h4 i hi, nrm_vec, nrm_one, Int.mul_one] at this
  exact Int.le_trans (dotV_sq (R i) n j hj).1 this
theorem BarS.dsmall {n m k : Nat} {R : Nat → Nat → Int} {D : Int} (h : BarS n m k R D) : D * D ≤ 64 ^ k := by
  obtain ⟨T, S, a, h1, h2, h3, h4, h5, h6, h7, h8, h9⟩ := h.ops
  have := h8 (oneW n)
  rw [h3, nrm_lin, nrm_one] at this
  omega
/-- A pivot in column c. -/
theorem BarS.step {n m k : Nat} {R : Nat → Nat → Int} {D : Int} (h : BarS n m k R D) {c : Nat} (hc : c < n) (hk : k < m) (hp : R k c ≠ 0) :
    ∃ R' : Nat → Nat → Int, (R' k = R k) ∧ (∀ i, i < m → i ≠ k → ∀ j, j < n → D * R' i j = R i j * R k c - R k j * R i c) ∧ BarS n m (k + 1) R' (R k c) := by
  obtain ⟨T, S, a, h1, h2, h3, h4, h5, h6, h7, h8, h9⟩ := h.ops
  have hD := h.nz
  -- the rows, divided
  have row : ∀ i, ∃ x : Nat → Int, i < m → i ≠ k → lin (-1) n (ctr (unitV c) n (S i (wed (a k) n (oneW n)))) 0 (oneW n) = wed x n (oneW n) ∧ ∀ j, j < n → D * x j = R k c * R i j + (- R i c) * R k j := by
    intro i
    by_cases hi : i < m ∧ i ≠ k
    · have e : lin D n (lin (-1) n (ctr (unitV c) n (S i (wed (a k) n (oneW n)))) 0 (oneW n)) 0 (lin (-1) n (ctr (unitV c) n (S i (wed (a k) n (oneW n)))) 0 (oneW n)) = wed (fun j => R k c * R i j + (- R i c) * R k j) n (oneW n) := by
        have f1 := h5 i hi.1 (wed (a k) n (oneW n))
        rw [← h6 k (Nat.le_refl _) hk, h4 k hk] at f1
        have f2 := congrArg (ctr (unitV c) n) f1
        have e1 : ctr (unitV c) n (wed (R k) n (oneW n)) = lin (R k c) n (oneW n) (-1) (wed (R k) n (lin 0 n (oneW n) 0 (oneW n))) := by
          rw [ctr_wed, ctr_one, dotV_unit, if_pos hc]
        have e2 : ctr (unitV c) n (wed (R i) n (wed (R k) n (oneW n))) = lin (R i c) n (wed (R k) n (oneW n)) (-1) (wed (R i) n (ctr (unitV c) n (wed (R k) n (oneW n)))) := by
          rw [ctr_wed, dotV_unit, if_pos hc]
        rw [ctr_lin, e2, e1] at f2
        rw [wed_vec]
        apply co_ext; intro s
        have f3 := congrArg (co n s) f2
        simp only [co_lin, wed_lin] at f3 ⊢
        clear f1 f2 e1 e2 h1 h2 h3 h4 h5 h6 h7 h8 h9
        grind
      obtain ⟨x, hx, hx2⟩ := div_vec hD _ n _ e
      exact ⟨x, fun _ _ => ⟨hx, hx2⟩⟩
    · exact ⟨fun _ => 0, fun g1 g2 => absurd ⟨g1, g2⟩ hi⟩
  obtain ⟨X, hX⟩ := Classical.axiomOfChoice row
  refine ⟨fun i => if i = k then R k else X i, if_pos rfl, ?_, hp, hk, ?_⟩
  · intro i hi hne j hj
    show D * (if i = k then R k else X i) j = _
    rw [if_neg hne]
    have := (hX i hi hne).2 j hj
    rw [this]; clear h1 h2 h3 h4 h5 h6 h7 h8 h9 hX row; grind
  have u : ∀ i, i < m → i ≠ k → ∀ p, wed (fun j => R k c * R i j + (- R i c) * R k j) n p = lin D n (wed (X i) n p) 0 p := by
    intro i hi hne p
    have : lin D n (wed (X i) n p) 0 p = wed (fun j => D * X i j + 0 * X i j) n p := by
      rw [wed_vec]; apply co_ext; intro s; simp only [co_lin]; omega
    rw [this]
    exact wed_congr n p fun j hj => by rw [(hX i hi hne).2 j hj]; omega
  refine ⟨fun p => ctr (unitV c) n (S k p), fun i p => if i = k then S k p else lin (-1) n (ctr (unitV c) n (S i (wed (a k) n p))) 0 p, a, ?_, ?_, ?_, ?_, ?_, ?_, h7, ?_, ?_⟩
  · intro x p y q; simp only [h2 k hk, ctr_lin]
  · intro i hi x p y q
    by_cases e : i = k
    · subst e; simp only [if_pos]; exact h2 i hi ..
    · simp only [if_neg e]
      rw [wed_lin, h2 i hi, ctr_lin]
      apply co_ext; intro s; simp only [co_lin]; grind
  · show ctr (unitV c) n (S k (oneW n)) = _
    rw [h4 k hk, ctr_wed, ctr_one, dotV_unit, if_pos hc, wed_lin]
    apply co_ext; intro s; simp only [co_lin]; grind
  · intro i hi
    by_cases e : i = k
    · subst e; simp only [if_pos]; exact h4 i hi
    · simp only [if_neg e]; exact (hX i hi e).1
  · intro i hi p
    by_cases e : i = k
    · subst e; simp only [if_pos]
      -- p' S = R ∧ T'
      apply lin_cancel hD
      have f1 := h5 i hi p
      have f2 := congrArg (ctr (unitV c) n) f1
      rw [ctr_lin, ctr_wed, dotV_unit, if_pos hc] at f2
      have f3 := congrArg (wed (R i) n) f2
      rw [wed_lin, wed_lin] at f3
      have f4 := wed_wed (R i) (R i) n (ctr (unitV c) n (T p))
      apply co_ext; intro s
      have g1 := congrArg (co n s) f1
      have g3 := congrArg (co n s) f3
      have g4 := congrArg (co n s) f4
      simp only [co_lin] at g1 g3 g4 ⊢
      grind
    · simp only [if_neg e]
      apply lin_cancel hD
      apply lin_cancel hD
      have f1 := h5 i hi (wed (a k) n p)
      rw [← h6 k (Nat.le_refl _) hk] at f1
      -- f1 : D S_i (a_k p) = R_i S_k p
      have f0 := h5 k hk p
      have f2 := congrArg (ctr (unitV c) n) f1
      rw [ctr_lin] at f2
      -- D² S' = - ι R_i (D S_k p) = - ι R_i R_k T p
      have f3 := congrArg (fun q => ctr (unitV c) n (wed (R i) n q)) f0
      simp only [wed_lin, ctr_lin] at f3
      -- left side
      have f4 := congrArg (fun q => wed (X i) n (ctr (unitV c) n q)) f0
      simp only [wed_lin, ctr_lin] at f4
      have f5 := u i hi e (ctr (unitV c) n (wed (R k) n (T p)))
      rw [wed_vec] at f5
      -- R k c * R_i ι R_k T - R i c R_k ι R_k T
      have f6 : ctr (unitV c) n (wed (R i) n (wed (R k) n (T p))) = lin (R i c) n (wed (R k) n (T p)) (-1) (wed (R i) n (ctr (unitV c) n (wed (R k) n (T p)))) := by
        rw [ctr_wed, dotV_unit, if_pos hc]
      have f7 : ctr (unitV c) n (wed (R k) n (T p)) = lin (R k c) n (T p) (-1) (wed (R k) n (ctr (unitV c) n (T p))) := by
        rw [ctr_wed, dotV_unit, if_pos hc]
      have f8 : wed (R k) n (ctr (unitV c) n (wed (R k) n (T p))) = lin (R k c) n (wed (R k) n (T p)) 0 p := by
        rw [f7, wed_lin]
        have f9 := wed_wed (R k) (R k) n (ctr (unitV c) n (T p))
        apply co_ext; intro s
        have g9 := congrArg (co n s) f9
        simp only [co_lin] at g9 ⊢
        grind
      apply co_ext; intro s
      have g2 := congrArg (co n s) f2
      have g3 := congrArg (co n s) f3
      have g4 := congrArg (co n s) f4
      have g5 := congrArg (co n s) f5
      have g6 := congrArg (co n s) f6
      have g8 := congrArg (co n s) f8
      simp only [co_lin] at g2 g3 g4 g5 g6 g8 ⊢
      generalize co n s (wed (X i) n (ctr (unitV c) n (wed (R k) n (T p)))) = z1 at *
      generalize co n s (wed (X i) n (ctr (unitV c) n (S k p))) = z2 at *
      generalize co n s (ctr (unitV c) n (S i (wed (a k) n p))) = z3 at *
      generalize co n s (ctr (unitV c) n (wed (R i) n (S k p))) = z4 at *
      generalize co n s (ctr (unitV c) n (wed (R i) n (wed (R k) n (T p)))) = z5 at *
      generalize co n s (wed (R i) n (ctr (unitV c) n (wed (R k) n (T p)))) = z6 at *
      generalize co n s (wed (R k) n (ctr (unitV c) n (wed (R k) n (T p)))) = z7 at *
      generalize co n s (wed (R k) n (T p)) = z8 at *
      grind
  · intro i hik hi p
    have e : i ≠ k := by omega
    simp only [if_neg e]
    rw [h6 i (by omega) hi, h6 k (Nat.le_refl _) hk, wed_wed (a k) (a i)]
    rw [h1, ctr_lin]
    apply co_ext; intro s; simp only [co_lin]; grind
  · intro p
    show nrm n (ctr (unitV c) n (S k p)) ≤ _
    have b1 := nrm_ctr_le (unitV c) n (S k p)
    rw [dotV_unit, if_pos hc] at b1
    have b2 := h9 k hk p
    rw [if_neg (by omega)] at b2
    have : unitV c c = 1 := if_pos rfl
    rw [this] at b1
    omega
  · intro i hi p
    by_cases e : i = k
    · subst e; simp only [if_pos]
      have b2 := h9 i hi p
      rw [if_neg (by omega)] at b2
      rw [if_pos (by omega)]; exact b2
    · simp only [if_neg e]
      have b0 : nrm n (lin (-1) n (ctr (unitV c) n (S i (wed (a k) n p))) 0 p) = nrm n (ctr (unitV c) n (S i (wed (a k) n p))) := by
        rw [nrm_lin]; omega
      rw [b0]
      have b1 := nrm_ctr_le (unitV c) n (S i (wed (a k) n p))
      rw [dotV_unit, if_pos hc] at b1
      have : unitV c c = 1 := if_pos rfl
      rw [this, Int.one_mul] at b1
      have b2 := h9 i hi (wed (a k) n p)
      have b3 : nrm n (wed (a k) n p) ≤ 64 * nrm n p := Int.le_trans (nrm_wed_le ..) (Int.mul_le_mul_of_nonneg_right (h7 k hk) (nrm_pos ..))
      have b4 : (64 : Int) ^ (if i < k + 1 then k + 1 else k + 1 + 1) = 64 ^ (if i < k then k else k + 1) * 64 := by
        have : (if i < k + 1 then k + 1 else k + 1 + 1) = (if i < k then k else k + 1) + 1 := by
          split <;> split <;> omega
        rw [this, Int.pow_succ]
      rw [b4, Int.mul_assoc]
      have b5 : (0 : Int) ≤ 64 ^ (if i < k then k else k + 1) := Int.pow_nonneg (by decide)
      exact Int.le_trans b1 (Int.le_trans b2 (Int.mul_le_mul_of_nonneg_left b3 b5))
end Go.Proofs.Ytcfgljfpkhefmaa
