/- Words on lists of bars, of no program: counting, putting a bar in its place, and what is reached after some rounds. No condition. -/
import Derived.Test.YtehendofgcebcaaDoorIsGraph
namespace Go.Proofs.YtehendofgcebcaaDoor

theorem take_getD {α : Type} (l : List α) (z : α) (k : Nat) (h : k < l.length) : l.take (k + 1) = l.take k ++ [l.getD k z] := by
  rw [List.take_succ_eq_append_getElem h]
  congr 2
  simp [List.getD, List.getElem?_eq_getElem h]
theorem countP_take (p : Int × Int → Bool) (l : List (Int × Int)) (k : Nat) (h : k < l.length) : (l.take (k + 1)).countP p = (l.take k).countP p + if p (l.getD k (0, 0)) then 1 else 0 := by
  rw [take_getD l (0, 0) k h, List.countP_append, List.countP_cons, List.countP_nil, Nat.zero_add]

/-- A bar between a and b. -/
def hitB (a b : Int) (x : Int × Int) : Bool := decide ((x.1 = a ∧ x.2 = b) ∨ (x.1 = b ∧ x.2 = a))
/-- A bar with the end v. -/
def endB (v : Int) (x : Int × Int) : Bool := decide (x.1 = v ∨ x.2 = v)

/-! What is reached. -/
def relaxF (S : Nat → Bool) (x : Int × Int) : Nat → Bool := fun v => S v || ((decide (v = x.1.toNat) || decide (v = x.2.toNat)) && (S x.1.toNat || S x.2.toNat))
def iterF (l : List (Int × Int)) : Nat → (Nat → Bool) → Nat → Bool
  | 0, S => S
  | k + 1, S => l.foldl relaxF (iterF l k S)
def rowB (n : Nat) (S : Nat → Bool) : List Bool := (List.range n).map S
theorem rowB_len (n : Nat) (S : Nat → Bool) : (rowB n S).length = n := by simp [rowB]
theorem rowB_get (n : Nat) (S : Nat → Bool) (v : Nat) (h : v < n) : (rowB n S)[v]? = some (S v) := by simp [rowB, h]
theorem rowB_set (n : Nat) (S : Nat → Bool) (x : Int × Int) :
    ((rowB n S).set x.1.toNat (S x.1.toNat || S x.2.toNat)).set x.2.toNat (S x.1.toNat || S x.2.toNat) = rowB n (relaxF S x) := by
  apply List.ext_getElem?
  intro i
  by_cases hi : i < n
  · rw [rowB_get n _ i hi, List.getElem?_set, List.getElem?_set, rowB_get n S i hi]
    simp only [List.length_set, rowB_len]
    by_cases h2 : x.2.toNat = i
    · subst h2
      simp [hi, relaxF]
      exact fun h => .inr h
    · by_cases h1 : x.1.toNat = i
      · subst h1
        simp [hi, relaxF, h2]
      · have h1' : ¬ i = x.1.toNat := fun h => h1 h.symm
        have h2' : ¬ i = x.2.toNat := fun h => h2 h.symm
        simp [h1, h2, h1', h2', relaxF]
  · rw [List.getElem?_eq_none (by simp [rowB_len]; omega), List.getElem?_eq_none (by simp [rowB_len]; omega)]
theorem relaxF_no (S : Nat → Bool) (x : Int × Int) (h : (S x.1.toNat || S x.2.toNat) = false) : relaxF S x = S := by
  funext v
  simp [relaxF, h]
theorem relaxF_ge (S : Nat → Bool) (x : Int × Int) (v : Nat) (h : S v = true) : relaxF S x v = true := by simp [relaxF, h]
theorem foldF_ge : ∀ (l : List (Int × Int)) (S : Nat → Bool) (v : Nat), S v = true → l.foldl relaxF S v = true := by
  intro l
  induction l with
  | nil => intro S v h; exact h
  | cons x l ih => intro S v h; exact ih _ v (relaxF_ge S x v h)
/-- The bars' ends lie below p. -/
def InP (p : Nat) (l : List (Int × Int)) : Prop := ∀ x ∈ l, x.1.toNat < p ∧ x.2.toNat < p
theorem foldF_agree (p : Nat) : ∀ (l : List (Int × Int)) (S T : Nat → Bool), InP p l → (∀ v, v < p → S v = T v) → ∀ v, v < p → l.foldl relaxF S v = l.foldl relaxF T v := by
  intro l
  induction l with
  | nil => intro S T _ h; exact h
  | cons x l ih =>
    intro S T hl h
    refine ih _ _ (fun y hy => hl y (List.mem_cons_of_mem _ hy)) fun v hv => ?_
    obtain ⟨h1, h2⟩ := hl x (List.mem_cons_self ..)
    simp [relaxF, h v hv, h _ h1, h _ h2]
/-- How many are reached below p. -/
def cntF (p : Nat) (S : Nat → Bool) : Nat := (List.range p).countP S
theorem cntF_step : ∀ (p : Nat) (S T : Nat → Bool), (∀ v, S v = true → T v = true) → cntF p S ≤ cntF p T ∧ (cntF p T ≤ cntF p S → ∀ v, v < p → T v = S v) := by
  intro p S T h
  induction p with
  | zero => exact ⟨Nat.le_refl _, fun _ v hv => absurd hv (by omega)⟩
  | succ p ih =>
    obtain ⟨i1, i2⟩ := ih
    unfold cntF at *
    rw [List.range_succ, List.countP_append, List.countP_append, List.countP_cons, List.countP_cons, List.countP_nil]
    have hp := h p
    have key : ∀ c : T p = S p, ∀ v, (List.countP T (List.range p) ≤ List.countP S (List.range p)) → v < p + 1 → T v = S v := fun c v hle hv => by
      by_cases e : v = p
      · subst e; exact c
      · exact i2 hle v (by omega)
    cases hs : S p <;> cases ht : T p
    · simp
      exact ⟨i1, fun hle v hv => key (by rw [hs, ht]) v hle hv⟩
    · simp
      exact ⟨by omega, fun hle => by omega⟩
    · rw [hs, ht] at hp; exact absurd (hp rfl) (by decide)
    · simp
      exact ⟨i1, fun hle v hv => key (by rw [hs, ht]) v hle hv⟩
theorem cntF_all : ∀ (p : Nat) (S : Nat → Bool), cntF p S ≤ p ∧ (p ≤ cntF p S → ∀ v, v < p → S v = true) := by
  intro p S
  induction p with
  | zero => exact ⟨Nat.le_refl _, fun _ v hv => absurd hv (by omega)⟩
  | succ p ih =>
    obtain ⟨i1, i2⟩ := ih
    unfold cntF at *
    rw [List.range_succ, List.countP_append, List.countP_cons, List.countP_nil]
    cases hs : S p
    · simp
      exact ⟨by omega, fun hle => by omega⟩
    · simp
      refine ⟨i1, fun hle v hv => ?_⟩
      by_cases e : v = p
      · subst e; exact hs
      · exact i2 hle v (by omega)
theorem cntF_one (p v0 : Nat) (h : v0 < p) : 1 ≤ cntF p (fun v => decide (v = v0)) := by
  unfold cntF
  exact List.countP_pos_iff.2 ⟨v0, List.mem_range.2 h, by simp⟩
theorem iter_grow (p : Nat) (l : List (Int × Int)) (hl : InP p l) (v0 : Nat) (h0 : v0 < p) : ∀ k, (∀ v, v < p → iterF l (k + 1) (fun v => decide (v = v0)) v = iterF l k (fun v => decide (v = v0)) v) ∨ k + 1 ≤ cntF p (iterF l k (fun v => decide (v = v0))) := by
  intro k
  induction k with
  | zero => exact .inr (cntF_one p v0 h0)
  | succ k ih =>
    have again : (∀ v, v < p → iterF l (k + 1) (fun v => decide (v = v0)) v = iterF l k (fun v => decide (v = v0)) v) → ∀ v, v < p → iterF l (k + 1 + 1) (fun v => decide (v = v0)) v = iterF l (k + 1) (fun v => decide (v = v0)) v := fun h => foldF_agree p l _ _ hl h
    rcases ih with h | h
    · exact .inl (again h)
    · have hs := cntF_step p (iterF l k (fun v => decide (v = v0))) (iterF l (k + 1) (fun v => decide (v = v0))) (fun v hv => foldF_ge l _ v hv)
      by_cases hc : k + 1 + 1 ≤ cntF p (iterF l (k + 1) (fun v => decide (v = v0)))
      · exact .inr hc
      · exact .inl (again (hs.2 (by omega)))
/-- One round less than there are points is enough. -/
theorem iter_enough (p : Nat) (l : List (Int × Int)) (hl : InP (p + 1) l) (v0 : Nat) (h0 : v0 < p + 1) (v : Nat) (hv : v < p + 1) : iterF l (p + 1) (fun v => decide (v = v0)) v = iterF l p (fun v => decide (v = v0)) v := by
  rcases iter_grow (p + 1) l hl v0 h0 p with h | h
  · exact h v hv
  · have := (cntF_all (p + 1) _).2 h v hv
    rw [this]
    exact foldF_ge l _ v this
/-- The points below n that are reached. -/
def outF (n : Nat) (S : Nat → Bool) : List Int := ((List.range n).filter S).map fun (v : Nat) => (v : Int)
theorem outF_succ (n : Nat) (S : Nat → Bool) : outF (n + 1) S = outF n S ++ if S n then [(n : Int)] else [] := by
  unfold outF
  rw [List.range_succ, List.filter_append, List.map_append]
  cases h : S n <;> simp [h]
theorem outF_agree (n : Nat) (S T : Nat → Bool) (h : ∀ v, v < n → S v = T v) : outF n S = outF n T := by
  unfold outF
  congr 1
  exact List.filter_congr fun v hv => h v (List.mem_range.1 hv)
theorem outF_len (n : Nat) (S : Nat → Bool) : (outF n S).length ≤ n := by
  unfold outF
  rw [List.length_map]
  exact Nat.le_trans (List.length_filter_le _ _) (by simp)

/-! A bar in its place. -/
/-- Behind all that are not greater. -/
def insU (x : Int × Int) : List (Int × Int) → List (Int × Int)
  | [] => [x]
  | y :: t => if aftB y x then y :: insU x t else x :: y :: t
theorem insU_all (x : Int × Int) : ∀ t u : List (Int × Int), (∀ y ∈ t, aftB y x = true) → insU x (t ++ u) = t ++ insU x u := by
  intro t u
  induction t with
  | nil => intro _; rfl
  | cons y t ih =>
    intro h
    rw [List.cons_append, insU, if_pos (h y (List.mem_cons_self ..)), ih fun z hz => h z (List.mem_cons_of_mem _ hz)]
    rfl
theorem insU_some (x : Int × Int) : ∀ t u : List (Int × Int), (∃ y ∈ t, aftB y x = false) → insU x (t ++ u) = insU x t ++ u := by
  intro t u
  induction t with
  | nil => rintro ⟨y, hy, _⟩; cases hy
  | cons y t ih =>
    rintro ⟨z, hz, h⟩
    rw [List.cons_append, insU, insU]
    by_cases c : aftB y x = true
    · rw [if_pos c, if_pos c, ih ?_]
      · rfl
      · rcases List.mem_cons.1 hz with rfl | hz
        · rw [c] at h; cases h
        · exact ⟨z, hz, h⟩
    · rw [if_neg c, if_neg c]
      rfl
/-- How many stand before x, as long as they do. -/
def lowB (x : Int × Int) : List (Int × Int) → Nat
  | [] => 0
  | y :: t => if aftB x y then 0 else lowB x t + 1
/-- The bars stand in their order. -/
def OrdB (l : List (Int × Int)) : Prop := l.Pairwise fun a b => aftB a b = true
theorem aftB_trans {a b c : Int × Int} (h : aftB a b = true) (k : aftB b c = true) : aftB a c = true := by
  simp [aftB] at *
  omega
theorem aftB_anti {a b : Int × Int} (h : aftB a b = true) (k : aftB b a = true) : a = b := by
  obtain ⟨a1, a2⟩ := a
  obtain ⟨b1, b2⟩ := b
  simp [aftB] at *
  omega
theorem aftB_total (a b : Int × Int) (h : aftB a b = false) : aftB b a = true := by
  simp [aftB] at *
  omega
theorem insU_front (x : Int × Int) : ∀ t : List (Int × Int), (∀ y ∈ t, aftB x y = true) → insU x t = x :: t := by
  intro t
  induction t with
  | nil => intro _; rfl
  | cons y t ih =>
    intro h
    have hy := h y (List.mem_cons_self ..)
    unfold insU
    by_cases c : aftB y x = true
    · have e : y = x := aftB_anti c hy
      subst e
      rw [if_pos c, ih fun z hz => h z (List.mem_cons_of_mem _ hz)]
    · rw [if_neg c]
theorem insU_low (x : Int × Int) : ∀ l : List (Int × Int), OrdB l → insU x l = l.take (lowB x l) ++ x :: l.drop (lowB x l) := by
  intro l
  induction l with
  | nil => intro _; rfl
  | cons y t ih =>
    intro h
    have h' := List.pairwise_cons.1 h
    unfold lowB
    by_cases c : aftB x y = true
    · rw [if_pos c, List.take_zero, List.drop_zero, List.nil_append]
      exact insU_front x (y :: t) fun z hz => by
        rcases List.mem_cons.1 hz with rfl | hz
        · exact c
        · exact aftB_trans c (h'.1 z hz)
    · rw [if_neg c, List.take_succ_cons, List.drop_succ_cons]
      have c' := aftB_total x y (by simpa using c)
      rw [insU, if_pos c', ih h'.2]
      rfl
theorem lowB_le (x : Int × Int) : ∀ l : List (Int × Int), lowB x l ≤ l.length := by
  intro l
  induction l with
  | nil => exact Nat.le_refl _
  | cons y t ih =>
    unfold lowB
    split
    · exact Nat.zero_le _
    · simpa using ih
/-- Before that place all stand before x, and from there on x stands before or beside all. -/
theorem lowB_at (x : Int × Int) : ∀ l : List (Int × Int), OrdB l → ∀ i, i < l.length → (aftB x (l.getD i (0, 0)) = true ↔ lowB x l ≤ i) := by
  intro l
  induction l with
  | nil => intro _ i hi; simp at hi
  | cons y t ih =>
    intro h i hi
    have h' := List.pairwise_cons.1 h
    unfold lowB
    by_cases c : aftB x y = true
    · rw [if_pos c]
      refine ⟨fun _ => Nat.zero_le _, fun _ => ?_⟩
      rcases i with _ | i
      · exact c
      · have hi' : i < t.length := by simpa using hi
        have : (y :: t).getD (i + 1) (0, 0) = t[i] := by simp [List.getD, List.getElem?_eq_getElem hi']
        rw [this]
        exact aftB_trans c (h'.1 _ (List.getElem_mem hi'))
    · rw [if_neg c]
      rcases i with _ | i
      · simp [List.getD]
        simpa using c
      · have := ih h'.2 i (by simpa using hi)
        simp only [List.getD_cons_succ]
        rw [this]
        omega
theorem insU_len (x : Int × Int) : ∀ l : List (Int × Int), (insU x l).length = l.length + 1 := by
  intro l
  induction l with
  | nil => rfl
  | cons y t ih =>
    unfold insU
    split
    · simp [ih]
    · simp
theorem isG_ord {p : Int} {l : List (Int × Int)} (h : IsG p l) : OrdB l := by
  have key : ∀ (d i : Nat), i + d + 1 < l.length → aftB (l.getD i (0, 0)) (l.getD (i + d + 1) (0, 0)) = true := by
    intro d
    induction d with
    | zero =>
      intro i hi
      have := (h.2.2 (i + 1) hi).2.2.2 (by omega)
      simpa using this
    | succ d ih =>
      intro i hi
      refine aftB_trans (ih i (by omega)) ?_
      have := (h.2.2 (i + d + 2) (by omega)).2.2.2 (by omega)
      have e : i + d + 2 - 1 = i + d + 1 := by omega
      rw [e] at this
      exact this
  refine List.pairwise_iff_getElem.2 fun i j hi hj hij => ?_
  have := key (j - i - 1) i (by omega)
  rw [show i + (j - i - 1) + 1 = j by omega] at this
  simpa [List.getD, List.getElem?_eq_getElem hi, List.getElem?_eq_getElem hj] using this
theorem isG_in {p : Int} {l : List (Int × Int)} (h : IsG p l) : InP p.toNat l := by
  intro x hx
  obtain ⟨i, hi, rfl⟩ := List.getElem_of_mem hx
  have := h.2.2 i hi
  simp only [OkBar, List.getD, List.getElem?_eq_getElem hi, Option.getD_some] at this
  omega
theorem isG_bar {p : Int} {l : List (Int × Int)} (h : IsG p l) (k : Nat) (hk : k < l.length) : 0 ≤ (l.getD k (0, 0)).1 ∧ (l.getD k (0, 0)).1 < (l.getD k (0, 0)).2 ∧ (l.getD k (0, 0)).2 < p := by
  have := h.2.2 k hk
  exact ⟨this.1, this.2.1, this.2.2.1⟩
end Go.Proofs.YtehendofgcebcaaDoor
