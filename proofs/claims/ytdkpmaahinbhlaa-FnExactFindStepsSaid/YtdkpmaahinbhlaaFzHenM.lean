/- Henneberg's theorem, in words on lists of bars: a graph with as many bars as 2p - 3 and no set with too many has a point with two bars, or one with three bars where a bar between two of its neighbours keeps the rest so. Of no program. No condition. -/
import Derived.Test.YtdkpmaahinbhlaaFzMatL
import Derived.Test.YtdkpmaahinbhlaaFzB1
namespace Go.Proofs.Ytdkpmaahinbhlaa

def OkB (P : Nat) (x : Int × Int) : Prop := 0 ≤ x.1 ∧ x.1 < x.2 ∧ x.2 < (P : Int)
/-- No set spans more than 2w - 3. -/
def IndS (P : Nat) (l : List (Int × Int)) : Prop := ∀ m, 0 < cntS l m → (cntS l m : Int) ≤ 2 * (wid P m : Int) - 3
theorem indS_iff {P : Nat} {l : List (Int × Int)} : IndL P 2 3 l ↔ IndS P l := by
  constructor
  · intro h m hm
    have := h m
    unfold badS at this
    rw [wid_set, decide_eq_true hm, Bool.true_and, decide_eq_false_iff_not] at this
    omega
  · intro h m
    unfold badS
    by_cases hm : 0 < cntS l m
    · have := h m hm
      rw [wid_set, decide_eq_true hm, Bool.true_and, decide_eq_false_iff_not]
      omega
    · rw [decide_eq_false hm]
      rfl
theorem cntS_cons (x : Int × Int) (l : List (Int × Int)) (m : Nat) : cntS (x :: l) m = cntS l m + if bothB m x = true then 1 else 0 := by
  unfold cntS
  rw [List.countP_cons]
theorem cntS_app (l r : List (Int × Int)) (m : Nat) : cntS (l ++ r) m = cntS l m + cntS r m := by
  unfold cntS
  exact List.countP_append
theorem cntS_sub {l r : List (Int × Int)} (h : r.Sublist l) (m : Nat) : cntS r m ≤ cntS l m := h.countP_le
theorem indS_sub {P : Nat} {l r : List (Int × Int)} (h : r.Sublist l) (hi : IndS P l) : IndS P r := fun m hm => by
  have h1 := cntS_sub h m
  have h2 := hi m (by omega)
  omega
theorem cntS_or_and (l : List (Int × Int)) (m m' : Nat) : cntS l m + cntS l m' ≤ cntS l (m ||| m') + cntS l (m &&& m') := by
  induction l with
  | nil => simp [cntS]
  | cons x l ih =>
    simp only [cntS_cons]
    have h : (if bothB m x = true then 1 else 0) + (if bothB m' x = true then 1 else 0) ≤ (if bothB (m ||| m') x = true then 1 else 0) + if bothB (m &&& m') x = true then 1 else (0 : Nat) := by
      unfold bothB
      simp only [Nat.testBit_or, Nat.testBit_and]
      cases m.testBit x.1.toNat <;> cases m'.testBit x.1.toNat <;> cases m.testBit x.2.toNat <;> cases m'.testBit x.2.toNat <;> decide
    omega
/-- Point v is an end of x. -/
def atV (v : Nat) (x : Int × Int) : Bool := decide (x.1.toNat = v) || decide (x.2.toNat = v)
def degV (l : List (Int × Int)) (v : Nat) : Nat := l.countP (atV v)
/-- The bars that do not end at v. -/
def offV (l : List (Int × Int)) (v : Nat) : List (Int × Int) := l.filter fun x => !atV v x
/-- The other end. -/
def othV (v : Nat) (x : Int × Int) : Nat := if x.1.toNat = v then x.2.toNat else x.1.toNat
theorem offV_sub (l : List (Int × Int)) (v : Nat) : (offV l v).Sublist l := List.filter_sublist
theorem offV_len (l : List (Int × Int)) (v : Nat) : (offV l v).length + degV l v = l.length := by
  unfold offV degV
  induction l with
  | nil => rfl
  | cons x l ih =>
    rw [List.filter_cons, List.countP_cons]
    cases e : atV v x <;> simp <;> omega
/-- The set with v besides spans all bars at v whose other ends it holds. -/
theorem cnt_with (l : List (Int × Int)) (v m : Nat) (h : ∀ x ∈ l, atV v x = true → m.testBit (othV v x) = true) : cntS (offV l v) m + degV l v ≤ cntS l (m ||| 2 ^ v) := by
  unfold offV degV
  induction l with
  | nil => simp [cntS]
  | cons x l ih =>
    have h1 := ih fun y hy => h y (List.mem_cons_of_mem _ hy)
    have h2 := h x List.mem_cons_self
    rw [List.filter_cons, List.countP_cons, cntS_cons]
    have tb : ∀ u : Nat, (m ||| 2 ^ v).testBit u = (m.testBit u || decide (v = u)) := fun u => by rw [Nat.testBit_or, Nat.testBit_two_pow]
    cases e : atV v x with
    | true =>
      have h3 := h2 e
      have h4 : bothB (m ||| 2 ^ v) x = true := by
        unfold bothB
        unfold atV at e
        unfold othV at h3
        rw [tb, tb]
        by_cases c : x.1.toNat = v
        · rw [if_pos c] at h3
          rw [h3]
          simp [c]
        · rw [if_neg c] at h3
          have c2 : x.2.toNat = v := by simpa [c] using e
          rw [h3]
          simp [c2]
      rw [if_pos h4]
      simp
      omega
    | false =>
      simp only [Bool.not_false, if_true]
      rw [cntS_cons]
      have h4 : bothB m x = true → bothB (m ||| 2 ^ v) x = true := by
        intro q
        unfold bothB at q ⊢
        rw [Bool.and_eq_true] at q
        rw [tb, tb, q.1, q.2]
        rfl
      by_cases c : bothB m x = true
      · rw [if_pos c, if_pos (h4 c)]
        simp
        omega
      · rw [if_neg c]
        simp
        omega
theorem wid_with {P m v : Nat} (hv : v < P) (hm : m.testBit v = false) : wid P (m ||| 2 ^ v) = wid P m + 1 := by
  have h := wid_or_and P m (2 ^ v)
  have h1 : wid P (m &&& 2 ^ v) = 0 := by
    unfold wid
    rw [List.countP_eq_zero]
    intro u _
    rw [Nat.testBit_and, Nat.testBit_two_pow]
    by_cases c : v = u
    · subst c; rw [hm]; simp
    · simp [c]
  have h2 : wid P (2 ^ v) = 1 := by
    unfold wid
    have := cntR_one v P
    rw [if_pos hv] at this
    rw [← this]
    refine List.countP_congr fun u _ => ?_
    rw [Nat.testBit_two_pow]
    simp [eq_comm]
  omega
/-- The set without v. -/
theorem without {P m v : Nat} (hv : v < P) (hm : m.testBit v = true) {l : List (Int × Int)} (hl : ∀ x ∈ l, OkB P x) (ho : ∀ x ∈ l, atV v x = false) : ∃ m', m'.testBit v = false ∧ wid P m' + 1 = wid P m ∧ cntS l m' = cntS l m ∧ ∀ u, u < P → u ≠ v → m'.testBit u = m.testBit u := by
  obtain ⟨m', _, h2⟩ := mask_of (fun u => m.testBit u && !decide (u = v)) P
  have hv' : m'.testBit v = false := by rw [h2 v hv]; simp
  have hu : ∀ u, u < P → u ≠ v → m'.testBit u = m.testBit u := fun u hu hne => by rw [h2 u hu]; simp [hne]
  refine ⟨m', hv', ?_, ?_, hu⟩
  · have h3 := cntR_add (fun u => m'.testBit u) (fun u => decide (u = v)) (fun u => m.testBit u) (fun _ => false) P fun u hu' => by
      by_cases c : u = v
      · subst c; simp [hv', hm]
      · simp [hu u hu' c, c]
    rw [cntR_one, cntR_zero, if_pos hv] at h3
    unfold wid
    omega
  · unfold cntS
    refine List.countP_congr fun x hx => ?_
    have h4 := hl x hx
    have h5 := ho x hx
    unfold OkB at h4
    unfold atV at h5
    simp only [Bool.or_eq_false_iff, decide_eq_false_iff_not] at h5
    unfold bothB
    rw [hu _ (by omega) h5.1, hu _ (by omega) h5.2]
/-- A set with two points whose bar can't be added: it is full, and not of v. -/
theorem full_of {P v a b : Nat} {l : List (Int × Int)} (hl : ∀ x ∈ l, OkB P x) (hv : v < P) (hi : IndS P l) (ho : ∀ x ∈ l, atV v x = false) (ha : a < P ∧ a ≠ v) (hb : b < P ∧ b ≠ v) (hab : a ≠ b) {y : Int × Int} (hy : bothB (2 ^ a ||| 2 ^ b) y = true ∧ ∀ m : Nat, bothB m y = (m.testBit a && m.testBit b)) (hno : ¬ IndS P (l ++ [y])) :
    ∃ m, m.testBit v = false ∧ m.testBit a = true ∧ m.testBit b = true ∧ (cntS l m : Int) = 2 * (wid P m : Int) - 3 := by
  have : ∃ m, 0 < cntS (l ++ [y]) m ∧ ¬ (cntS (l ++ [y]) m : Int) ≤ 2 * (wid P m : Int) - 3 := by
    refine Classical.byContradiction fun q => hno fun m hm => ?_
    refine Classical.byContradiction fun q2 => q ⟨m, hm, q2⟩
  obtain ⟨m, hm, hbad⟩ := this
  rw [cntS_app] at hm hbad
  have h1 : cntS [y] m = if bothB m y = true then 1 else 0 := by
    rw [cntS_cons]
    simp [cntS]
  rw [h1] at hm hbad
  by_cases c : bothB m y = true
  · rw [if_pos c] at hm hbad
    rw [hy.2, Bool.and_eq_true] at c
    have hw := wid_two ha.1 hb.1 hab c.1 c.2
    have hc : (cntS l m : Int) = 2 * (wid P m : Int) - 3 := by
      by_cases z : 0 < cntS l m
      · have := hi m z; omega
      · omega
    cases e : m.testBit v with
    | false => exact ⟨m, e, c.1, c.2, hc⟩
    | true =>
      exfalso
      obtain ⟨m', _, w2, w3, _⟩ := without hv e hl ho
      have := hi m' (by omega)
      omega
  · rw [if_neg c] at hm hbad
    have := hi m (by omega)
    omega
/-- A set that spans 2w - 3 bars and holds all neighbours of a point with three bars would span too many with it. -/
theorem three_more {P v m : Nat} {l : List (Int × Int)} (hi : IndS P l) (hv : v < P) (h3 : degV l v = 3) (hm : m.testBit v = false) (hn : ∀ x ∈ l, atV v x = true → m.testBit (othV v x) = true) (hc : 2 * (wid P m : Int) - 3 ≤ (cntS (offV l v) m : Int)) : False := by
  have h1 := cnt_with l v m hn
  have h2 := wid_with hv hm
  have h3' := hi (m ||| 2 ^ v) (by omega)
  omega
theorem full_or {P m m' : Nat} {l : List (Int × Int)} (hi : IndS P l) (h : (cntS l m : Int) = 2 * (wid P m : Int) - 3) (h' : (cntS l m' : Int) = 2 * (wid P m' : Int) - 3) (hw : 2 ≤ wid P (m &&& m')) : 2 * (wid P (m ||| m') : Int) - 3 ≤ (cntS l (m ||| m') : Int) := by
  have h1 := cntS_or_and l m m'
  have h2 := wid_or_and P m m'
  by_cases z : 0 < cntS l (m &&& m')
  · have := hi _ z; omega
  · omega
theorem cnt_three {l : List (Int × Int)} {m1 m2 m3 : Nat} (h12 : ∀ x ∈ l, bothB m1 x = true → bothB m2 x = true → False) (h13 : ∀ x ∈ l, bothB m1 x = true → bothB m3 x = true → False) (h23 : ∀ x ∈ l, bothB m2 x = true → bothB m3 x = true → False) : cntS l m1 + cntS l m2 + cntS l m3 ≤ cntS l (m1 ||| m2 ||| m3) := by
  induction l with
  | nil => simp [cntS]
  | cons x l ih =>
    have h1 := ih (fun y hy => h12 y (List.mem_cons_of_mem _ hy)) (fun y hy => h13 y (List.mem_cons_of_mem _ hy)) (fun y hy => h23 y (List.mem_cons_of_mem _ hy))
    have a12 := h12 x List.mem_cons_self
    have a13 := h13 x List.mem_cons_self
    have a23 := h23 x List.mem_cons_self
    simp only [cntS_cons]
    have up : ∀ m : Nat, (m = m1 ∨ m = m2 ∨ m = m3) → bothB m x = true → bothB (m1 ||| m2 ||| m3) x = true := by
      intro m hm q
      unfold bothB at q ⊢
      rw [Bool.and_eq_true] at q
      simp only [Nat.testBit_or]
      rcases hm with rfl | rfl | rfl <;> simp [q.1, q.2]
    by_cases c1 : bothB m1 x = true
    · rw [if_pos c1, if_neg (a12 c1), if_neg (a13 c1), if_pos (up m1 (.inl rfl) c1)]
      omega
    · rw [if_neg c1]
      by_cases c2 : bothB m2 x = true
      · rw [if_pos c2, if_neg (a23 c2), if_pos (up m2 (.inr (.inl rfl)) c2)]
        omega
      · rw [if_neg c2]
        by_cases c3 : bothB m3 x = true
        · rw [if_pos c3, if_pos (up m3 (.inr (.inr rfl)) c3)]
          omega
        · rw [if_neg c3]
          omega
theorem wid_of_cnt {P m : Nat} {l : List (Int × Int)} (hi : IndS P l) {x : Int × Int} (hx : x ∈ l) (hm : bothB m x = true) : 2 ≤ wid P m := by
  have hc : 0 < cntS l m := by
    unfold cntS
    exact List.countP_pos_iff.2 ⟨x, hx, hm⟩
  have := hi m hc
  omega
def brS' (a b : Nat) : Int × Int := (((min a b : Nat) : Int), ((max a b : Nat) : Int))
/-- A bar between the points a and b, as the counts see it. -/
def pairB (a b : Nat) (y : Int × Int) : Prop := ∀ m : Nat, bothB m y = (m.testBit a && m.testBit b)
theorem pairB_br {a b : Nat} : pairB a b (brS' a b) := by
  intro m
  unfold brS' bothB
  rcases Nat.le_total a b with h | h
  · rw [Nat.min_eq_left h, Nat.max_eq_right h]
    rfl
  · rw [Nat.min_eq_right h, Nat.max_eq_left h, Bool.and_comm]
    rfl
/-- A point with three bars: between two of its neighbours a bar can be set behind it. -/
theorem hen_three {P v a b c : Nat} {l : List (Int × Int)} (hl : ∀ x ∈ l, OkB P x) (hi : IndS P l) (hv : v < P) (h3 : degV l v = 3) (ha : a < P ∧ a ≠ v) (hb : b < P ∧ b ≠ v) (hc : c < P ∧ c ≠ v) (hab : a ≠ b) (hbc : b ≠ c) (hca : c ≠ a) (hn : ∀ x ∈ l, atV v x = true → othV v x = a ∨ othV v x = b ∨ othV v x = c)
    {x y z : Int × Int} (hx : pairB a b x) (hy : pairB b c y) (hz : pairB c a z) : IndS P (offV l v ++ [x]) ∨ IndS P (offV l v ++ [y]) ∨ IndS P (offV l v ++ [z]) := by
  refine Classical.byContradiction fun q => ?_
  have q1 : ¬ IndS P (offV l v ++ [x]) := fun h => q (.inl h)
  have q2 : ¬ IndS P (offV l v ++ [y]) := fun h => q (.inr (.inl h))
  have q3 : ¬ IndS P (offV l v ++ [z]) := fun h => q (.inr (.inr h))
  have hio := indS_sub (offV_sub l v) hi
  have hlo : ∀ x ∈ offV l v, OkB P x := fun x hx => hl x ((offV_sub l v).subset hx)
  have ho : ∀ x ∈ offV l v, atV v x = false := fun x hx => by
    have := (List.mem_filter.1 hx).2
    simpa using this
  have bb : ∀ (s t : Nat) (u : Int × Int), pairB s t u → bothB (2 ^ s ||| 2 ^ t) u = true := fun s t u h => by rw [h]; simp [Nat.testBit_or, Nat.testBit_two_pow_self]
  obtain ⟨m1, v1, a1, b1, f1⟩ := full_of hlo hv hio ho ha hb hab ⟨bb a b x hx, hx⟩ q1
  obtain ⟨m2, v2, b2, c2, f2⟩ := full_of hlo hv hio ho hb hc hbc ⟨bb b c y hy, hy⟩ q2
  obtain ⟨m3, v3, c3, a3, f3⟩ := full_of hlo hv hio ho hc ha hca ⟨bb c a z hz, hz⟩ q3
  have two : ∀ m m' : Nat, m.testBit v = false → m'.testBit v = false → (cntS (offV l v) m : Int) = 2 * (wid P m : Int) - 3 → (cntS (offV l v) m' : Int) = 2 * (wid P m' : Int) - 3 → (m.testBit a || m'.testBit a) = true → (m.testBit b || m'.testBit b) = true → (m.testBit c || m'.testBit c) = true → 2 ≤ wid P (m &&& m') → False := by
    intro m m' e1 e2 e3 e4 e5 e6 e7 e8
    refine three_more hi hv h3 (m := m ||| m') (by rw [Nat.testBit_or, e1, e2]; rfl) (fun x hx hat => ?_) (full_or hio e3 e4 e8)
    rw [Nat.testBit_or]
    rcases hn x hx hat with e | e | e <;> rw [e] <;> assumption
  by_cases w12 : 2 ≤ wid P (m1 &&& m2)
  · exact two m1 m2 v1 v2 f1 f2 (by rw [a1]; rfl) (by rw [b1]; rfl) (by rw [c2, Bool.or_true]) w12
  by_cases w13 : 2 ≤ wid P (m1 &&& m3)
  · exact two m1 m3 v1 v3 f1 f3 (by rw [a1]; rfl) (by rw [b1]; rfl) (by rw [c3, Bool.or_true]) w13
  by_cases w23 : 2 ≤ wid P (m2 &&& m3)
  · exact two m2 m3 v2 v3 f2 f3 (by rw [a3, Bool.or_true]) (by rw [b2]; rfl) (by rw [c2]; rfl) w23
  have hcnt := cnt_three (l := offV l v) (m1 := m1) (m2 := m2) (m3 := m3) (fun x hx p1 p2 => w12 (wid_of_cnt hio hx (both_and p1 p2))) (fun x hx p1 p2 => w13 (wid_of_cnt hio hx (both_and p1 p2))) (fun x hx p1 p2 => w23 (wid_of_cnt hio hx (both_and p1 p2)))
  have e1 := wid_or_and P m1 m2
  have e2 := wid_or_and P (m1 ||| m2) m3
  have e3 : 2 ≤ wid P ((m1 ||| m2) &&& m3) := wid_two hc.1 ha.1 hca (by rw [Nat.testBit_and, Nat.testBit_or, c2, c3, Bool.or_true]; rfl) (by rw [Nat.testBit_and, Nat.testBit_or, a1, a3]; rfl)
  have e4 : 1 ≤ wid P (m1 &&& m2) := by
    unfold wid
    exact List.countP_pos_iff.2 ⟨b, List.mem_range.2 hb.1, by rw [Nat.testBit_and, b1, b2]; rfl⟩
  refine three_more hi hv h3 (m := m1 ||| m2 ||| m3) (by rw [Nat.testBit_or, Nat.testBit_or, v1, v2, v3]; rfl) (fun x hx hat => ?_) (by omega)
  rw [Nat.testBit_or, Nat.testBit_or]
  rcases hn x hx hat with e | e | e
  · rw [e, a1]; rfl
  · rw [e, b1]; rfl
  · rw [e, c2, Bool.or_true]; rfl
/-- The sum of the degrees. -/
def sumD (l : List (Int × Int)) : Nat → Nat
  | 0 => 0
  | P + 1 => sumD l P + degV l P
theorem sumD_nil : ∀ P, sumD [] P = 0 := by
  intro P
  induction P with
  | zero => rfl
  | succ P ih => unfold sumD; rw [ih]; rfl
theorem sumD_cons {x : Int × Int} (hx : x.1.toNat ≠ x.2.toNat) (l : List (Int × Int)) : ∀ P, sumD (x :: l) P = sumD l P + (if x.1.toNat < P then 1 else 0) + (if x.2.toNat < P then 1 else 0) := by
  intro P
  induction P with
  | zero => rfl
  | succ P ih =>
    unfold sumD
    rw [ih]
    have h : degV (x :: l) P = degV l P + if atV P x = true then 1 else 0 := by unfold degV; rw [List.countP_cons]
    rw [h]
    unfold atV
    generalize x.1.toNat = s at *
    generalize x.2.toNat = t at *
    have step : ∀ s : Nat, (if s < P + 1 then 1 else 0) = (if s < P then 1 else 0) + if s = P then 1 else (0 : Nat) := by
      intro s
      by_cases c : s < P
      · rw [if_pos c, if_pos (by omega), if_neg (by omega)]
      · by_cases d : s = P
        · rw [if_neg c, if_pos (by omega), if_pos d]
        · rw [if_neg c, if_neg (by omega), if_neg d]
    have both : (if (decide (s = P) || decide (t = P)) = true then 1 else 0) = (if s = P then 1 else 0) + if t = P then 1 else (0 : Nat) := by
      by_cases c : s = P
      · have d : ¬ t = P := by omega
        rw [if_pos c, if_neg d, if_pos (by simp [c])]
      · by_cases d : t = P
        · rw [if_neg c, if_pos d, if_pos (by simp [d])]
        · rw [if_neg c, if_neg d, if_neg (by simp [c, d])]
    rw [both, step s, step t]
    omega
theorem sumD_all {P : Nat} : ∀ l : List (Int × Int), (∀ x ∈ l, OkB P x) → sumD l P = 2 * l.length := by
  intro l
  induction l with
  | nil => intro _; rw [sumD_nil]; rfl
  | cons x l ih =>
    intro h
    have h1 := h x List.mem_cons_self
    unfold OkB at h1
    rw [sumD_cons (by omega), ih fun y hy => h y (List.mem_cons_of_mem _ hy), if_pos (by omega), if_pos (by omega), List.length_cons]
    omega
theorem wid_succ (P m : Nat) : wid (P + 1) m = wid P m + if m.testBit P = true then 1 else 0 := by
  unfold wid
  rw [List.range_succ, List.countP_append, List.countP_cons, List.countP_nil]
  omega
theorem sumD_ge {l : List (Int × Int)} {U d : Nat} : ∀ P, (∀ v, v < P → U.testBit v = true → d ≤ degV l v) → d * wid P U ≤ sumD l P := by
  intro P
  induction P with
  | zero => intro _; simp [wid, sumD]
  | succ P ih =>
    intro h
    have h1 := ih fun v hv => h v (by omega)
    rw [wid_succ, Nat.mul_add]
    unfold sumD
    by_cases c : U.testBit P = true
    · rw [if_pos c, Nat.mul_one]
      have := h P (by omega) c
      omega
    · rw [if_neg c, Nat.mul_zero]
      omega
/-- Some point that is used has at most three bars. -/
theorem hen_low {P U : Nat} {l : List (Int × Int)} (hl : ∀ x ∈ l, OkB P x) (hlen : l.length + 3 = 2 * wid P U) : ∃ v, v < P ∧ U.testBit v = true ∧ degV l v ≤ 3 := by
  refine Classical.byContradiction fun q => ?_
  have h1 := sumD_ge (l := l) (U := U) (d := 4) P fun v hv hu => by
    refine Classical.byContradiction fun h => q ⟨v, hv, hu, by omega⟩
  have h2 := sumD_all l hl
  omega
/-- Each point that is used has two bars at least. -/
theorem hen_two {P U v : Nat} {l : List (Int × Int)} (hl : ∀ x ∈ l, OkB P x) (hi : IndS P l) (hu : ∀ x ∈ l, bothB U x = true) (hlen : l.length + 3 = 2 * wid P U) (h3 : 3 ≤ wid P U) (hv : v < P) (hU : U.testBit v = true) : 2 ≤ degV l v := by
  have h1 := offV_len l v
  have hlo : ∀ x ∈ offV l v, OkB P x := fun x hx => hl x ((offV_sub l v).subset hx)
  have ho : ∀ x ∈ offV l v, atV v x = false := fun x hx => by
    have := (List.mem_filter.1 hx).2
    simpa using this
  obtain ⟨m, _, w1, w2, _⟩ := without hv hU hlo ho
  have h4 : cntS (offV l v) U = (offV l v).length := by
    unfold cntS
    exact List.countP_eq_length.2 fun x hx => hu x ((offV_sub l v).subset hx)
  have hio := indS_sub (offV_sub l v) hi
  by_cases z : 0 < cntS (offV l v) m
  · have := hio m z; omega
  · omega
end Go.Proofs.Ytdkpmaahinbhlaa
