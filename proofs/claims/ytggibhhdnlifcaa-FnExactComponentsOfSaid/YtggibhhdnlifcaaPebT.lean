/- The pebble game's counts: what is placed is sparse, and what is not placed would be too much. No program. No condition. -/
import Derived.Test.YtggibhhdnlifcaaPebN
import Derived.Test.YtggibhhdnlifcaaCnt0
namespace Go.Proofs.Ytggibhhdnlifcaa

def sumS (S : Nat → Bool) (f : Nat → Int) : Nat → Int
  | 0 => 0
  | P + 1 => sumS S f P + if S P then f P else 0
theorem sumS_congr (S : Nat → Bool) (f g : Nat → Int) (P : Nat) (h : ∀ v, v < P → S v = true → f v = g v) : sumS S f P = sumS S g P := by
  induction P with
  | zero => rfl
  | succ P ih =>
    unfold sumS
    rw [ih fun v hv => h v (by omega)]
    cases e : S P
    · rfl
    · rw [h P (by omega) e]
theorem sumS_add (S : Nat → Bool) (f g : Nat → Int) (P : Nat) : sumS S (fun v => f v + g v) P = sumS S f P + sumS S g P := by
  induction P with
  | zero => rfl
  | succ P ih =>
    unfold sumS
    rw [ih]
    cases S P <;> simp <;> omega
theorem sumS_one (S : Nat → Bool) (z : Int) (t P : Nat) (h : t < P) : sumS S (fun v => if v = t then z else 0) P = if S t then z else 0 := by
  have zero : ∀ Q, Q ≤ t → sumS S (fun v => if v = t then z else 0) Q = 0 := by
    intro Q
    induction Q with
    | zero => intro _; rfl
    | succ Q ih =>
      intro hq
      unfold sumS
      rw [ih (by omega), if_neg (show ¬ Q = t by omega)]
      simp
  induction P with
  | zero => omega
  | succ P ih =>
    unfold sumS
    by_cases e : P = t
    · subst e
      rw [zero P (Nat.le_refl _), if_pos rfl]
      simp
    · rw [ih (by omega), if_neg e]
      simp
theorem sumS_nonneg (S : Nat → Bool) (f : Nat → Int) (P : Nat) (h : ∀ v, v < P → 0 ≤ f v) : 0 ≤ sumS S f P := by
  induction P with
  | zero => exact Int.le_refl _
  | succ P ih =>
    unfold sumS
    have h1 := ih fun v hv => h v (by omega)
    have h2 := h P (by omega)
    cases S P <;> simp <;> omega
theorem sumS_mul (S : Nat → Bool) (z : Int) (P : Nat) : sumS S (fun _ => z) P = z * ((outF P S).length : Int) := by
  induction P with
  | zero => simp [sumS, outF]
  | succ P ih =>
    unfold sumS
    rw [ih, outF_succ]
    cases S P
    · simp
    · simp [Int.mul_add]
/-- How many tails lie in S. -/
def tinS (S : Nat → Bool) (T : List Int) : Nat := T.countP fun t => S t.toNat
theorem tinS_sum (S : Nat → Bool) (P : Nat) : ∀ T : List Int, (∀ t ∈ T, 0 ≤ t ∧ t < (P : Int)) → sumS S (fun v => (T.count (v : Int) : Int)) P = (tinS S T : Int) := by
  intro T
  induction T with
  | nil =>
    intro _
    have : ∀ Q, sumS S (fun _ => (0 : Int)) Q = 0 := fun Q => by rw [sumS_mul]; simp
    simpa [tinS] using this P
  | cons t T ih =>
    intro h
    have ht := h t (by simp)
    have e : ∀ v : Nat, (((t :: T).count (v : Int) : Nat) : Int) = (T.count (v : Int) : Int) + if v = t.toNat then 1 else 0 := fun v => by
      rw [List.count_cons]
      by_cases c : v = t.toNat
      · subst c
        have : t = ((t.toNat : Nat) : Int) := by omega
        rw [if_pos rfl, if_pos (by rw [← this]; simp)]
        simp
      · rw [if_neg c, if_neg (by simp; omega)]
        simp
    rw [sumS_congr S _ _ P fun v _ _ => e v, sumS_add, ih fun t ht => h t (by simp [ht]), sumS_one S 1 t.toNat P (by omega)]
    unfold tinS
    rw [List.countP_cons]
    cases S t.toNat <;> simp
theorem PebS.tails {P : Nat} {k : Int} {E : List (Int × Int)} {F T : List Int} (h : PebS P k E F T) : ∀ t ∈ T, 0 ≤ t ∧ t < (P : Int) := by
  intro t ht
  obtain ⟨i, hi, rfl⟩ := List.getElem_of_mem ht
  have h1 := h.ends.tail i (by rw [← h.ends.len]; exact hi)
  have h2 := h.ends.bar i (by rw [← h.ends.len]; exact hi)
  have e : T.getD i 0 = T[i] := by simp [List.getD, List.getElem?_eq_getElem hi]
  rw [e] at h1
  unfold isEnd at h1
  omega
/-- Free pebbles and tails in S make k for each of its points. -/
theorem PebS.sum {P : Nat} {k : Int} {E : List (Int × Int)} {F T : List Int} (h : PebS P k E F T) (S : Nat → Bool) : sumS S (fun v => F.getD v 0) P + (tinS S T : Int) = k * ((outF P S).length : Int) := by
  rw [← tinS_sum S P T h.tails, ← sumS_add, ← sumS_mul]
  exact sumS_congr S _ _ P fun v hv _ => (h.free v hv).2
def spanC (S : Nat → Bool) (x : Int × Int) : Bool := S x.1.toNat && S x.2.toNat
theorem span_le (S : Nat → Bool) : ∀ (E : List (Int × Int)) (T : List Int), T.length = E.length → (∀ i, i < E.length → isEnd (E.getD i (0, 0)) (T.getD i 0)) → E.countP (spanC S) ≤ tinS S T := by
  intro E
  induction E with
  | nil => intro T _ _; simp
  | cons x E ih =>
    intro T hl h
    cases T with
    | nil => simp at hl
    | cons t T =>
      have h0 := h 0 (by simp)
      have hr := ih T (by simpa using hl) fun i hi => by have := h (i + 1) (by simpa using hi); simpa [List.getD] using this
      have h0' : isEnd x t := by simpa [List.getD] using h0
      unfold tinS at *
      rw [List.countP_cons, List.countP_cons]
      have : spanC S x = true → S t.toNat = true := fun hs => by
        unfold spanC at hs
        rw [Bool.and_eq_true] at hs
        rcases h0' with rfl | rfl
        · exact hs.1
        · exact hs.2
      cases e : spanC S x
      · simp; omega
      · rw [this e]; simp; omega
theorem span_ge (S : Nat → Bool) : ∀ (E : List (Int × Int)) (T : List Int), T.length = E.length → (∀ i, i < E.length → S (T.getD i 0).toNat = true → spanC S (E.getD i (0, 0)) = true) → tinS S T ≤ E.countP (spanC S) := by
  intro E
  induction E with
  | nil =>
    intro T hl _
    have : T = [] := List.eq_nil_of_length_eq_zero (by simpa using hl)
    subst this
    simp [tinS]
  | cons x E ih =>
    intro T hl h
    cases T with
    | nil => simp at hl
    | cons t T =>
      have h0 := h 0 (by simp)
      have hr := ih T (by simpa using hl) fun i hi => by have := h (i + 1) (by simpa using hi); simpa [List.getD] using this
      have h0' : S t.toNat = true → spanC S x = true := by simpa [List.getD] using h0
      unfold tinS at *
      rw [List.countP_cons, List.countP_cons]
      cases e : S t.toNat
      · simp; omega
      · rw [h0' e]; simp; omega

/-! The search reaches all that it can. -/
theorem scanN_closed (E : List (Int × Int)) (T : List Int) (v : Int) (q : List (Int × Nat)) : ∀ n i, i < n → T.getD i 0 = v → oth (E.getD i (0, 0)) v ∈ (scanN E T v q n).map Prod.fst := by
  intro n
  induction n with
  | zero => intro i hi; omega
  | succ n ih =>
    intro i hi ht
    have e : scanN E T v q (n + 1) = scan1 E T v (scanN E T v q n) n := rfl
    rw [e]
    by_cases c : i = n
    · subst c
      unfold scan1
      by_cases c2 : oth (E.getD i (0, 0)) v ∈ (scanN E T v q i).map Prod.fst
      · rw [if_neg (fun h => h.2 c2)]
        exact c2
      · rw [if_pos ⟨ht, c2⟩]
        simp
    · obtain ⟨r, e2⟩ := scan1_pre E T v (scanN E T v q n) n
      rw [e2, List.map_append]
      exact List.mem_append_left _ (ih i (by omega) ht)
theorem bfs_closed (E : List (Int × Int)) (T : List Int) (a : Int) : ∀ k j, j < k → j < (bfs E T a k).length → ∀ i, i < E.length → T.getD i 0 = ((bfs E T a k).getD j (0, 0)).1 → oth (E.getD i (0, 0)) (T.getD i 0) ∈ (bfs E T a k).map Prod.fst := by
  intro k
  induction k with
  | zero => intro j hj; omega
  | succ k ih =>
    intro j hj hjl i hi ht
    obtain ⟨r, e⟩ := bfs_pre1 E T a k
    by_cases c : k < (bfs E T a k).length
    · have e1 : bfs E T a (k + 1) = scanN E T ((bfs E T a k).getD k (0, 0)).1 (bfs E T a k) E.length := by rw [bfs_succ, if_pos c]
      have e2 : (bfs E T a (k + 1)).getD j (0, 0) = (bfs E T a k).getD j (0, 0) := by
        rw [e]
        simp only [List.getD]
        rw [List.getElem?_append_left (by omega)]
      rw [e2] at ht
      by_cases c2 : j = k
      · subst c2
        rw [e1, ht]
        exact scanN_closed E T _ _ _ i hi ht
      · have := ih j (by omega) (by omega) i hi ht
        rw [e, List.map_append]
        exact List.mem_append_left _ this
    · have e1 : bfs E T a (k + 1) = bfs E T a k := by rw [bfs_succ, if_neg c]
      rw [e1] at hjl ht ⊢
      exact ih j (by omega) hjl i hi ht
theorem bfsQ_closed {P : Nat} {E : List (Int × Int)} {T : List Int} {a : Int} (he : EndsQ P E T) (hP : P ≤ 8) (h0 : 0 ≤ a) (h1 : a < (P : Int)) {i : Nat} (hi : i < E.length) (hm : T.getD i 0 ∈ (bfsQ E T a).map Prod.fst) : oth (E.getD i (0, 0)) (T.getD i 0) ∈ (bfsQ E T a).map Prod.fst := by
  have hg := (bfs_good he h0 h1 (max E.length 8)).short
  obtain ⟨x, hx, e⟩ := List.mem_map.1 hm
  obtain ⟨j, hj, rfl⟩ := List.getElem_of_mem hx
  have e2 : (bfsQ E T a)[j] = (bfsQ E T a).getD j (0, 0) := by simp [List.getD, List.getElem?_eq_getElem hj]
  exact bfs_closed E T a (max E.length 8) j (by unfold bfsQ at hj; omega) hj i hi (by rw [← e, e2]; rfl)
/-- If no pebble can be brought, the points that were reached span all that they can. -/
theorem full_span {P : Nat} {k : Int} {E : List (Int × Int)} {F T : List Int} (h : PebS P k E F T) (hP : P ≤ 8) {a b : Int} (ha : 0 ≤ a ∧ a < (P : Int)) (hb : 0 ≤ b ∧ b < (P : Int)) (hab : a ≠ b) (e1 : findM E a b (F, T) = none) (e2 : findM E b a (F, T) = none) :
    ∃ S : Nat → Bool, S a.toNat = true ∧ S b.toNat = true ∧ k * ((outF P S).length : Int) = F.getD a.toNat 0 + F.getD b.toNat 0 + (E.countP (spanC S) : Int) := by
  refine ⟨fun v => decide ((v : Int) ∈ (bfsQ E T a).map Prod.fst) || decide ((v : Int) ∈ (bfsQ E T b).map Prod.fst), ?_, ?_, ?_⟩
  · obtain ⟨r, e⟩ := (bfs_good h.ends ha.1 ha.2 (max E.length 8)).start
    have : ((a.toNat : Nat) : Int) = a := by omega
    show (decide (((a.toNat : Nat) : Int) ∈ (bfsQ E T a).map Prod.fst) || decide (((a.toNat : Nat) : Int) ∈ (bfsQ E T b).map Prod.fst)) = true
    unfold bfsQ
    rw [this, e]
    simp
  · obtain ⟨r, e⟩ := (bfs_good h.ends hb.1 hb.2 (max E.length 8)).start
    have : ((b.toNat : Nat) : Int) = b := by omega
    show (decide (((b.toNat : Nat) : Int) ∈ (bfsQ E T a).map Prod.fst) || decide (((b.toNat : Nat) : Int) ∈ (bfsQ E T b).map Prod.fst)) = true
    unfold bfsQ
    rw [this, e]
    simp
  · have n1 : ∀ x ∈ bfsQ E T a, givesB F a b x = false := by
      unfold findM at e1
      rw [Option.map_eq_none_iff] at e1
      intro x hx
      have := List.find?_eq_none.1 e1 x hx
      simpa using this
    have n2 : ∀ x ∈ bfsQ E T b, givesB F b a x = false := by
      unfold findM at e2
      rw [Option.map_eq_none_iff] at e2
      intro x hx
      have := List.find?_eq_none.1 e2 x hx
      simpa using this
    have hS : ∀ v : Nat, v < P → (decide ((v : Int) ∈ (bfsQ E T a).map Prod.fst) || decide ((v : Int) ∈ (bfsQ E T b).map Prod.fst)) = true → v ≠ a.toNat → v ≠ b.toNat → F.getD v 0 = 0 := by
      intro v hv hs h1 h2
      have hf := h.free v hv
      rw [Bool.or_eq_true, decide_eq_true_eq, decide_eq_true_eq] at hs
      have go : ∀ x : Int × Nat, x.1 = (v : Int) → (givesB F a b x = false ∨ givesB F b a x = false) → F.getD v 0 = 0 := fun x hx hg => by
        unfold givesB at hg
        rw [hx] at hg
        simp only [Bool.and_eq_false_iff, decide_eq_false_iff_not, Int.toNat_natCast] at hg
        omega
      rcases hs with hs | hs
      · obtain ⟨x, hx, e⟩ := List.mem_map.1 hs
        exact go x e (.inl (n1 x hx))
      · obtain ⟨x, hx, e⟩ := List.mem_map.1 hs
        exact go x e (.inr (n2 x hx))
    have hsa : (decide (((a.toNat : Nat) : Int) ∈ (bfsQ E T a).map Prod.fst) || decide (((a.toNat : Nat) : Int) ∈ (bfsQ E T b).map Prod.fst)) = true := by
      obtain ⟨r, e⟩ := (bfs_good h.ends ha.1 ha.2 (max E.length 8)).start
      have : ((a.toNat : Nat) : Int) = a := by omega
      unfold bfsQ
      rw [this, e]
      simp
    have hsb : (decide (((b.toNat : Nat) : Int) ∈ (bfsQ E T a).map Prod.fst) || decide (((b.toNat : Nat) : Int) ∈ (bfsQ E T b).map Prod.fst)) = true := by
      obtain ⟨r, e⟩ := (bfs_good h.ends hb.1 hb.2 (max E.length 8)).start
      have : ((b.toNat : Nat) : Int) = b := by omega
      unfold bfsQ
      simp only [this, e]
      simp
    have hcl : ∀ i, i < E.length → (decide ((((T.getD i 0).toNat : Nat) : Int) ∈ (bfsQ E T a).map Prod.fst) || decide ((((T.getD i 0).toNat : Nat) : Int) ∈ (bfsQ E T b).map Prod.fst)) = true → spanC (fun v => decide ((v : Int) ∈ (bfsQ E T a).map Prod.fst) || decide ((v : Int) ∈ (bfsQ E T b).map Prod.fst)) (E.getD i (0, 0)) = true := by
      intro i hi hs
      have hbar := h.ends.bar i hi
      have htl := h.ends.tail i hi
      have ht0 : (((T.getD i 0).toNat : Nat) : Int) = T.getD i 0 := by unfold isEnd at htl; omega
      rw [ht0, Bool.or_eq_true, decide_eq_true_eq, decide_eq_true_eq] at hs
      have both : ∀ Q : List Int, T.getD i 0 ∈ Q → oth (E.getD i (0, 0)) (T.getD i 0) ∈ Q → (E.getD i (0, 0)).1 ∈ Q ∧ (E.getD i (0, 0)).2 ∈ Q := fun Q q1 q2 => by
        rcases htl with e | e
        · have : oth (E.getD i (0, 0)) (T.getD i 0) = (E.getD i (0, 0)).2 := by unfold oth; omega
          rw [this] at q2
          rw [e] at q1
          exact ⟨q1, q2⟩
        · have : oth (E.getD i (0, 0)) (T.getD i 0) = (E.getD i (0, 0)).1 := by unfold oth; omega
          rw [this] at q2
          rw [e] at q1
          exact ⟨q2, q1⟩
      have c1 : (((E.getD i (0, 0)).1.toNat : Nat) : Int) = (E.getD i (0, 0)).1 := by omega
      have c2 : (((E.getD i (0, 0)).2.toNat : Nat) : Int) = (E.getD i (0, 0)).2 := by omega
      unfold spanC
      simp only [c1, c2, Bool.and_eq_true, Bool.or_eq_true, decide_eq_true_eq]
      rcases hs with hs | hs
      · have := both _ hs (bfsQ_closed h.ends hP ha.1 ha.2 hi hs)
        exact ⟨.inl this.1, .inl this.2⟩
      · have := both _ hs (bfsQ_closed h.ends hP hb.1 hb.2 hi hs)
        exact ⟨.inr this.1, .inr this.2⟩
    generalize hSS : (fun v : Nat => decide ((v : Int) ∈ (bfsQ E T a).map Prod.fst) || decide ((v : Int) ∈ (bfsQ E T b).map Prod.fst)) = S at *
    have hS' : ∀ v, S v = (decide ((v : Int) ∈ (bfsQ E T a).map Prod.fst) || decide ((v : Int) ∈ (bfsQ E T b).map Prod.fst)) := fun v => by rw [← hSS]
    have hsum := h.sum S
    have hle := span_le S E T h.ends.len h.ends.tail
    have hge := span_ge S E T h.ends.len fun i hi hs => hcl i hi (by rw [← hS']; exact hs)
    have hF : sumS S (fun v => F.getD v 0) P = F.getD a.toNat 0 + F.getD b.toNat 0 := by
      have e : ∀ v, v < P → S v = true → F.getD v 0 = (if v = a.toNat then F.getD a.toNat 0 else 0) + (if v = b.toNat then F.getD b.toNat 0 else 0) := fun v hv hs => by
        by_cases c1 : v = a.toNat
        · subst c1
          rw [if_pos rfl, if_neg (by omega)]
          omega
        · by_cases c2 : v = b.toNat
          · subst c2
            rw [if_neg c1, if_pos rfl]
            omega
          · rw [if_neg c1, if_neg c2, hS v hv (by rw [← hS']; exact hs) c1 c2]
            rfl
      rw [sumS_congr S _ _ P e, sumS_add, sumS_one S _ a.toNat P (by omega), sumS_one S _ b.toNat P (by omega), hS', hS', hsa, hsb]
      rfl
    rw [hF] at hsum
    omega
theorem gath_no {P : Nat} {k : Int} {E : List (Int × Int)} {a b want : Int} (ha : 0 ≤ a ∧ a < (P : Int)) (hb : 0 ≤ b ∧ b < (P : Int)) (hab : a ≠ b) : ∀ f (s : List Int × List Int), PebS P k E s.1 s.2 → (want - (s.1.getD a.toNat 0 + s.1.getD b.toNat 0)).toNat < f → gath E a b want f s = none →
    ∃ s' : List Int × List Int, PebS P k E s'.1 s'.2 ∧ s'.1.getD a.toNat 0 + s'.1.getD b.toNat 0 < want ∧ findM E a b s' = none ∧ findM E b a s' = none := by
  intro f
  induction f with
  | zero => intro s _ hf; omega
  | succ f ih =>
    intro s h hf e
    unfold gath at e
    by_cases c : s.1.getD a.toNat 0 + s.1.getD b.toNat 0 < want
    · rw [if_pos c] at e
      cases e1 : findM E a b s with
      | some s1 =>
        rw [e1] at e
        have h1 := findM_ok h ha hab hb.1 e1
        exact ih s1 h1.1 (by rw [h1.2.1, h1.2.2]; omega) e
      | none =>
        rw [e1] at e
        cases e2 : findM E b a s with
        | some s1 =>
          rw [e2] at e
          have h1 := findM_ok h hb (Ne.symm hab) ha.1 e2
          exact ih s1 h1.1 (by rw [h1.2.1, h1.2.2]; omega) e
        | none => exact ⟨s, h, c, e1, e2⟩
    · rw [if_neg c] at e
      cases e
theorem mask_of (S : Nat → Bool) (P : Nat) : ∃ m, m < 2 ^ P ∧ ∀ v, v < P → m.testBit v = S v := by
  induction P with
  | zero => exact ⟨0, by simp, fun v hv => by omega⟩
  | succ P ih =>
    obtain ⟨m, h1, h2⟩ := ih
    cases e : S P
    · refine ⟨m, by rw [Nat.pow_succ]; omega, fun v hv => ?_⟩
      by_cases c : v = P
      · subst c
        rw [e]
        exact Nat.testBit_lt_two_pow h1
      · exact h2 v (by omega)
    · refine ⟨m ||| 2 ^ P, Nat.or_lt_two_pow (by rw [Nat.pow_succ]; omega) (Nat.pow_lt_pow_right (by decide) (by omega)), fun v hv => ?_⟩
      rw [Nat.testBit_or]
      by_cases c : v = P
      · subst c
        rw [e, Nat.testBit_two_pow_self, Bool.or_true]
      · rw [h2 v (by omega), Nat.testBit_two_pow]
        have : ¬ P = v := fun h => c h.symm
        simp [this]
theorem outF_mask {P : Nat} {S : Nat → Bool} {m : Nat} (h : ∀ v, v < P → m.testBit v = S v) : outF P S = setL P m := outF_agree P _ _ fun v hv => (h v hv).symm
theorem spanC_mask {P : Nat} {S : Nat → Bool} {m : Nat} (h : ∀ v, v < P → m.testBit v = S v) {E : List (Int × Int)} (hE : ∀ x ∈ E, 0 ≤ x.1 ∧ x.1 < x.2 ∧ x.2 < (P : Int)) : E.countP (spanC S) = cntS E m := by
  unfold cntS
  refine List.countP_congr fun x hx => ?_
  have := hE x hx
  unfold spanC bothB
  rw [h _ (by omega), h _ (by omega)]
end Go.Proofs.Ytggibhhdnlifcaa
