/- The pebble game on lists: what a move keeps, gathering, placing, the whole game. No program. No condition. -/
import Derived.Test.YtcfgljfpkhefmaaPebM
namespace Go.Proofs.Ytcfgljfpkhefmaa

/-- A queue, or what stands in front in one. -/
def PathQ (P : Nat) (E : List (Int × Int)) (T : List Int) (a : Int) (q : List (Int × Nat)) : Prop :=
  (∃ s, q = (a, 0) :: s) ∧ ∀ q1 x q2, q = q1 ++ x :: q2 → q1 ≠ [] → x.1 ∉ q1.map Prod.fst ∧ x.2 < E.length ∧ T.getD x.2 0 = oth (E.getD x.2 (0, 0)) x.1 ∧ T.getD x.2 0 ∈ q1.map Prod.fst ∧ 0 ≤ x.1 ∧ x.1 < (P : Int)
theorem GoodQ.path {P : Nat} {E : List (Int × Int)} {T : List Int} {a : Int} {q : List (Int × Nat)} (h : GoodQ P E T a q) : PathQ P E T a q := ⟨h.start, h.step⟩
theorem PathQ.pre {P : Nat} {E : List (Int × Int)} {T : List Int} {a : Int} {q r : List (Int × Nat)} (h : PathQ P E T a (q ++ r)) (hne : q ≠ []) : PathQ P E T a q := by
  refine ⟨?_, fun q1 x q2 e hn => h.2 q1 x (q2 ++ r) (by rw [e]; simp) hn⟩
  obtain ⟨s, e⟩ := h.1
  cases q with
  | nil => exact absurd rfl hne
  | cons y t =>
    rw [List.cons_append] at e
    cases e
    exact ⟨t, rfl⟩
theorem PathQ.nodup {P : Nat} {E : List (Int × Int)} {T : List Int} {a : Int} {q : List (Int × Nat)} (h : PathQ P E T a q) {q1 q2 : List (Int × Nat)} {x : Int × Nat} (e : q = q1 ++ x :: q2) : x.1 ∉ q2.map Prod.fst := by
  intro hm
  obtain ⟨y, hy, e1⟩ := List.mem_map.1 hm
  obtain ⟨q3, q4, rfl⟩ := List.append_of_mem hy
  have := (h.2 (q1 ++ x :: q3) y q4 (by rw [e]; simp) (by simp)).1
  rw [e1] at this
  exact this (by simp)
/-- A point of the queue that is not its first. -/
theorem PathQ.at {P : Nat} {E : List (Int × Int)} {T : List Int} {a t : Int} {q : List (Int × Nat)} (h : PathQ P E T a q) (ht : t ∈ q.map Prod.fst) (ha : t ≠ a) :
    ∃ i q1 q2, q = q1 ++ (t, i) :: q2 ∧ t ∉ q2.map Prod.fst ∧ t ∉ q1.map Prod.fst ∧ i < E.length ∧ T.getD i 0 = oth (E.getD i (0, 0)) t ∧ oth (E.getD i (0, 0)) t ∈ q1.map Prod.fst ∧ 0 ≤ t ∧ t < (P : Int) ∧ PathQ P E T a q1 := by
  obtain ⟨x, hx, e1⟩ := List.mem_map.1 ht
  obtain ⟨q1, q2, rfl⟩ := List.append_of_mem hx
  obtain ⟨v, i⟩ := x
  simp only at e1
  subst e1
  have hne : q1 ≠ [] := by
    rintro rfl
    obtain ⟨s, e⟩ := h.1
    cases e
    exact ha rfl
  have hs := h.2 q1 (v, i) q2 rfl hne
  exact ⟨i, q1, q2, rfl, h.nodup rfl, hs.1, hs.2.1, hs.2.2.1, hs.2.2.1 ▸ hs.2.2.2.1, hs.2.2.2.2.1, hs.2.2.2.2.2, PathQ.pre h hne⟩
/-- A bar that was turned is not met again. -/
theorem PathQ.other {P : Nat} {E : List (Int × Int)} {T : List Int} {a t : Int} {q : List (Int × Nat)} (h : PathQ P E T a q) (ht : t ∉ q.map Prod.fst) {i : Nat} (hi : T.getD i 0 = oth (E.getD i (0, 0)) t) {x : Int × Nat} (hx : x ∈ q) (hxa : x.1 ≠ a) : x.2 ≠ i := by
  intro e
  obtain ⟨j, q1, q2, e1, _, _, _, h4, _⟩ := h.at (List.mem_map_of_mem hx) hxa
  obtain ⟨q3, q4, e2⟩ := List.append_of_mem hx
  have hne : q3 ≠ [] := by
    rintro rfl
    obtain ⟨s, e⟩ := h.1
    rw [e2] at e
    cases e
    exact hxa rfl
  have h5 := (h.2 q3 x q4 e2 hne).2.2.1
  rw [e, hi] at h5
  have : t = x.1 := by rw [← oth_oth (E.getD i (0, 0)) t, h5, oth_oth]
  exact ht (this ▸ List.mem_map_of_mem hx)
theorem set_getD_ne {α : Type} (l : List α) (i j : Nat) (x z : α) (h : j ≠ i) : (l.set i x).getD j z = l.getD j z := by
  simp only [List.getD]
  rw [List.getElem?_set_ne (by omega)]
theorem set_getD_eq {α : Type} (l : List α) (i : Nat) (x z : α) (h : i < l.length) : (l.set i x).getD i z = x := by
  simp [List.getD, h]
theorem cnt_set (T : List Int) (i : Nat) (hi : i < T.length) (t v : Int) : (T.set i t).count v + (if v = T.getD i 0 then 1 else 0) = T.count v + if v = t then 1 else 0 := by
  have e : T.getD i 0 = T[i] := by simp [List.getD, List.getElem?_eq_getElem hi]
  rw [e, List.count_set hi]
  have hp : T[i] = v → 0 < T.count v := fun h => List.count_pos_iff.2 (h ▸ List.getElem_mem hi)
  by_cases h1 : v = T[i]
  · have := hp h1.symm
    by_cases h2 : v = t
    · simp [← h1, ← h2]; omega
    · have h2' : ¬ t = v := fun h => h2 h.symm
      simp [← h1, h2, h2']; omega
  · have h1' : ¬ T[i] = v := fun h => h1 h.symm
    by_cases h2 : v = t
    · subst h2; simp [h1, h1']
    · have h2' : ¬ t = v := fun h => h2 h.symm
      simp [h1, h1', h2, h2']
/-- What the turning of a path keeps. -/
theorem turn_facts {P : Nat} {E : List (Int × Int)} {T0 : List Int} {a : Int} : ∀ n (q : List (Int × Nat)), q.length ≤ n → PathQ P E T0 a q → ∀ t, t ∈ q.map Prod.fst → ∀ T : List Int, EndsQ P E T → (∀ x ∈ q, x.1 ≠ a → T.getD x.2 0 = T0.getD x.2 0) →
    EndsQ P E (turnQ E a q.reverse t T) ∧ ∀ v, (turnQ E a q.reverse t T).count v + (if v = a then 1 else 0) = T.count v + if v = t then 1 else 0 := by
  intro n
  induction n with
  | zero =>
    intro q hq hp
    obtain ⟨s, e⟩ := hp.1
    rw [e] at hq
    simp at hq
  | succ n ih =>
    intro q hq hp t ht T he hT
    by_cases ha : t = a
    · subst ha
      rw [turnQ_a]
      exact ⟨he, fun v => rfl⟩
    · obtain ⟨i, q1, q2, rfl, h1, h2, h3, h4, h5, h6, h7, h8⟩ := hp.at ht ha
      rw [turnQ_step E a t i q1 q2 T h1 ha]
      have hTi : T.getD i 0 = oth (E.getD i (0, 0)) t := (hT (t, i) (by simp) ha).trans h4
      have hi : i < T.length := by rw [he.len]; exact h3
      have he' : EndsQ P E (T.set i t) := by
        refine ⟨by rw [List.length_set]; exact he.len, he.bar, fun j hj => ?_⟩
        by_cases e : j = i
        · subst e
          rw [set_getD_eq _ _ _ _ hi]
          have := he.tail j hj
          rw [hTi] at this
          have := oth_end this
          rwa [oth_oth] at this
        · rw [set_getD_ne _ _ _ _ _ e]
          exact he.tail j hj
      have hT' : ∀ x ∈ q1, x.1 ≠ a → (T.set i t).getD x.2 0 = T0.getD x.2 0 := fun x hx hxa => by
        rw [set_getD_ne _ _ _ _ _ (h8.other h2 h4 hx hxa)]
        exact hT x (List.mem_append_left _ hx) hxa
      obtain ⟨g1, g2⟩ := ih q1 (by simp at hq; omega) h8 _ h5 (T.set i t) he' hT'
      refine ⟨g1, fun v => ?_⟩
      have e1 := g2 v
      have e2 := cnt_set T i hi t v
      rw [hTi] at e2
      omega

/-- A pebble goes from u to a. -/
def movF (F : List Int) (a u : Int) : List Int := (F.set u.toNat (F.getD u.toNat 0 - 1)).set a.toNat (F.getD a.toNat 0 + 1)
theorem movF_len (F : List Int) (a u : Int) : (movF F a u).length = F.length := by simp [movF]
theorem movF_a (F : List Int) (a u : Int) (h : a.toNat < F.length) : (movF F a u).getD a.toNat 0 = F.getD a.toNat 0 + 1 := by
  unfold movF
  exact set_getD_eq _ _ _ _ (by simpa using h)
theorem movF_u (F : List Int) (a u : Int) (h : u.toNat < F.length) (hne : u.toNat ≠ a.toNat) : (movF F a u).getD u.toNat 0 = F.getD u.toNat 0 - 1 := by
  unfold movF
  rw [set_getD_ne _ _ _ _ _ hne]
  exact set_getD_eq _ _ _ _ h
theorem movF_ne (F : List Int) (a u : Int) (v : Nat) (h1 : v ≠ u.toNat) (h2 : v ≠ a.toNat) : (movF F a u).getD v 0 = F.getD v 0 := by
  unfold movF
  rw [set_getD_ne _ _ _ _ _ h2, set_getD_ne _ _ _ _ _ h1]

/-- A state in order: free pebbles and tails make k at each point. -/
structure PebS (P : Nat) (k : Int) (E : List (Int × Int)) (F T : List Int) : Prop where
  flen : F.length = P
  ends : EndsQ P E T
  free : ∀ v : Nat, v < P → 0 ≤ F.getD v 0 ∧ F.getD v 0 + (T.count (v : Int) : Int) = k
/-- One pebble is brought to a, none from b. -/
def findM (E : List (Int × Int)) (a b : Int) (s : List Int × List Int) : Option (List Int × List Int) :=
  ((bfsQ E s.2 a).find? (givesB s.1 a b)).map fun x => (movF s.1 a x.1, turnQ E a (bfsQ E s.2 a).reverse x.1 s.2)
theorem findM_ok {P : Nat} {k : Int} {E : List (Int × Int)} {F T : List Int} (h : PebS P k E F T) {a b : Int} (ha : 0 ≤ a ∧ a < (P : Int)) (hab : a ≠ b) (hb : 0 ≤ b) {s : List Int × List Int} (e : findM E a b (F, T) = some s) :
    PebS P k E s.1 s.2 ∧ s.1.getD a.toNat 0 = F.getD a.toNat 0 + 1 ∧ s.1.getD b.toNat 0 = F.getD b.toNat 0 := by
  unfold findM at e
  obtain ⟨x, hx, rfl⟩ := Option.map_eq_some_iff.1 e
  have hg := List.find?_some hx
  have hm := List.mem_of_find?_eq_some hx
  unfold givesB at hg
  simp only [Bool.and_eq_true, decide_eq_true_eq] at hg
  obtain ⟨⟨g1, g2⟩, g3⟩ := hg
  have hgood := bfs_good h.ends ha.1 ha.2 (max E.length 8)
  have hp : PathQ P E T a (bfsQ E T a) := hgood.path
  obtain ⟨i, q1, q2, _, _, _, _, _, _, h6, h7, _⟩ := hp.at (List.mem_map_of_mem hm) g1
  obtain ⟨t1, t2⟩ := turn_facts (bfsQ E T a).length _ (Nat.le_refl _) hp _ (List.mem_map_of_mem hm) T h.ends fun _ _ _ => rfl
  have hu : x.1.toNat < F.length := by rw [h.flen]; omega
  have hal : a.toNat < F.length := by rw [h.flen]; omega
  have hne : x.1.toNat ≠ a.toNat := by omega
  refine ⟨⟨by rw [movF_len]; exact h.flen, t1, fun v hv => ?_⟩, movF_a F a x.1 hal, ?_⟩
  · have hc := t2 (v : Int)
    have hf := h.free v hv
    show 0 ≤ (movF F a x.1).getD v 0 ∧ (movF F a x.1).getD v 0 + ((turnQ E a (bfsQ E T a).reverse x.1 T).count (v : Int) : Int) = k
    have g3' : 0 < F.getD x.1.toNat 0 := g3
    by_cases c1 : v = a.toNat
    · subst c1
      rw [movF_a F a x.1 hal]
      have e1 : ((a.toNat : Nat) : Int) = a := by omega
      rw [e1] at hc hf ⊢
      rw [if_pos rfl, if_neg (fun hh => g1 hh.symm)] at hc
      omega
    · by_cases c2 : v = x.1.toNat
      · subst c2
        rw [movF_u F a x.1 hu hne]
        have e1 : ((x.1.toNat : Nat) : Int) = x.1 := by omega
        rw [e1] at hc hf ⊢
        rw [if_neg g1, if_pos rfl] at hc
        omega
      · rw [movF_ne F a x.1 v c2 c1]
        rw [if_neg (by omega), if_neg (by omega)] at hc
        omega
  · exact movF_ne F a x.1 b.toNat (by omega) (by omega)

/-- Gathering, with the steps counted. -/
def gath (E : List (Int × Int)) (a b want : Int) : Nat → List Int × List Int → Option (List Int × List Int)
  | 0, _ => none
  | f + 1, s =>
    if s.1.getD a.toNat 0 + s.1.getD b.toNat 0 < want then
      match findM E a b s with
      | some s' => gath E a b want f s'
      | none =>
        match findM E b a s with
        | some s' => gath E a b want f s'
        | none => none
    else some s
def gathR (E : List (Int × Int)) (a b want : Int) (s : List Int × List Int) : Option (List Int × List Int) :=
  gath E a b want ((want - (s.1.getD a.toNat 0 + s.1.getD b.toNat 0)).toNat + 1) s
theorem gathR_done {E : List (Int × Int)} {a b want : Int} {s : List Int × List Int} (h : ¬ s.1.getD a.toNat 0 + s.1.getD b.toNat 0 < want) : gathR E a b want s = some s := by
  unfold gathR gath
  rw [if_neg h]
theorem gathR_one {E : List (Int × Int)} {a b want : Int} {s s' : List Int × List Int} (h : s.1.getD a.toNat 0 + s.1.getD b.toNat 0 < want) (e : findM E a b s = some s') (hs : s'.1.getD a.toNat 0 + s'.1.getD b.toNat 0 = s.1.getD a.toNat 0 + s.1.getD b.toNat 0 + 1) :
    gathR E a b want s = gathR E a b want s' := by
  conv => lhs; unfold gathR gath
  rw [if_pos h, e]
  unfold gathR
  rw [hs, show (want - (s.1.getD a.toNat 0 + s.1.getD b.toNat 0)).toNat = (want - (s.1.getD a.toNat 0 + s.1.getD b.toNat 0 + 1)).toNat + 1 by omega]
theorem gathR_two {E : List (Int × Int)} {a b want : Int} {s s' : List Int × List Int} (h : s.1.getD a.toNat 0 + s.1.getD b.toNat 0 < want) (e0 : findM E a b s = none) (e : findM E b a s = some s') (hs : s'.1.getD a.toNat 0 + s'.1.getD b.toNat 0 = s.1.getD a.toNat 0 + s.1.getD b.toNat 0 + 1) :
    gathR E a b want s = gathR E a b want s' := by
  conv => lhs; unfold gathR gath
  rw [if_pos h, e0, e]
  unfold gathR
  rw [hs, show (want - (s.1.getD a.toNat 0 + s.1.getD b.toNat 0)).toNat = (want - (s.1.getD a.toNat 0 + s.1.getD b.toNat 0 + 1)).toNat + 1 by omega]
theorem gathR_no {E : List (Int × Int)} {a b want : Int} {s : List Int × List Int} (h : s.1.getD a.toNat 0 + s.1.getD b.toNat 0 < want) (e0 : findM E a b s = none) (e : findM E b a s = none) : gathR E a b want s = none := by
  unfold gathR gath
  rw [if_pos h, e0, e]
theorem gath_ok {P : Nat} {k : Int} {E : List (Int × Int)} {a b want : Int} (ha : 0 ≤ a ∧ a < (P : Int)) (hb : 0 ≤ b ∧ b < (P : Int)) (hab : a ≠ b) : ∀ f (s s' : List Int × List Int), PebS P k E s.1 s.2 → gath E a b want f s = some s' → PebS P k E s'.1 s'.2 ∧ want ≤ s'.1.getD a.toNat 0 + s'.1.getD b.toNat 0 := by
  intro f
  induction f with
  | zero => intro s s' _ e; cases e
  | succ f ih =>
    intro s s' h e
    unfold gath at e
    by_cases c : s.1.getD a.toNat 0 + s.1.getD b.toNat 0 < want
    · rw [if_pos c] at e
      cases e1 : findM E a b s with
      | some s1 =>
        rw [e1] at e
        exact ih s1 s' (findM_ok h ha hab hb.1 e1).1 e
      | none =>
        rw [e1] at e
        cases e2 : findM E b a s with
        | some s1 =>
          rw [e2] at e
          exact ih s1 s' (findM_ok h hb (Ne.symm hab) ha.1 e2).1 e
        | none => rw [e2] at e; cases e
    · rw [if_neg c] at e
      cases e
      exact ⟨h, by omega⟩
theorem gathR_ok {P : Nat} {k : Int} {E : List (Int × Int)} {a b want : Int} (ha : 0 ≤ a ∧ a < (P : Int)) (hb : 0 ≤ b ∧ b < (P : Int)) (hab : a ≠ b) {s s' : List Int × List Int} (h : PebS P k E s.1 s.2) (e : gathR E a b want s = some s') : PebS P k E s'.1 s'.2 ∧ want ≤ s'.1.getD a.toNat 0 + s'.1.getD b.toNat 0 := gath_ok ha hb hab _ s s' h e
/-- The free pebbles of a state in order are few. -/
theorem PebS.small {P : Nat} {k : Int} {E : List (Int × Int)} {F T : List Int} (h : PebS P k E F T) {v : Int} (hv : 0 ≤ v ∧ v < (P : Int)) : 0 ≤ F.getD v.toNat 0 ∧ F.getD v.toNat 0 ≤ k := by
  have := h.free v.toNat (by omega)
  omega

/-- The bars that were placed. -/
def plE (l : List (Int × Int)) (Z : List Int) : List (Int × Int) := Z.map fun b => l.getD b.toNat (0, 0)
theorem plE_len (l : List (Int × Int)) (Z : List Int) : (plE l Z).length = Z.length := by simp [plE]
theorem plE_get (l : List (Int × Int)) (Z : List Int) (i : Nat) (h : i < Z.length) : (plE l Z).getD i (0, 0) = l.getD (Z.getD i 0).toNat (0, 0) := by
  simp [plE, List.getD, List.getElem?_eq_getElem h]
/-- A state of the game on a graph. -/
def IsPeb (p k : Int) (l : List (Int × Int)) (F T Z : List Int) : Prop :=
  IsG p l ∧ (1 ≤ k ∧ k ≤ 3) ∧ (F.length : Int) = p ∧ T.length = Z.length ∧
  (∀ i, i < Z.length → (0 ≤ Z.getD i 0 ∧ Z.getD i 0 < (l.length : Int)) ∧ (0 < i → Z.getD (i - 1) 0 < Z.getD i 0) ∧ isEnd (l.getD (Z.getD i 0).toNat (0, 0)) (T.getD i 0)) ∧
  ∀ v : Nat, v < F.length → 0 ≤ F.getD v 0 ∧ F.getD v 0 + (T.count (v : Int) : Int) = k
open Classical in
noncomputable def isPebB (p k : Int) (l : List (Int × Int)) (F T Z : List Int) : Bool := if IsPeb p k l F T Z then true else false
theorem isPebB_yes {p k : Int} {l : List (Int × Int)} {F T Z : List Int} (h : IsPeb p k l F T Z) : isPebB p k l F T Z = true := by unfold isPebB; rw [if_pos h]
theorem isPebB_no {p k : Int} {l : List (Int × Int)} {F T Z : List Int} (h : ¬ IsPeb p k l F T Z) : isPebB p k l F T Z = false := by unfold isPebB; rw [if_neg h]
theorem isPebB_is {p k : Int} {l : List (Int × Int)} {F T Z : List Int} (h : isPebB p k l F T Z = true) : IsPeb p k l F T Z := Classical.byContradiction fun g => by rw [isPebB_no g] at h; cases h
theorem IsPeb.state {p k : Int} {l : List (Int × Int)} {F T Z : List Int} (h : IsPeb p k l F T Z) : PebS F.length k (plE l Z) F T := by
  obtain ⟨h1, _, h3, h4, h5, h6⟩ := h
  refine ⟨rfl, ⟨by rw [plE_len]; exact h4, fun i hi => ?_, fun i hi => ?_⟩, h6⟩
  · rw [plE_len] at hi
    rw [plE_get _ _ _ hi, h3]
    have := h5 i hi
    have hb := h1.2.2 (Z.getD i 0).toNat (by omega)
    exact ⟨hb.1, hb.2.1, hb.2.2.1⟩
  · rw [plE_len] at hi
    rw [plE_get _ _ _ hi]
    exact (h5 i hi).2.2
theorem IsPeb.of {p k : Int} {l : List (Int × Int)} {F T Z F' T' : List Int} (h : IsPeb p k l F T Z) (hs : PebS F.length k (plE l Z) F' T') : IsPeb p k l F' T' Z := by
  obtain ⟨h1, h2, h3, h4, h5, _⟩ := h
  refine ⟨h1, h2, by rw [hs.flen]; exact h3, by rw [hs.ends.len, plE_len], fun i hi => ⟨(h5 i hi).1, (h5 i hi).2.1, ?_⟩, fun v hv => hs.free v (by rw [← hs.flen]; exact hv)⟩
  have := hs.ends.tail i (by rw [plE_len]; exact hi)
  rwa [plE_get _ _ _ hi] at this
/-- The last bar that was placed stands before all others. -/
theorem IsPeb.last {p k : Int} {l : List (Int × Int)} {F T Z : List Int} (h : IsPeb p k l F T Z) : ∀ i j, i ≤ j → j < Z.length → Z.getD i 0 ≤ Z.getD j 0 := by
  intro i j hij
  induction j with
  | zero => intro _; obtain rfl : i = 0 := by omega
            exact Int.le_refl _
  | succ j ih =>
    intro hj
    by_cases e : i = j + 1
    · subst e; exact Int.le_refl _
    · have h1 := ih (by omega) (by omega)
      have h2 := (h.2.2.2.2.1 (j + 1) hj).2.1 (by omega)
      rw [show j + 1 - 1 = j by omega] at h2
      omega

/-- What GatherPebbles answers. -/
noncomputable def gatV (p k : Int) (l : List (Int × Int)) (F T Z : List Int) (a b want : Int) : Option (List Int × List Int) :=
  if isPebB p k l F T Z = true ∧ (0 ≤ a ∧ a < p) ∧ (0 ≤ b ∧ b < p) ∧ a ≠ b ∧ 0 ≤ want ∧ want ≤ 2 * k then gathR (plE l Z) a b want (F, T) else none
/-- A bar is placed, if its ends can have enough pebbles. -/
def plaR (l : List (Int × Int)) (c : Int) (F T Z : List Int) (n : Int) : Option (List Int × List Int × List Int) :=
  (gathR (plE l Z) (l.getD n.toNat (0, 0)).1 (l.getD n.toNat (0, 0)).2 (c + 1) (F, T)).map fun s =>
    if s.1.getD (l.getD n.toNat (0, 0)).1.toNat 0 = 0 then (s.1.set (l.getD n.toNat (0, 0)).2.toNat (s.1.getD (l.getD n.toNat (0, 0)).2.toNat 0 - 1), s.2 ++ [(l.getD n.toNat (0, 0)).2], Z ++ [n])
    else (s.1.set (l.getD n.toNat (0, 0)).1.toNat (s.1.getD (l.getD n.toNat (0, 0)).1.toNat 0 - 1), s.2 ++ [(l.getD n.toNat (0, 0)).1], Z ++ [n])
/-- What PlaceBar answers. -/
noncomputable def plaV (p k c : Int) (l : List (Int × Int)) (F T Z : List Int) (n : Int) : Option (List Int × List Int × List Int) :=
  if isPebB p k l F T Z = true ∧ rangeB k c = true ∧ (0 ≤ n ∧ n < (l.length : Int)) ∧ (Z ≠ [] → Z.getD (Z.length - 1) 0 < n) then plaR l c F T Z n else none
theorem isPeb_push {p k : Int} {l : List (Int × Int)} {F T Z : List Int} (h : IsPeb p k l F T Z) {n : Int} (hn : 0 ≤ n ∧ n < (l.length : Int)) (hlast : Z ≠ [] → Z.getD (Z.length - 1) 0 < n) {t : Int} (ht : isEnd (l.getD n.toNat (0, 0)) t) (hf : 0 < F.getD t.toNat 0) :
    IsPeb p k l (F.set t.toNat (F.getD t.toNat 0 - 1)) (T ++ [t]) (Z ++ [n]) := by
  obtain ⟨h1, h2, h3, h4, h5, h6⟩ := h
  have hb := h1.2.2 n.toNat (by omega)
  have htr : 0 ≤ t ∧ t < p := by unfold OkBar at hb; unfold isEnd at ht; omega
  refine ⟨h1, h2, by rw [List.length_set]; exact h3, by simp [h4], fun i hi => ?_, fun v hv => ?_⟩
  · rw [List.length_append, List.length_cons, List.length_nil] at hi
    by_cases e : i = Z.length
    · subst e
      have e1 : (Z ++ [n]).getD Z.length 0 = n := by simp [List.getD]
      have e2 : (T ++ [t]).getD Z.length 0 = t := by rw [← h4]; simp [List.getD]
      rw [e1, e2]
      refine ⟨hn, fun h0 => ?_, ht⟩
      have e3 : (Z ++ [n]).getD (Z.length - 1) 0 = Z.getD (Z.length - 1) 0 := by
        simp only [List.getD]
        rw [List.getElem?_append_left (by omega)]
      rw [e3]
      exact hlast (by rintro rfl; simp at h0)
    · have hi' : i < Z.length := by omega
      have e1 : (Z ++ [n]).getD i 0 = Z.getD i 0 := by simp only [List.getD]; rw [List.getElem?_append_left hi']
      have e2 : (T ++ [t]).getD i 0 = T.getD i 0 := by simp only [List.getD]; rw [List.getElem?_append_left (by omega)]
      have e3 : (Z ++ [n]).getD (i - 1) 0 = Z.getD (i - 1) 0 := by simp only [List.getD]; rw [List.getElem?_append_left (by omega)]
      rw [e1, e2, e3]
      exact h5 i hi'
  · rw [List.length_set] at hv
    have hc := h6 v hv
    rw [List.count_append, List.count_singleton]
    by_cases e : v = t.toNat
    · subst e
      have e1 : ((t.toNat : Nat) : Int) = t := by omega
      rw [set_getD_eq _ _ _ _ hv]
      rw [e1] at hc ⊢
      have e4 : (t == t) = true := by simp
      rw [if_pos e4]
      constructor
      · omega
      · rw [Int.natCast_add]
        omega
    · rw [set_getD_ne _ _ _ _ _ e]
      have e4 : ¬ ((t == (v : Int)) = true) := by simp; omega
      rw [if_neg e4]
      exact hc
theorem plaR_ok {p k c : Int} {l : List (Int × Int)} {F T Z : List Int} (h : IsPeb p k l F T Z) (hc : 0 ≤ c) {n : Int} (hn : 0 ≤ n ∧ n < (l.length : Int)) (hlast : Z ≠ [] → Z.getD (Z.length - 1) 0 < n) {s : List Int × List Int × List Int} (e : plaR l c F T Z n = some s) :
    IsPeb p k l s.1 s.2.1 s.2.2 ∧ s.2.2 = Z ++ [n] := by
  unfold plaR at e
  obtain ⟨s1, h1, rfl⟩ := Option.map_eq_some_iff.1 e
  have hb := h.1.2.2 n.toNat (by omega)
  have hp := h.2.2.1
  obtain ⟨g1, g2⟩ := gathR_ok (P := F.length) (k := k) (by rw [hp]; unfold OkBar at hb; omega) (by rw [hp]; unfold OkBar at hb; omega) (by unfold OkBar at hb; omega) (by exact h.state) h1
  have hi := h.of g1
  split
  · rename_i h0
    exact ⟨isPeb_push hi hn hlast (.inr rfl) (by omega), rfl⟩
  · rename_i h0
    have := hi.state.small (v := (l.getD n.toNat (0, 0)).1) (by rw [hi.2.2.1]; unfold OkBar at hb; omega)
    exact ⟨isPeb_push hi hn hlast (.inl rfl) (by omega), rfl⟩
/-- The game after n bars. -/
def runN (P : Nat) (k c : Int) (l : List (Int × Int)) : Nat → List Int × List Int × List Int
  | 0 => (List.replicate P k, [], [])
  | n + 1 => (plaR l c (runN P k c l n).1 (runN P k c l n).2.1 (runN P k c l n).2.2 (n : Int)).getD (runN P k c l n)
theorem runN_ok {P : Nat} {k c : Int} {l : List (Int × Int)} (hG : IsG (P : Int) l) (hk : 1 ≤ k ∧ k ≤ 3) (hc : 0 ≤ c) : ∀ n, n ≤ l.length → IsPeb (P : Int) k l (runN P k c l n).1 (runN P k c l n).2.1 (runN P k c l n).2.2 ∧ (runN P k c l n).2.2.length ≤ n ∧ ((runN P k c l n).2.2 ≠ [] → (runN P k c l n).2.2.getD ((runN P k c l n).2.2.length - 1) 0 < (n : Int)) := by
  intro n
  induction n with
  | zero =>
    intro _
    refine ⟨⟨hG, hk, by simp [runN], rfl, fun i hi => absurd hi (by simp [runN]), fun v hv => ?_⟩, Nat.le_refl _, fun h => absurd rfl h⟩
    have : v < P := by simpa [runN] using hv
    simp [runN, List.getD, this]
    omega
  | succ n ih =>
    intro hn
    obtain ⟨h1, h2, h3⟩ := ih (by omega)
    unfold runN
    cases e : plaR l c (runN P k c l n).1 (runN P k c l n).2.1 (runN P k c l n).2.2 (n : Int) with
    | none =>
      simp only [Option.getD_none]
      exact ⟨h1, by omega, fun h => by have := h3 h; omega⟩
    | some s =>
      simp only [Option.getD_some]
      obtain ⟨g1, g2⟩ := plaR_ok h1 hc (n := (n : Int)) (by omega) h3 e
      refine ⟨g1, by rw [g2]; simp; omega, fun _ => ?_⟩
      rw [g2]
      simp [List.getD]
      omega
end Go.Proofs.Ytcfgljfpkhefmaa
