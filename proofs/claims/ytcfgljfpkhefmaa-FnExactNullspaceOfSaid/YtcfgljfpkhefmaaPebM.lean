/- The pebble game on lists: the search by breadth, the path turned round, the gathering. No program. No condition. -/
import Derived.Test.YtcfgljfpkhefmaaSetM
namespace Go.Proofs.Ytcfgljfpkhefmaa

/-- The other end of a bar. -/
def oth (x : Int × Int) (v : Int) : Int := x.1 + x.2 - v
def isEnd (x : Int × Int) (v : Int) : Prop := v = x.1 ∨ v = x.2
theorem oth_oth (x : Int × Int) (v : Int) : oth x (oth x v) = v := by unfold oth; omega
theorem oth_end {x : Int × Int} {v : Int} (h : isEnd x v) : isEnd x (oth x v) := by unfold isEnd oth at *; omega

/-- One bar looked at from the point v: its other end is put in the queue if it is new. -/
def scan1 (E : List (Int × Int)) (T : List Int) (v : Int) (q : List (Int × Nat)) (i : Nat) : List (Int × Nat) :=
  if T.getD i 0 = v ∧ oth (E.getD i (0, 0)) v ∉ q.map Prod.fst then q ++ [(oth (E.getD i (0, 0)) v, i)] else q
def scanN (E : List (Int × Int)) (T : List Int) (v : Int) (q : List (Int × Nat)) : Nat → List (Int × Nat)
  | 0 => q
  | n + 1 => scan1 E T v (scanN E T v q n) n
/-- The queue after k points were looked at. -/
def bfs (E : List (Int × Int)) (T : List Int) (a : Int) : Nat → List (Int × Nat)
  | 0 => [(a, 0)]
  | k + 1 => if k < (bfs E T a k).length then scanN E T ((bfs E T a k).getD k (0, 0)).1 (bfs E T a k) E.length else bfs E T a k

theorem bfs_succ (E : List (Int × Int)) (T : List Int) (a : Int) (k : Nat) : bfs E T a (k + 1) = if k < (bfs E T a k).length then scanN E T ((bfs E T a k).getD k (0, 0)).1 (bfs E T a k) E.length else bfs E T a k := rfl
theorem scan1_pre (E : List (Int × Int)) (T : List Int) (v : Int) (q : List (Int × Nat)) (i : Nat) : ∃ r, scan1 E T v q i = q ++ r := by
  unfold scan1
  split
  · exact ⟨_, rfl⟩
  · exact ⟨[], (List.append_nil _).symm⟩
theorem scanN_pre (E : List (Int × Int)) (T : List Int) (v : Int) (q : List (Int × Nat)) (n : Nat) : ∃ r, scanN E T v q n = q ++ r := by
  induction n with
  | zero => exact ⟨[], (List.append_nil _).symm⟩
  | succ n ih =>
    obtain ⟨r, h⟩ := ih
    obtain ⟨s, h2⟩ := scan1_pre E T v (scanN E T v q n) n
    exact ⟨r ++ s, by show scan1 E T v (scanN E T v q n) n = _; rw [h2, h, List.append_assoc]⟩
theorem scanN_mono (E : List (Int × Int)) (T : List Int) (v : Int) (q : List (Int × Nat)) (n m : Nat) : ∃ r, scanN E T v q (n + m) = scanN E T v q n ++ r := by
  induction m with
  | zero => exact ⟨[], (List.append_nil _).symm⟩
  | succ m ih =>
    obtain ⟨r, h⟩ := ih
    obtain ⟨s, h2⟩ := scan1_pre E T v (scanN E T v q (n + m)) (n + m)
    exact ⟨r ++ s, by show scan1 E T v (scanN E T v q (n + m)) (n + m) = _; rw [h2, h, List.append_assoc]⟩
theorem bfs_pre1 (E : List (Int × Int)) (T : List Int) (a : Int) (k : Nat) : ∃ r, bfs E T a (k + 1) = bfs E T a k ++ r := by
  rw [bfs_succ]
  split
  · exact scanN_pre ..
  · exact ⟨[], (List.append_nil _).symm⟩
theorem bfs_pre (E : List (Int × Int)) (T : List Int) (a : Int) (k m : Nat) : ∃ r, bfs E T a (k + m) = bfs E T a k ++ r := by
  induction m with
  | zero => exact ⟨[], (List.append_nil _).symm⟩
  | succ m ih =>
    obtain ⟨r, h⟩ := ih
    obtain ⟨s, h2⟩ := bfs_pre1 E T a (k + m)
    exact ⟨r ++ s, by show bfs E T a (k + m + 1) = _; rw [h2, h, List.append_assoc]⟩
theorem bfs_stop (E : List (Int × Int)) (T : List Int) (a : Int) (k m : Nat) (h : (bfs E T a k).length ≤ k) : bfs E T a (k + m) = bfs E T a k := by
  induction m with
  | zero => rfl
  | succ m ih =>
    rw [show k + (m + 1) = k + m + 1 by omega, bfs_succ, ih, if_neg (by omega)]

/-- How the queue is: each point but the first was reached along a bar whose tail was reached before. -/
structure GoodQ (P : Nat) (E : List (Int × Int)) (T : List Int) (a : Int) (q : List (Int × Nat)) : Prop where
  start : ∃ r, q = (a, 0) :: r
  step : ∀ q1 x q2, q = q1 ++ x :: q2 → q1 ≠ [] → x.1 ∉ q1.map Prod.fst ∧ x.2 < E.length ∧ T.getD x.2 0 = oth (E.getD x.2 (0, 0)) x.1 ∧ T.getD x.2 0 ∈ q1.map Prod.fst ∧ 0 ≤ x.1 ∧ x.1 < (P : Int)
  len : q.length ≤ cntF P (fun v => decide ((v : Int) ∈ q.map Prod.fst))

theorem GoodQ.snoc {P : Nat} {E : List (Int × Int)} {T : List Int} {a : Int} {q : List (Int × Nat)} (h : GoodQ P E T a q) {x : Int × Nat}
    (h1 : x.1 ∉ q.map Prod.fst) (h2 : x.2 < E.length) (h3 : T.getD x.2 0 = oth (E.getD x.2 (0, 0)) x.1) (h4 : T.getD x.2 0 ∈ q.map Prod.fst) (h5 : 0 ≤ x.1 ∧ x.1 < (P : Int)) : GoodQ P E T a (q ++ [x]) := by
  refine ⟨?_, ?_, ?_⟩
  · obtain ⟨r, e⟩ := h.start
    exact ⟨r ++ [x], by rw [e]; rfl⟩
  · intro q1 y q2 e hne
    rcases List.eq_nil_or_concat q2 with rfl | ⟨q3, z, rfl⟩
    · obtain ⟨rfl, e2⟩ := List.append_inj' e rfl
      cases e2
      exact ⟨h1, h2, h3, h4, h5⟩
    · have e' : q ++ [x] = (q1 ++ y :: q3) ++ [z] := by rw [e]; simp
      obtain ⟨e3, _⟩ := List.append_inj' e' rfl
      exact h.step q1 y q3 e3 hne
  · have hs := cntF_step P (fun v => decide ((v : Int) ∈ q.map Prod.fst)) (fun v => decide ((v : Int) ∈ (q ++ [x]).map Prod.fst)) (fun v hv => by
      have := of_decide_eq_true hv
      refine decide_eq_true ?_
      rw [List.map_append]
      exact List.mem_append_left _ this)
    have hlt : ¬ cntF P (fun v => decide ((v : Int) ∈ (q ++ [x]).map Prod.fst)) ≤ cntF P (fun v => decide ((v : Int) ∈ q.map Prod.fst)) := fun hle => by
      have := hs.2 hle x.1.toNat (by omega)
      have e : ((x.1.toNat : Nat) : Int) = x.1 := by omega
      rw [e] at this
      rw [decide_eq_false h1, decide_eq_true (by simp)] at this
      cases this
    have := h.len
    simp only [List.length_append, List.length_cons, List.length_nil]
    omega
theorem GoodQ.short {P : Nat} {E : List (Int × Int)} {T : List Int} {a : Int} {q : List (Int × Nat)} (h : GoodQ P E T a q) : q.length ≤ P := Nat.le_trans h.len (cntF_all P _).1
theorem goodQ_one {P : Nat} (E : List (Int × Int)) (T : List Int) {a : Int} (h0 : 0 ≤ a) (h1 : a < (P : Int)) : GoodQ P E T a [(a, 0)] := by
  refine ⟨⟨[], rfl⟩, ?_, ?_⟩
  · intro q1 x q2 e hne
    cases q1 with
    | nil => exact absurd rfl hne
    | cons y t =>
      have := congrArg List.length e
      simp at this
  · have := cntF_one P a.toNat (by omega)
    have e : (fun v : Nat => decide ((v : Int) ∈ [(a, (0 : Nat))].map Prod.fst)) = fun v => decide (v = a.toNat) := by
      funext v
      by_cases h : v = a.toNat
      · rw [decide_eq_true h, decide_eq_true]; simp; omega
      · rw [decide_eq_false h, decide_eq_false]; simp; omega
    rw [e]
    exact this
/-- The bars of a state: their ends are points, and the tails are ends. -/
structure EndsQ (P : Nat) (E : List (Int × Int)) (T : List Int) : Prop where
  len : T.length = E.length
  bar : ∀ i, i < E.length → 0 ≤ (E.getD i (0, 0)).1 ∧ (E.getD i (0, 0)).1 < (E.getD i (0, 0)).2 ∧ (E.getD i (0, 0)).2 < (P : Int)
  tail : ∀ i, i < E.length → isEnd (E.getD i (0, 0)) (T.getD i 0)
theorem EndsQ.oth_in {P : Nat} {E : List (Int × Int)} {T : List Int} (h : EndsQ P E T) {i : Nat} (hi : i < E.length) {v : Int} (hv : T.getD i 0 = v) : 0 ≤ oth (E.getD i (0, 0)) v ∧ oth (E.getD i (0, 0)) v < (P : Int) ∧ oth (E.getD i (0, 0)) v ≠ v := by
  have h1 := h.bar i hi
  have h2 := h.tail i hi
  rw [hv] at h2
  unfold isEnd at h2
  unfold oth
  omega
theorem GoodQ.scan {P : Nat} {E : List (Int × Int)} {T : List Int} {a : Int} {q : List (Int × Nat)} (h : GoodQ P E T a q) (he : EndsQ P E T) {v : Int} (hv : v ∈ q.map Prod.fst) : ∀ n, n ≤ E.length → GoodQ P E T a (scanN E T v q n) ∧ v ∈ (scanN E T v q n).map Prod.fst := by
  intro n
  induction n with
  | zero => intro _; exact ⟨h, hv⟩
  | succ n ih =>
    intro hn
    obtain ⟨i1, i2⟩ := ih (by omega)
    have e : scanN E T v q (n + 1) = scan1 E T v (scanN E T v q n) n := rfl
    rw [e]
    unfold scan1
    by_cases c : T.getD n 0 = v ∧ oth (E.getD n (0, 0)) v ∉ (scanN E T v q n).map Prod.fst
    · rw [if_pos c]
      have ho := he.oth_in (i := n) (by omega) c.1
      refine ⟨i1.snoc c.2 (by show n < E.length; omega) ?_ ?_ ⟨ho.1, ho.2.1⟩, ?_⟩
      · show T.getD n 0 = oth (E.getD n (0, 0)) (oth (E.getD n (0, 0)) v)
        rw [oth_oth]
        exact c.1
      · show T.getD n 0 ∈ _
        rw [c.1]
        exact i2
      · rw [List.map_append]
        exact List.mem_append_left _ i2
    · rw [if_neg c]
      exact ⟨i1, i2⟩
theorem getD_mem_fst (q : List (Int × Nat)) (k : Nat) (h : k < q.length) : (q.getD k (0, 0)).1 ∈ q.map Prod.fst := by
  have : q.getD k (0, 0) = q[k] := by simp [List.getD, List.getElem?_eq_getElem h]
  rw [this]
  exact List.mem_map_of_mem (List.getElem_mem h)
theorem bfs_good {P : Nat} {E : List (Int × Int)} {T : List Int} {a : Int} (he : EndsQ P E T) (h0 : 0 ≤ a) (h1 : a < (P : Int)) : ∀ k, GoodQ P E T a (bfs E T a k) := by
  intro k
  induction k with
  | zero => exact goodQ_one E T h0 h1
  | succ k ih =>
    rw [bfs_succ]
    split
    · rename_i h
      exact (ih.scan he (getD_mem_fst _ k h) E.length (Nat.le_refl _)).1
    · exact ih

/-- The queue, whole. -/
def bfsQ (E : List (Int × Int)) (T : List Int) (a : Int) : List (Int × Nat) := bfs E T a (max E.length 8)
/-- A point that can give a pebble. -/
def givesB (F : List Int) (a b : Int) (x : Int × Nat) : Bool := decide (x.1 ≠ a) && decide (x.1 ≠ b) && decide (0 < F.getD x.1.toNat 0)
theorem bfsQ_pre (E : List (Int × Int)) (T : List Int) (a : Int) (k : Nat) (h : k ≤ 8) : ∃ r, bfsQ E T a = bfs E T a k ++ r := by
  have := bfs_pre E T a k (max E.length 8 - k)
  rw [show k + (max E.length 8 - k) = max E.length 8 by omega] at this
  exact this
theorem find_front {α : Type} (p : α → Bool) (q r : List α) (x : α) (h : ∀ y ∈ q, p y = false) (hx : p x = true) : (q ++ x :: r).find? p = some x := by
  rw [List.find?_append, List.find?_eq_none.2 fun y hy => by rw [h y hy]; simp]
  simp [hx]
/-- The specification's walk ends here. -/
theorem find_spec {E : List (Int × Int)} {T F : List Int} {a b : Int} (k i : Nat) (hk : k < (bfs E T a k).length) (hk8 : k < 8) (hi : i < E.length) {v : Int} (hv : ((bfs E T a k).getD k (0, 0)).1 = v) (ht : T.getD i 0 = v)
    (hno : ∀ y ∈ scanN E T v (bfs E T a k) i, givesB F a b y = false) (hu : oth (E.getD i (0, 0)) v ∉ (scanN E T v (bfs E T a k) i).map Prod.fst) (hg : givesB F a b (oth (E.getD i (0, 0)) v, i) = true) :
    (bfsQ E T a).find? (givesB F a b) = some (oth (E.getD i (0, 0)) v, i) ∧ ∃ r, bfsQ E T a = scanN E T v (bfs E T a k) i ++ (oth (E.getD i (0, 0)) v, i) :: r := by
  have e : ∃ r, bfsQ E T a = scanN E T v (bfs E T a k) i ++ (oth (E.getD i (0, 0)) v, i) :: r := by
    obtain ⟨r, h⟩ := bfsQ_pre E T a (k + 1) (by omega)
    have h1 : bfs E T a (k + 1) = scanN E T v (bfs E T a k) E.length := by rw [bfs_succ, if_pos hk, hv]
    obtain ⟨s, h2⟩ := scanN_mono E T v (bfs E T a k) (i + 1) (E.length - (i + 1))
    rw [show i + 1 + (E.length - (i + 1)) = E.length by omega] at h2
    have h3 : scanN E T v (bfs E T a k) (i + 1) = scanN E T v (bfs E T a k) i ++ [(oth (E.getD i (0, 0)) v, i)] := by
      show scan1 E T v _ i = _
      unfold scan1
      rw [if_pos ⟨ht, hu⟩]
    exact ⟨s ++ r, by rw [h, h1, h2, h3]; simp⟩
  obtain ⟨r, e⟩ := e
  exact ⟨by rw [e]; exact find_front _ _ _ _ hno hg, r, e⟩
/-- The program's walk ends here. -/
theorem find_impl {E : List (Int × Int)} {T F : List Int} {a b : Int} (k : Nat) (hk : k < (bfs E T a k).length) (hk8 : k < 8)
    (hno : ∀ y ∈ (bfs E T a k).take k, givesB F a b y = false) (hg : givesB F a b ((bfs E T a k).getD k (0, 0)) = true) :
    (bfsQ E T a).find? (givesB F a b) = some ((bfs E T a k).getD k (0, 0)) ∧ ∃ r, bfsQ E T a = (bfs E T a k).take k ++ ((bfs E T a k).getD k (0, 0)) :: r := by
  obtain ⟨r, h⟩ := bfsQ_pre E T a k (by omega)
  have e : bfsQ E T a = (bfs E T a k).take k ++ ((bfs E T a k).getD k (0, 0)) :: ((bfs E T a k).drop (k + 1) ++ r) := by
    rw [h]
    have h1 := List.take_append_drop k (bfs E T a k)
    have h2 := List.drop_eq_getElem_cons hk
    have h3 : (bfs E T a k).getD k (0, 0) = (bfs E T a k)[k] := by simp [List.getD, List.getElem?_eq_getElem hk]
    rw [h3]
    calc bfs E T a k ++ r = ((bfs E T a k).take k ++ (bfs E T a k).drop k) ++ r := by rw [h1]
      _ = _ := by rw [h2, List.append_assoc]; rfl
  exact ⟨by rw [e]; exact find_front _ _ _ _ hno hg, _, e⟩
/-- Neither finds a point. -/
theorem find_no {E : List (Int × Int)} {T F : List Int} {a b : Int} (k : Nat) (hk : (bfs E T a k).length ≤ k) (hk8 : k ≤ 8) (hno : ∀ y ∈ bfs E T a k, givesB F a b y = false) : (bfsQ E T a).find? (givesB F a b) = none := by
  have e : bfsQ E T a = bfs E T a k := by
    have := bfs_stop E T a k (max E.length 8 - k) hk
    rw [show k + (max E.length 8 - k) = max E.length 8 by omega] at this
    exact this
  rw [e]
  exact List.find?_eq_none.2 fun y hy => by rw [hno y hy]; simp

/-- The path from 'at' back to a, turned round; the queue is read from its end. -/
def turnQ (E : List (Int × Int)) (a : Int) : List (Int × Nat) → Int → List Int → List Int
  | [], _, T => T
  | (v, i) :: r, t, T => if v = t ∧ t ≠ a then turnQ E a r (oth (E.getD i (0, 0)) t) (T.set i t) else turnQ E a r t T
theorem turnQ_a (E : List (Int × Int)) (a : Int) (r : List (Int × Nat)) (T : List Int) : turnQ E a r a T = T := by
  induction r with
  | nil => rfl
  | cons x r ih =>
    obtain ⟨v, i⟩ := x
    unfold turnQ
    rw [if_neg (by simp), ih]
theorem turnQ_skip (E : List (Int × Int)) (a t : Int) (q r : List (Int × Nat)) (T : List Int) (h : t ∉ q.map Prod.fst) : turnQ E a (q ++ r) t T = turnQ E a r t T := by
  induction q with
  | nil => rfl
  | cons x q ih =>
    obtain ⟨v, i⟩ := x
    simp only [List.map_cons, List.mem_cons, not_or] at h
    rw [List.cons_append, turnQ, if_neg (fun c => h.1 c.1.symm), ih h.2]
theorem turnQ_step (E : List (Int × Int)) (a t : Int) (i : Nat) (q1 q2 : List (Int × Nat)) (T : List Int) (h : t ∉ q2.map Prod.fst) (ha : t ≠ a) :
    turnQ E a (q1 ++ (t, i) :: q2).reverse t T = turnQ E a q1.reverse (oth (E.getD i (0, 0)) t) (T.set i t) := by
  rw [show (q1 ++ (t, i) :: q2).reverse = q2.reverse ++ ((t, i) :: q1.reverse) by simp, turnQ_skip _ _ _ _ _ _ (by simpa using h), turnQ, if_pos ⟨rfl, ha⟩]
theorem GoodQ.nodup {P : Nat} {E : List (Int × Int)} {T : List Int} {a : Int} {q : List (Int × Nat)} (h : GoodQ P E T a q) {q1 q2 : List (Int × Nat)} {x : Int × Nat} (e : q = q1 ++ x :: q2) : x.1 ∉ q2.map Prod.fst := by
  intro hm
  obtain ⟨y, hy, e1⟩ := List.mem_map.1 hm
  obtain ⟨q3, q4, rfl⟩ := List.append_of_mem hy
  have := (h.step (q1 ++ x :: q3) y q4 (by rw [e]; simp) (by simp)).1
  rw [e1] at this
  exact this (by simp)
theorem GoodQ.pre {P : Nat} {E : List (Int × Int)} {T : List Int} {a : Int} {q r : List (Int × Nat)} (h : GoodQ P E T a (q ++ r)) (hne : q ≠ []) : (∃ s, q = (a, 0) :: s) ∧ ∀ q1 x q2, q = q1 ++ x :: q2 → q1 ≠ [] → x.1 ∉ q1.map Prod.fst ∧ x.2 < E.length ∧ T.getD x.2 0 = oth (E.getD x.2 (0, 0)) x.1 ∧ T.getD x.2 0 ∈ q1.map Prod.fst ∧ 0 ≤ x.1 ∧ x.1 < (P : Int) := by
  refine ⟨?_, fun q1 x q2 e hn => h.step q1 x (q2 ++ r) (by rw [e]; simp) hn⟩
  obtain ⟨s, e⟩ := h.start
  cases q with
  | nil => exact absurd rfl hne
  | cons y t =>
    rw [List.cons_append] at e
    cases e
    exact ⟨t, rfl⟩
end Go.Proofs.Ytcfgljfpkhefmaa
