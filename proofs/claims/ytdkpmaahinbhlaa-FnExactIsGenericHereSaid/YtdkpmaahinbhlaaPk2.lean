/- Several texts in one, in the order in which they build on each other: what stands on the way to the laws; each names its own matter. No condition. -/
import Derived.Test.YtdkpmaahinbhlaaPk1
import Derived.WalkKit
import Derived.Lib.SliceRun
import Derived.Laws.CopyOwn
import Derived.Deep.RegionLaw
import Derived.OrdersHeld
import Derived.Deep.RegionHeld3
import Derived.StillTailTactics
import Derived.Deep.QuietTactic
import Derived.BigQuiet
import Derived.ProofKit
import Derived.Lib.SmallJoins
import Derived.Deep.SlicePairs
/- Sets of points as numbers, the bars that they span, and the first set that spans too many: words on lists, of no program. No condition. -/
namespace Go.Proofs.Ytdkpmaahinbhlaa
open Go.RowKit

def memS (zs : List Int) (v : Int) : Bool := decide (v ∈ zs)
/-- Does S hold both ends of bar number i? -/
def spanF (l : List (Int × Int)) (S : Int → Bool) (i : Nat) : Bool := S (l.getD i (0, 0)).1 && S (l.getD i (0, 0)).2
def spanL (l : List (Int × Int)) (S : Int → Bool) : List Int := outF l.length (spanF l S)
theorem spanL_len (l : List (Int × Int)) (S : Int → Bool) : (spanL l S).length ≤ l.length := outF_len _ _
theorem outF_count (n : Nat) (S : Nat → Bool) : (outF n S).length = (List.range n).countP S := by
  unfold outF
  rw [List.length_map, List.countP_eq_length_filter]
theorem count_range (l : List (Int × Int)) (f : Int × Int → Bool) : ∀ k, k ≤ l.length → (List.range k).countP (fun i => f (l.getD i (0, 0))) = (l.take k).countP f := by
  intro k
  induction k with
  | zero => intro _; simp
  | succ k ih =>
    intro h
    rw [List.range_succ, List.countP_append, countP_take f l k (by omega), ih (by omega), List.countP_cons, List.countP_nil, Nat.zero_add]
theorem mem_outF (n : Nat) (S : Nat → Bool) (v : Int) : v ∈ outF n S ↔ ∃ u : Nat, u < n ∧ S u = true ∧ v = (u : Int) := by
  unfold outF
  simp only [List.mem_map, List.mem_filter, List.mem_range]
  constructor
  · rintro ⟨u, ⟨h1, h2⟩, rfl⟩; exact ⟨u, h1, h2, rfl⟩
  · rintro ⟨u, h1, h2, rfl⟩; exact ⟨u, ⟨h1, h2⟩, rfl⟩
/-- The points of the set m below P. -/
def setL (P m : Nat) : List Int := outF P (fun v => m.testBit v)
theorem setL_len (P m : Nat) : (setL P m).length ≤ P := outF_len _ _
def bothB (m : Nat) (x : Int × Int) : Bool := m.testBit x.1.toNat && m.testBit x.2.toNat
/-- How many bars the set m spans. -/
def cntS (l : List (Int × Int)) (m : Nat) : Nat := l.countP (bothB m)
theorem memS_set (P m : Nat) (v : Int) (h0 : 0 ≤ v) (h1 : v < (P : Int)) : memS (setL P m) v = m.testBit v.toNat := by
  unfold memS setL
  cases h : m.testBit v.toNat with
  | true => exact decide_eq_true ((mem_outF _ _ _).2 ⟨v.toNat, by omega, h, by omega⟩)
  | false =>
    refine decide_eq_false fun hm => ?_
    obtain ⟨u, _, h2, h3⟩ := (mem_outF _ _ _).1 hm
    have : v.toNat = u := by omega
    rw [this, h2] at h
    cases h
theorem span_cnt (P m : Nat) (l : List (Int × Int)) (hl : ∀ i, i < l.length → 0 ≤ (l.getD i (0, 0)).1 ∧ (l.getD i (0, 0)).1 < (l.getD i (0, 0)).2 ∧ (l.getD i (0, 0)).2 < (P : Int)) : (spanL l (memS (setL P m))).length = cntS l m := by
  unfold spanL cntS
  rw [outF_count]
  have h := count_range l (bothB m) l.length (Nat.le_refl _)
  rw [List.take_length] at h
  rw [← h]
  refine List.countP_congr fun i hi => ?_
  have hi' := hl i (List.mem_range.1 hi)
  unfold spanF bothB
  rw [memS_set P m _ (by omega) (by omega), memS_set P m _ (by omega) (by omega)]
theorem cntS_le (l : List (Int × Int)) (m : Nat) : cntS l m ≤ l.length := List.countP_le_length
theorem cntS_zero (l : List (Int × Int)) : cntS l 0 = 0 := by
  unfold cntS
  rw [List.countP_eq_zero]
  intro x _
  simp [bothB]
def rangeB (k c : Int) : Bool := decide (1 ≤ k) && decide (k ≤ 3) && decide (0 ≤ c) && decide (c ≤ 2 * k - 1)
/-- Does the set m span too many bars? -/
def badS (l : List (Int × Int)) (k c : Int) (P m : Nat) : Bool := decide (0 < cntS l m) && decide (k * ((setL P m).length : Int) - c < (cntS l m : Int))
theorem badS_zero (l : List (Int × Int)) (k c : Int) (P : Nat) : badS l k c P 0 = false := by simp [badS, cntS_zero]
/-- The first set that spans too many. -/
noncomputable def overM (p : Int) (l : List (Int × Int)) (k c : Int) : Option Nat := if (isGB p l && rangeB k c) = true then (List.range (2 ^ p.toNat)).find? (badS l k c p.toNat) else none
noncomputable def overL (p : Int) (l : List (Int × Int)) (k c : Int) : List Int := match overM p l k c with | some m => setL p.toNat m | none => []
noncomputable def overB (p : Int) (l : List (Int × Int)) (k c : Int) : Bool := (overM p l k c).isSome
theorem over_no {p k c : Int} {l : List (Int × Int)} (h : isGB p l = false ∨ rangeB k c = false) : overL p l k c = [] ∧ overB p l k c = false := by
  have : overM p l k c = none := by
    unfold overM
    rw [if_neg]
    rcases h with h | h <;> rw [h] <;> simp
  unfold overL overB
  rw [this]
  exact ⟨rfl, rfl⟩
theorem over_none {P : Nat} {k c : Int} {l : List (Int × Int)} (h : ∀ m, m < 2 ^ P → badS l k c P m = false) : overL (P : Int) l k c = [] ∧ overB (P : Int) l k c = false := by
  have : overM (P : Int) l k c = none := by
    unfold overM
    split
    · rw [List.find?_eq_none]
      intro m hm
      rw [Int.toNat_natCast] at *
      rw [h m (List.mem_range.1 hm)]
      simp
    · rfl
  unfold overL overB
  rw [this]
  exact ⟨rfl, rfl⟩
theorem over_some {P m : Nat} {k c : Int} {l : List (Int × Int)} (hg : isGB (P : Int) l = true) (hr : rangeB k c = true) (h : ∀ i, i < m → badS l k c P i = false) (hm : m < 2 ^ P) (hb : badS l k c P m = true) : overL (P : Int) l k c = setL P m ∧ overB (P : Int) l k c = true := by
  have : overM (P : Int) l k c = some m := by
    unfold overM
    rw [if_pos (by rw [hg, hr]; rfl), Int.toNat_natCast]
    rw [List.find?_range_eq_some]
    refine ⟨hb, List.mem_range.2 hm, fun j hj => ?_⟩
    rw [h j hj]
    rfl
  unfold overL overB
  rw [this]
  exact ⟨rfl, rfl⟩
theorem overL_len (p : Int) (l : List (Int × Int)) (k c : Int) : (overL p l k c).length ≤ 8 := by
  by_cases h : isGB p l = true
  · have hG : IsG p l := Classical.byContradiction fun g => by rw [isGB_no g] at h; cases h
    unfold overL
    split
    · have := setL_len p.toNat ‹_›
      have := hG.1
      omega
    · simp
  · rw [(over_no (k := k) (c := c) (.inl (by simpa using h))).1]
    simp
/-- The counts of bits of the sets below 2 ^ P, P at most 8. -/
theorem bit_and (k : IntKind) (hk : k = .i64 ∨ k = .u64) : ∀ m : Nat, m < 256 → ∀ v : Nat, v < 8 → bits .and k ((m : Int) / 2 ^ v) 1 = if m.testBit v then 1 else 0 := by
  rcases hk with rfl | rfl <;> decide +kernel
/-- Numbers of 64 bits. -/
def Wf (x : Int) : Prop := (Lit.int .i64 x).wf = true
def WfB (l : List (Int × Int)) : Prop := ∀ k, k < l.length → Wf (l.getD k (0, 0)).1 ∧ Wf (l.getD k (0, 0)).2
def WfI (zs : List Int) : Prop := ∀ k, k < zs.length → Wf (zs.getD k 0)
end Go.Proofs.Ytdkpmaahinbhlaa
/- The pebble game on lists: the search by breadth, the path turned round, the gathering. No program. No condition. -/
namespace Go.Proofs.Ytdkpmaahinbhlaa

/-- The other end of a bar. -/
def oth (x : Int × Int) (v : Int) : Int := x.1 + x.2 - v
def isEnd (x : Int × Int) (v : Int) : Prop := v = x.1 ∨ v = x.2
theorem oth_oth (x : Int × Int) (v : Int) : oth x (oth x v) = v := by unfold oth; omega
theorem oth_end {x : Int × Int} {v : Int} (h : isEnd x v) : isEnd x (oth x v) := by unfold isEnd oth at *; omega

/-- One bar looked at from the point v: its other end is put in the queue if it is new. -/
def scan1 (E : List (Int × Int)) (T : List Int) (v : Int) (q : List (Int × Nat)) (i : Nat) : List (Int × Nat) :=
  if T.getD i 0 = v ∧ oth (E.getD i (0, 0)) v ∉ q.map Prod.fst then q ++ [(oth (E.getD i (0, 0)) v, i)] else q
def scanN (E : List (Int × Int)) (T : List Int) (v : Int) (q : List (Int × Nat)) : Nat → List (Int × Nat)
  | 0 => q
  | n + 1 => scan1 E T v (scanN E T v q n) n
/-- The queue after k points were looked at. -/
def bfs (E : List (Int × Int)) (T : List Int) (a : Int) : Nat → List (Int × Nat)
  | 0 => [(a, 0)]
  | k + 1 => if k < (bfs E T a k).length then scanN E T ((bfs E T a k).getD k (0, 0)).1 (bfs E T a k) E.length else bfs E T a k

theorem bfs_succ (E : List (Int × Int)) (T : List Int) (a : Int) (k : Nat) : bfs E T a (k + 1) = if k < (bfs E T a k).length then scanN E T ((bfs E T a k).getD k (0, 0)).1 (bfs E T a k) E.length else bfs E T a k := rfl
theorem scan1_pre (E : List (Int × Int)) (T : List Int) (v : Int) (q : List (Int × Nat)) (i : Nat) : ∃ r, scan1 E T v q i = q ++ r := by
  unfold scan1
  split
  · exact ⟨_, rfl⟩
  · exact ⟨[], (List.append_nil _).symm⟩
theorem scanN_pre (E : List (Int × Int)) (T : List Int) (v : Int) (q : List (Int × Nat)) (n : Nat) : ∃ r, scanN E T v q n = q ++ r := by
  induction n with
  | zero => exact ⟨[], (List.append_nil _).symm⟩
  | succ n ih =>
    obtain ⟨r, h⟩ := ih
    obtain ⟨s, h2⟩ := scan1_pre E T v (scanN E T v q n) n
    exact ⟨r ++ s, by show scan1 E T v (scanN E T v q n) n = _; rw [h2, h, List.append_assoc]⟩
theorem scanN_mono (E : List (Int × Int)) (T : List Int) (v : Int) (q : List (Int × Nat)) (n m : Nat) : ∃ r, scanN E T v q (n + m) = scanN E T v q n ++ r := by
  induction m with
  | zero => exact ⟨[], (List.append_nil _).symm⟩
  | succ m ih =>
    obtain ⟨r, h⟩ := ih
    obtain ⟨s, h2⟩ := scan1_pre E T v (scanN E T v q (n + m)) (n + m)
    exact ⟨r ++ s, by show scan1 E T v (scanN E T v q (n + m)) (n + m) = _; rw [h2, h, List.append_assoc]⟩
theorem bfs_pre1 (E : List (Int × Int)) (T : List Int) (a : Int) (k : Nat) : ∃ r, bfs E T a (k + 1) = bfs E T a k ++ r := by
  rw [bfs_succ]
  split
  · exact scanN_pre ..
  · exact ⟨[], (List.append_nil _).symm⟩
theorem bfs_pre (E : List (Int × Int)) (T : List Int) (a : Int) (k m : Nat) : ∃ r, bfs E T a (k + m) = bfs E T a k ++ r := by
  induction m with
  | zero => exact ⟨[], (List.append_nil _).symm⟩
  | succ m ih =>
    obtain ⟨r, h⟩ := ih
    obtain ⟨s, h2⟩ := bfs_pre1 E T a (k + m)
    exact ⟨r ++ s, by show bfs E T a (k + m + 1) = _; rw [h2, h, List.append_assoc]⟩
theorem bfs_stop (E : List (Int × Int)) (T : List Int) (a : Int) (k m : Nat) (h : (bfs E T a k).length ≤ k) : bfs E T a (k + m) = bfs E T a k := by
  induction m with
  | zero => rfl
  | succ m ih =>
    rw [show k + (m + 1) = k + m + 1 by omega, bfs_succ, ih, if_neg (by omega)]

/-- How the queue is: each point but the first was reached along a bar whose tail was reached before. -/
structure GoodQ (P : Nat) (E : List (Int × Int)) (T : List Int) (a : Int) (q : List (Int × Nat)) : Prop where
  start : ∃ r, q = (a, 0) :: r
  step : ∀ q1 x q2, q = q1 ++ x :: q2 → q1 ≠ [] → x.1 ∉ q1.map Prod.fst ∧ x.2 < E.length ∧ T.getD x.2 0 = oth (E.getD x.2 (0, 0)) x.1 ∧ T.getD x.2 0 ∈ q1.map Prod.fst ∧ 0 ≤ x.1 ∧ x.1 < (P : Int)
  len : q.length ≤ cntF P (fun v => decide ((v : Int) ∈ q.map Prod.fst))

theorem GoodQ.snoc {P : Nat} {E : List (Int × Int)} {T : List Int} {a : Int} {q : List (Int × Nat)} (h : GoodQ P E T a q) {x : Int × Nat}
    (h1 : x.1 ∉ q.map Prod.fst) (h2 : x.2 < E.length) (h3 : T.getD x.2 0 = oth (E.getD x.2 (0, 0)) x.1) (h4 : T.getD x.2 0 ∈ q.map Prod.fst) (h5 : 0 ≤ x.1 ∧ x.1 < (P : Int)) : GoodQ P E T a (q ++ [x]) := by
  refine ⟨?_, ?_, ?_⟩
  · obtain ⟨r, e⟩ := h.start
    exact ⟨r ++ [x], by rw [e]; rfl⟩
  · intro q1 y q2 e hne
    rcases List.eq_nil_or_concat q2 with rfl | ⟨q3, z, rfl⟩
    · obtain ⟨rfl, e2⟩ := List.append_inj' e rfl
      cases e2
      exact ⟨h1, h2, h3, h4, h5⟩
    · have e' : q ++ [x] = (q1 ++ y :: q3) ++ [z] := by rw [e]; simp
      obtain ⟨e3, _⟩ := List.append_inj' e' rfl
      exact h.step q1 y q3 e3 hne
  · have hs := cntF_step P (fun v => decide ((v : Int) ∈ q.map Prod.fst)) (fun v => decide ((v : Int) ∈ (q ++ [x]).map Prod.fst)) (fun v hv => by
      have := of_decide_eq_true hv
      refine decide_eq_true ?_
      rw [List.map_append]
      exact List.mem_append_left _ this)
    have hlt : ¬ cntF P (fun v => decide ((v : Int) ∈ (q ++ [x]).map Prod.fst)) ≤ cntF P (fun v => decide ((v : Int) ∈ q.map Prod.fst)) := fun hle => by
      have := hs.2 hle x.1.toNat (by omega)
      have e : ((x.1.toNat : Nat) : Int) = x.1 := by omega
      rw [e] at this
      rw [decide_eq_false h1, decide_eq_true (by simp)] at this
      cases this
    have := h.len
    simp only [List.length_append, List.length_cons, List.length_nil]
    omega
theorem GoodQ.short {P : Nat} {E : List (Int × Int)} {T : List Int} {a : Int} {q : List (Int × Nat)} (h : GoodQ P E T a q) : q.length ≤ P := Nat.le_trans h.len (cntF_all P _).1
theorem goodQ_one {P : Nat} (E : List (Int × Int)) (T : List Int) {a : Int} (h0 : 0 ≤ a) (h1 : a < (P : Int)) : GoodQ P E T a [(a, 0)] := by
  refine ⟨⟨[], rfl⟩, ?_, ?_⟩
  · intro q1 x q2 e hne
    cases q1 with
    | nil => exact absurd rfl hne
    | cons y t =>
      have := congrArg List.length e
      simp at this
  · have := cntF_one P a.toNat (by omega)
    have e : (fun v : Nat => decide ((v : Int) ∈ [(a, (0 : Nat))].map Prod.fst)) = fun v => decide (v = a.toNat) := by
      funext v
      by_cases h : v = a.toNat
      · rw [decide_eq_true h, decide_eq_true]; simp; omega
      · rw [decide_eq_false h, decide_eq_false]; simp; omega
    rw [e]
    exact this
/-- The bars of a state: their ends are points, and the tails are ends. -/
structure EndsQ (P : Nat) (E : List (Int × Int)) (T : List Int) : Prop where
  len : T.length = E.length
  bar : ∀ i, i < E.length → 0 ≤ (E.getD i (0, 0)).1 ∧ (E.getD i (0, 0)).1 < (E.getD i (0, 0)).2 ∧ (E.getD i (0, 0)).2 < (P : Int)
  tail : ∀ i, i < E.length → isEnd (E.getD i (0, 0)) (T.getD i 0)
theorem EndsQ.oth_in {P : Nat} {E : List (Int × Int)} {T : List Int} (h : EndsQ P E T) {i : Nat} (hi : i < E.length) {v : Int} (hv : T.getD i 0 = v) : 0 ≤ oth (E.getD i (0, 0)) v ∧ oth (E.getD i (0, 0)) v < (P : Int) ∧ oth (E.getD i (0, 0)) v ≠ v := by
  have h1 := h.bar i hi
  have h2 := h.tail i hi
  rw [hv] at h2
  unfold isEnd at h2
  unfold oth
  omega
theorem GoodQ.scan {P : Nat} {E : List (Int × Int)} {T : List Int} {a : Int} {q : List (Int × Nat)} (h : GoodQ P E T a q) (he : EndsQ P E T) {v : Int} (hv : v ∈ q.map Prod.fst) : ∀ n, n ≤ E.length → GoodQ P E T a (scanN E T v q n) ∧ v ∈ (scanN E T v q n).map Prod.fst := by
  intro n
  induction n with
  | zero => intro _; exact ⟨h, hv⟩
  | succ n ih =>
    intro hn
    obtain ⟨i1, i2⟩ := ih (by omega)
    have e : scanN E T v q (n + 1) = scan1 E T v (scanN E T v q n) n := rfl
    rw [e]
    unfold scan1
    by_cases c : T.getD n 0 = v ∧ oth (E.getD n (0, 0)) v ∉ (scanN E T v q n).map Prod.fst
    · rw [if_pos c]
      have ho := he.oth_in (i := n) (by omega) c.1
      refine ⟨i1.snoc c.2 (by show n < E.length; omega) ?_ ?_ ⟨ho.1, ho.2.1⟩, ?_⟩
      · show T.getD n 0 = oth (E.getD n (0, 0)) (oth (E.getD n (0, 0)) v)
        rw [oth_oth]
        exact c.1
      · show T.getD n 0 ∈ _
        rw [c.1]
        exact i2
      · rw [List.map_append]
        exact List.mem_append_left _ i2
    · rw [if_neg c]
      exact ⟨i1, i2⟩
theorem getD_mem_fst (q : List (Int × Nat)) (k : Nat) (h : k < q.length) : (q.getD k (0, 0)).1 ∈ q.map Prod.fst := by
  have : q.getD k (0, 0) = q[k] := by simp [List.getD, List.getElem?_eq_getElem h]
  rw [this]
  exact List.mem_map_of_mem (List.getElem_mem h)
theorem bfs_good {P : Nat} {E : List (Int × Int)} {T : List Int} {a : Int} (he : EndsQ P E T) (h0 : 0 ≤ a) (h1 : a < (P : Int)) : ∀ k, GoodQ P E T a (bfs E T a k) := by
  intro k
  induction k with
  | zero => exact goodQ_one E T h0 h1
  | succ k ih =>
    rw [bfs_succ]
    split
    · rename_i h
      exact (ih.scan he (getD_mem_fst _ k h) E.length (Nat.le_refl _)).1
    · exact ih

/-- The queue, whole. -/
def bfsQ (E : List (Int × Int)) (T : List Int) (a : Int) : List (Int × Nat) := bfs E T a (max E.length 8)
/-- A point that can give a pebble. -/
def givesB (F : List Int) (a b : Int) (x : Int × Nat) : Bool := decide (x.1 ≠ a) && decide (x.1 ≠ b) && decide (0 < F.getD x.1.toNat 0)
theorem bfsQ_pre (E : List (Int × Int)) (T : List Int) (a : Int) (k : Nat) (h : k ≤ 8) : ∃ r, bfsQ E T a = bfs E T a k ++ r := by
  have := bfs_pre E T a k (max E.length 8 - k)
  rw [show k + (max E.length 8 - k) = max E.length 8 by omega] at this
  exact this
theorem find_front {α : Type} (p : α → Bool) (q r : List α) (x : α) (h : ∀ y ∈ q, p y = false) (hx : p x = true) : (q ++ x :: r).find? p = some x := by
  rw [List.find?_append, List.find?_eq_none.2 fun y hy => by rw [h y hy]; simp]
  simp [hx]
/-- The specification's walk ends here. -/
theorem find_spec {E : List (Int × Int)} {T F : List Int} {a b : Int} (k i : Nat) (hk : k < (bfs E T a k).length) (hk8 : k < 8) (hi : i < E.length) {v : Int} (hv : ((bfs E T a k).getD k (0, 0)).1 = v) (ht : T.getD i 0 = v)
    (hno : ∀ y ∈ scanN E T v (bfs E T a k) i, givesB F a b y = false) (hu : oth (E.getD i (0, 0)) v ∉ (scanN E T v (bfs E T a k) i).map Prod.fst) (hg : givesB F a b (oth (E.getD i (0, 0)) v, i) = true) :
    (bfsQ E T a).find? (givesB F a b) = some (oth (E.getD i (0, 0)) v, i) ∧ ∃ r, bfsQ E T a = scanN E T v (bfs E T a k) i ++ (oth (E.getD i (0, 0)) v, i) :: r := by
  have e : ∃ r, bfsQ E T a = scanN E T v (bfs E T a k) i ++ (oth (E.getD i (0, 0)) v, i) :: r := by
    obtain ⟨r, h⟩ := bfsQ_pre E T a (k + 1) (by omega)
    have h1 : bfs E T a (k + 1) = scanN E T v (bfs E T a k) E.length := by rw [bfs_succ, if_pos hk, hv]
    obtain ⟨s, h2⟩ := scanN_mono E T v (bfs E T a k) (i + 1) (E.length - (i + 1))
    rw [show i + 1 + (E.length - (i + 1)) = E.length by omega] at h2
    have h3 : scanN E T v (bfs E T a k) (i + 1) = scanN E T v (bfs E T a k) i ++ [(oth (E.getD i (0, 0)) v, i)] := by
      show scan1 E T v _ i = _
      unfold scan1
      rw [if_pos ⟨ht, hu⟩]
    exact ⟨s ++ r, by rw [h, h1, h2, h3]; simp⟩
  obtain ⟨r, e⟩ := e
  exact ⟨by rw [e]; exact find_front _ _ _ _ hno hg, r, e⟩
/-- The program's walk ends here. -/
theorem find_impl {E : List (Int × Int)} {T F : List Int} {a b : Int} (k : Nat) (hk : k < (bfs E T a k).length) (hk8 : k < 8)
    (hno : ∀ y ∈ (bfs E T a k).take k, givesB F a b y = false) (hg : givesB F a b ((bfs E T a k).getD k (0, 0)) = true) :
    (bfsQ E T a).find? (givesB F a b) = some ((bfs E T a k).getD k (0, 0)) ∧ ∃ r, bfsQ E T a = (bfs E T a k).take k ++ ((bfs E T a k).getD k (0, 0)) :: r := by
  obtain ⟨r, h⟩ := bfsQ_pre E T a k (by omega)
  have e : bfsQ E T a = (bfs E T a k).take k ++ ((bfs E T a k).getD k (0, 0)) :: ((bfs E T a k).drop (k + 1) ++ r) := by
    rw [h]
    have h1 := List.take_append_drop k (bfs E T a k)
    have h2 := List.drop_eq_getElem_cons hk
    have h3 : (bfs E T a k).getD k (0, 0) = (bfs E T a k)[k] := by simp [List.getD, List.getElem?_eq_getElem hk]
    rw [h3]
    calc bfs E T a k ++ r = ((bfs E T a k).take k ++ (bfs E T a k).drop k) ++ r := by rw [h1]
      _ = _ := by rw [h2, List.append_assoc]; rfl
  exact ⟨by rw [e]; exact find_front _ _ _ _ hno hg, _, e⟩
/-- Neither finds a point. -/
theorem find_no {E : List (Int × Int)} {T F : List Int} {a b : Int} (k : Nat) (hk : (bfs E T a k).length ≤ k) (hk8 : k ≤ 8) (hno : ∀ y ∈ bfs E T a k, givesB F a b y = false) : (bfsQ E T a).find? (givesB F a b) = none := by
  have e : bfsQ E T a = bfs E T a k := by
    have := bfs_stop E T a k (max E.length 8 - k) hk
    rw [show k + (max E.length 8 - k) = max E.length 8 by omega] at this
    exact this
  rw [e]
  exact List.find?_eq_none.2 fun y hy => by rw [hno y hy]; simp

/-- The path from 'at' back to a, turned round; the queue is read from its end. -/
def turnQ (E : List (Int × Int)) (a : Int) : List (Int × Nat) → Int → List Int → List Int
  | [], _, T => T
  | (v, i) :: r, t, T => if v = t ∧ t ≠ a then turnQ E a r (oth (E.getD i (0, 0)) t) (T.set i t) else turnQ E a r t T
theorem turnQ_a (E : List (Int × Int)) (a : Int) (r : List (Int × Nat)) (T : List Int) : turnQ E a r a T = T := by
  induction r with
  | nil => rfl
  | cons x r ih =>
    obtain ⟨v, i⟩ := x
    unfold turnQ
    rw [if_neg (by simp), ih]
theorem turnQ_skip (E : List (Int × Int)) (a t : Int) (q r : List (Int × Nat)) (T : List Int) (h : t ∉ q.map Prod.fst) : turnQ E a (q ++ r) t T = turnQ E a r t T := by
  induction q with
  | nil => rfl
  | cons x q ih =>
    obtain ⟨v, i⟩ := x
    simp only [List.map_cons, List.mem_cons, not_or] at h
    rw [List.cons_append, turnQ, if_neg (fun c => h.1 c.1.symm), ih h.2]
theorem turnQ_step (E : List (Int × Int)) (a t : Int) (i : Nat) (q1 q2 : List (Int × Nat)) (T : List Int) (h : t ∉ q2.map Prod.fst) (ha : t ≠ a) :
    turnQ E a (q1 ++ (t, i) :: q2).reverse t T = turnQ E a q1.reverse (oth (E.getD i (0, 0)) t) (T.set i t) := by
  rw [show (q1 ++ (t, i) :: q2).reverse = q2.reverse ++ ((t, i) :: q1.reverse) by simp, turnQ_skip _ _ _ _ _ _ (by simpa using h), turnQ, if_pos ⟨rfl, ha⟩]
theorem GoodQ.nodup {P : Nat} {E : List (Int × Int)} {T : List Int} {a : Int} {q : List (Int × Nat)} (h : GoodQ P E T a q) {q1 q2 : List (Int × Nat)} {x : Int × Nat} (e : q = q1 ++ x :: q2) : x.1 ∉ q2.map Prod.fst := by
  intro hm
  obtain ⟨y, hy, e1⟩ := List.mem_map.1 hm
  obtain ⟨q3, q4, rfl⟩ := List.append_of_mem hy
  have := (h.step (q1 ++ x :: q3) y q4 (by rw [e]; simp) (by simp)).1
  rw [e1] at this
  exact this (by simp)
theorem GoodQ.pre {P : Nat} {E : List (Int × Int)} {T : List Int} {a : Int} {q r : List (Int × Nat)} (h : GoodQ P E T a (q ++ r)) (hne : q ≠ []) : (∃ s, q = (a, 0) :: s) ∧ ∀ q1 x q2, q = q1 ++ x :: q2 → q1 ≠ [] → x.1 ∉ q1.map Prod.fst ∧ x.2 < E.length ∧ T.getD x.2 0 = oth (E.getD x.2 (0, 0)) x.1 ∧ T.getD x.2 0 ∈ q1.map Prod.fst ∧ 0 ≤ x.1 ∧ x.1 < (P : Int) := by
  refine ⟨?_, fun q1 x q2 e hn => h.step q1 x (q2 ++ r) (by rw [e]; simp) hn⟩
  obtain ⟨s, e⟩ := h.start
  cases q with
  | nil => exact absurd rfl hne
  | cons y t =>
    rw [List.cons_append] at e
    cases e
    exact ⟨t, rfl⟩
end Go.Proofs.Ytdkpmaahinbhlaa
/- The pebble game on lists: what a move keeps, gathering, placing, the whole game. No program. No condition. -/
namespace Go.Proofs.Ytdkpmaahinbhlaa

/-- A queue, or what stands in front in one. -/
def PathQ (P : Nat) (E : List (Int × Int)) (T : List Int) (a : Int) (q : List (Int × Nat)) : Prop :=
  (∃ s, q = (a, 0) :: s) ∧ ∀ q1 x q2, q = q1 ++ x :: q2 → q1 ≠ [] → x.1 ∉ q1.map Prod.fst ∧ x.2 < E.length ∧ T.getD x.2 0 = oth (E.getD x.2 (0, 0)) x.1 ∧ T.getD x.2 0 ∈ q1.map Prod.fst ∧ 0 ≤ x.1 ∧ x.1 < (P : Int)
theorem GoodQ.path {P : Nat} {E : List (Int × Int)} {T : List Int} {a : Int} {q : List (Int × Nat)} (h : GoodQ P E T a q) : PathQ P E T a q := ⟨h.start, h.step⟩
theorem PathQ.pre {P : Nat} {E : List (Int × Int)} {T : List Int} {a : Int} {q r : List (Int × Nat)} (h : PathQ P E T a (q ++ r)) (hne : q ≠ []) : PathQ P E T a q := by
  refine ⟨?_, fun q1 x q2 e hn => h.2 q1 x (q2 ++ r) (by rw [e]; simp) hn⟩
  obtain ⟨s, e⟩ := h.1
  cases q with
  | nil => exact absurd rfl hne
  | cons y t =>
    rw [List.cons_append] at e
    cases e
    exact ⟨t, rfl⟩
theorem PathQ.nodup {P : Nat} {E : List (Int × Int)} {T : List Int} {a : Int} {q : List (Int × Nat)} (h : PathQ P E T a q) {q1 q2 : List (Int × Nat)} {x : Int × Nat} (e : q = q1 ++ x :: q2) : x.1 ∉ q2.map Prod.fst := by
  intro hm
  obtain ⟨y, hy, e1⟩ := List.mem_map.1 hm
  obtain ⟨q3, q4, rfl⟩ := List.append_of_mem hy
  have := (h.2 (q1 ++ x :: q3) y q4 (by rw [e]; simp) (by simp)).1
  rw [e1] at this
  exact this (by simp)
/-- A point of the queue that is not its first. -/
theorem PathQ.at {P : Nat} {E : List (Int × Int)} {T : List Int} {a t : Int} {q : List (Int × Nat)} (h : PathQ P E T a q) (ht : t ∈ q.map Prod.fst) (ha : t ≠ a) :
    ∃ i q1 q2, q = q1 ++ (t, i) :: q2 ∧ t ∉ q2.map Prod.fst ∧ t ∉ q1.map Prod.fst ∧ i < E.length ∧ T.getD i 0 = oth (E.getD i (0, 0)) t ∧ oth (E.getD i (0, 0)) t ∈ q1.map Prod.fst ∧ 0 ≤ t ∧ t < (P : Int) ∧ PathQ P E T a q1 := by
  obtain ⟨x, hx, e1⟩ := List.mem_map.1 ht
  obtain ⟨q1, q2, rfl⟩ := List.append_of_mem hx
  obtain ⟨v, i⟩ := x
  simp only at e1
  subst e1
  have hne : q1 ≠ [] := by
    rintro rfl
    obtain ⟨s, e⟩ := h.1
    cases e
    exact ha rfl
  have hs := h.2 q1 (v, i) q2 rfl hne
  exact ⟨i, q1, q2, rfl, h.nodup rfl, hs.1, hs.2.1, hs.2.2.1, hs.2.2.1 ▸ hs.2.2.2.1, hs.2.2.2.2.1, hs.2.2.2.2.2, PathQ.pre h hne⟩
/-- A bar that was turned is not met again. -/
theorem PathQ.other {P : Nat} {E : List (Int × Int)} {T : List Int} {a t : Int} {q : List (Int × Nat)} (h : PathQ P E T a q) (ht : t ∉ q.map Prod.fst) {i : Nat} (hi : T.getD i 0 = oth (E.getD i (0, 0)) t) {x : Int × Nat} (hx : x ∈ q) (hxa : x.1 ≠ a) : x.2 ≠ i := by
  intro e
  obtain ⟨j, q1, q2, e1, _, _, _, h4, _⟩ := h.at (List.mem_map_of_mem hx) hxa
  obtain ⟨q3, q4, e2⟩ := List.append_of_mem hx
  have hne : q3 ≠ [] := by
    rintro rfl
    obtain ⟨s, e⟩ := h.1
    rw [e2] at e
    cases e
    exact hxa rfl
  have h5 := (h.2 q3 x q4 e2 hne).2.2.1
  rw [e, hi] at h5
  have : t = x.1 := by rw [← oth_oth (E.getD i (0, 0)) t, h5, oth_oth]
  exact ht (this ▸ List.mem_map_of_mem hx)
theorem set_getD_ne {α : Type} (l : List α) (i j : Nat) (x z : α) (h : j ≠ i) : (l.set i x).getD j z = l.getD j z := by
  simp only [List.getD]
  rw [List.getElem?_set_ne (by omega)]
theorem set_getD_eq {α : Type} (l : List α) (i : Nat) (x z : α) (h : i < l.length) : (l.set i x).getD i z = x := by
  simp [List.getD, h]
theorem cnt_set (T : List Int) (i : Nat) (hi : i < T.length) (t v : Int) : (T.set i t).count v + (if v = T.getD i 0 then 1 else 0) = T.count v + if v = t then 1 else 0 := by
  have e : T.getD i 0 = T[i] := by simp [List.getD, List.getElem?_eq_getElem hi]
  rw [e, List.count_set hi]
  have hp : T[i] = v → 0 < T.count v := fun h => List.count_pos_iff.2 (h ▸ List.getElem_mem hi)
  by_cases h1 : v = T[i]
  · have := hp h1.symm
    by_cases h2 : v = t
    · simp [← h1, ← h2]; omega
    · have h2' : ¬ t = v := fun h => h2 h.symm
      simp [← h1, h2, h2']; omega
  · have h1' : ¬ T[i] = v := fun h => h1 h.symm
    by_cases h2 : v = t
    · subst h2; simp [h1, h1']
    · have h2' : ¬ t = v := fun h => h2 h.symm
      simp [h1, h1', h2, h2']
/-- What the turning of a path keeps. -/
theorem turn_facts {P : Nat} {E : List (Int × Int)} {T0 : List Int} {a : Int} : ∀ n (q : List (Int × Nat)), q.length ≤ n → PathQ P E T0 a q → ∀ t, t ∈ q.map Prod.fst → ∀ T : List Int, EndsQ P E T → (∀ x ∈ q, x.1 ≠ a → T.getD x.2 0 = T0.getD x.2 0) →
    EndsQ P E (turnQ E a q.reverse t T) ∧ ∀ v, (turnQ E a q.reverse t T).count v + (if v = a then 1 else 0) = T.count v + if v = t then 1 else 0 := by
  intro n
  induction n with
  | zero =>
    intro q hq hp
    obtain ⟨s, e⟩ := hp.1
    rw [e] at hq
    simp at hq
  | succ n ih =>
    intro q hq hp t ht T he hT
    by_cases ha : t = a
    · subst ha
      rw [turnQ_a]
      exact ⟨he, fun v => rfl⟩
    · obtain ⟨i, q1, q2, rfl, h1, h2, h3, h4, h5, h6, h7, h8⟩ := hp.at ht ha
      rw [turnQ_step E a t i q1 q2 T h1 ha]
      have hTi : T.getD i 0 = oth (E.getD i (0, 0)) t := (hT (t, i) (by simp) ha).trans h4
      have hi : i < T.length := by rw [he.len]; exact h3
      have he' : EndsQ P E (T.set i t) := by
        refine ⟨by rw [List.length_set]; exact he.len, he.bar, fun j hj => ?_⟩
        by_cases e : j = i
        · subst e
          rw [set_getD_eq _ _ _ _ hi]
          have := he.tail j hj
          rw [hTi] at this
          have := oth_end this
          rwa [oth_oth] at this
        · rw [set_getD_ne _ _ _ _ _ e]
          exact he.tail j hj
      have hT' : ∀ x ∈ q1, x.1 ≠ a → (T.set i t).getD x.2 0 = T0.getD x.2 0 := fun x hx hxa => by
        rw [set_getD_ne _ _ _ _ _ (h8.other h2 h4 hx hxa)]
        exact hT x (List.mem_append_left _ hx) hxa
      obtain ⟨g1, g2⟩ := ih q1 (by simp at hq; omega) h8 _ h5 (T.set i t) he' hT'
      refine ⟨g1, fun v => ?_⟩
      have e1 := g2 v
      have e2 := cnt_set T i hi t v
      rw [hTi] at e2
      omega

/-- A pebble goes from u to a. -/
def movF (F : List Int) (a u : Int) : List Int := (F.set u.toNat (F.getD u.toNat 0 - 1)).set a.toNat (F.getD a.toNat 0 + 1)
theorem movF_len (F : List Int) (a u : Int) : (movF F a u).length = F.length := by simp [movF]
theorem movF_a (F : List Int) (a u : Int) (h : a.toNat < F.length) : (movF F a u).getD a.toNat 0 = F.getD a.toNat 0 + 1 := by
  unfold movF
  exact set_getD_eq _ _ _ _ (by simpa using h)
theorem movF_u (F : List Int) (a u : Int) (h : u.toNat < F.length) (hne : u.toNat ≠ a.toNat) : (movF F a u).getD u.toNat 0 = F.getD u.toNat 0 - 1 := by
  unfold movF
  rw [set_getD_ne _ _ _ _ _ hne]
  exact set_getD_eq _ _ _ _ h
theorem movF_ne (F : List Int) (a u : Int) (v : Nat) (h1 : v ≠ u.toNat) (h2 : v ≠ a.toNat) : (movF F a u).getD v 0 = F.getD v 0 := by
  unfold movF
  rw [set_getD_ne _ _ _ _ _ h2, set_getD_ne _ _ _ _ _ h1]

/-- A state in order: free pebbles and tails make k at each point. -/
structure PebS (P : Nat) (k : Int) (E : List (Int × Int)) (F T : List Int) : Prop where
  flen : F.length = P
  ends : EndsQ P E T
  free : ∀ v : Nat, v < P → 0 ≤ F.getD v 0 ∧ F.getD v 0 + (T.count (v : Int) : Int) = k
/-- One pebble is brought to a, none from b. -/
def findM (E : List (Int × Int)) (a b : Int) (s : List Int × List Int) : Option (List Int × List Int) :=
  ((bfsQ E s.2 a).find? (givesB s.1 a b)).map fun x => (movF s.1 a x.1, turnQ E a (bfsQ E s.2 a).reverse x.1 s.2)
theorem findM_ok {P : Nat} {k : Int} {E : List (Int × Int)} {F T : List Int} (h : PebS P k E F T) {a b : Int} (ha : 0 ≤ a ∧ a < (P : Int)) (hab : a ≠ b) (hb : 0 ≤ b) {s : List Int × List Int} (e : findM E a b (F, T) = some s) :
    PebS P k E s.1 s.2 ∧ s.1.getD a.toNat 0 = F.getD a.toNat 0 + 1 ∧ s.1.getD b.toNat 0 = F.getD b.toNat 0 := by
  unfold findM at e
  obtain ⟨x, hx, rfl⟩ := Option.map_eq_some_iff.1 e
  have hg := List.find?_some hx
  have hm := List.mem_of_find?_eq_some hx
  unfold givesB at hg
  simp only [Bool.and_eq_true, decide_eq_true_eq] at hg
  obtain ⟨⟨g1, g2⟩, g3⟩ := hg
  have hgood := bfs_good h.ends ha.1 ha.2 (max E.length 8)
  have hp : PathQ P E T a (bfsQ E T a) := hgood.path
  obtain ⟨i, q1, q2, _, _, _, _, _, _, h6, h7, _⟩ := hp.at (List.mem_map_of_mem hm) g1
  obtain ⟨t1, t2⟩ := turn_facts (bfsQ E T a).length _ (Nat.le_refl _) hp _ (List.mem_map_of_mem hm) T h.ends fun _ _ _ => rfl
  have hu : x.1.toNat < F.length := by rw [h.flen]; omega
  have hal : a.toNat < F.length := by rw [h.flen]; omega
  have hne : x.1.toNat ≠ a.toNat := by omega
  refine ⟨⟨by rw [movF_len]; exact h.flen, t1, fun v hv => ?_⟩, movF_a F a x.1 hal, ?_⟩
  · have hc := t2 (v : Int)
    have hf := h.free v hv
    show 0 ≤ (movF F a x.1).getD v 0 ∧ (movF F a x.1).getD v 0 + ((turnQ E a (bfsQ E T a).reverse x.1 T).count (v : Int) : Int) = k
    have g3' : 0 < F.getD x.1.toNat 0 := g3
    by_cases c1 : v = a.toNat
    · subst c1
      rw [movF_a F a x.1 hal]
      have e1 : ((a.toNat : Nat) : Int) = a := by omega
      rw [e1] at hc hf ⊢
      rw [if_pos rfl, if_neg (fun hh => g1 hh.symm)] at hc
      omega
    · by_cases c2 : v = x.1.toNat
      · subst c2
        rw [movF_u F a x.1 hu hne]
        have e1 : ((x.1.toNat : Nat) : Int) = x.1 := by omega
        rw [e1] at hc hf ⊢
        rw [if_neg g1, if_pos rfl] at hc
        omega
      · rw [movF_ne F a x.1 v c2 c1]
        rw [if_neg (by omega), if_neg (by omega)] at hc
        omega
  · exact movF_ne F a x.1 b.toNat (by omega) (by omega)

/-- Gathering, with the steps counted. -/
def gath (E : List (Int × Int)) (a b want : Int) : Nat → List Int × List Int → Option (List Int × List Int)
  | 0, _ => none
  | f + 1, s =>
    if s.1.getD a.toNat 0 + s.1.getD b.toNat 0 < want then
      match findM E a b s with
      | some s' => gath E a b want f s'
      | none =>
        match findM E b a s with
        | some s' => gath E a b want f s'
        | none => none
    else some s
def gathR (E : List (Int × Int)) (a b want : Int) (s : List Int × List Int) : Option (List Int × List Int) :=
  gath E a b want ((want - (s.1.getD a.toNat 0 + s.1.getD b.toNat 0)).toNat + 1) s
theorem gathR_done {E : List (Int × Int)} {a b want : Int} {s : List Int × List Int} (h : ¬ s.1.getD a.toNat 0 + s.1.getD b.toNat 0 < want) : gathR E a b want s = some s := by
  unfold gathR gath
  rw [if_neg h]
theorem gathR_one {E : List (Int × Int)} {a b want : Int} {s s' : List Int × List Int} (h : s.1.getD a.toNat 0 + s.1.getD b.toNat 0 < want) (e : findM E a b s = some s') (hs : s'.1.getD a.toNat 0 + s'.1.getD b.toNat 0 = s.1.getD a.toNat 0 + s.1.getD b.toNat 0 + 1) :
    gathR E a b want s = gathR E a b want s' := by
  conv => lhs; unfold gathR gath
  rw [if_pos h, e]
  unfold gathR
  rw [hs, show (want - (s.1.getD a.toNat 0 + s.1.getD b.toNat 0)).toNat = (want - (s.1.getD a.toNat 0 + s.1.getD b.toNat 0 + 1)).toNat + 1 by omega]
theorem gathR_two {E : List (Int × Int)} {a b want : Int} {s s' : List Int × List Int} (h : s.1.getD a.toNat 0 + s.1.getD b.toNat 0 < want) (e0 : findM E a b s = none) (e : findM E b a s = some s') (hs : s'.1.getD a.toNat 0 + s'.1.getD b.toNat 0 = s.1.getD a.toNat 0 + s.1.getD b.toNat 0 + 1) :
    gathR E a b want s = gathR E a b want s' := by
  conv => lhs; unfold gathR gath
  rw [if_pos h, e0, e]
  unfold gathR
  rw [hs, show (want - (s.1.getD a.toNat 0 + s.1.getD b.toNat 0)).toNat = (want - (s.1.getD a.toNat 0 + s.1.getD b.toNat 0 + 1)).toNat + 1 by omega]
theorem gathR_no {E : List (Int × Int)} {a b want : Int} {s : List Int × List Int} (h : s.1.getD a.toNat 0 + s.1.getD b.toNat 0 < want) (e0 : findM E a b s = none) (e : findM E b a s = none) : gathR E a b want s = none := by
  unfold gathR gath
  rw [if_pos h, e0, e]
theorem gath_ok {P : Nat} {k : Int} {E : List (Int × Int)} {a b want : Int} (ha : 0 ≤ a ∧ a < (P : Int)) (hb : 0 ≤ b ∧ b < (P : Int)) (hab : a ≠ b) : ∀ f (s s' : List Int × List Int), PebS P k E s.1 s.2 → gath E a b want f s = some s' → PebS P k E s'.1 s'.2 ∧ want ≤ s'.1.getD a.toNat 0 + s'.1.getD b.toNat 0 := by
  intro f
  induction f with
  | zero => intro s s' _ e; cases e
  | succ f ih =>
    intro s s' h e
    unfold gath at e
    by_cases c : s.1.getD a.toNat 0 + s.1.getD b.toNat 0 < want
    · rw [if_pos c] at e
      cases e1 : findM E a b s with
      | some s1 =>
        rw [e1] at e
        exact ih s1 s' (findM_ok h ha hab hb.1 e1).1 e
      | none =>
        rw [e1] at e
        cases e2 : findM E b a s with
        | some s1 =>
          rw [e2] at e
          exact ih s1 s' (findM_ok h hb (Ne.symm hab) ha.1 e2).1 e
        | none => rw [e2] at e; cases e
    · rw [if_neg c] at e
      cases e
      exact ⟨h, by omega⟩
theorem gathR_ok {P : Nat} {k : Int} {E : List (Int × Int)} {a b want : Int} (ha : 0 ≤ a ∧ a < (P : Int)) (hb : 0 ≤ b ∧ b < (P : Int)) (hab : a ≠ b) {s s' : List Int × List Int} (h : PebS P k E s.1 s.2) (e : gathR E a b want s = some s') : PebS P k E s'.1 s'.2 ∧ want ≤ s'.1.getD a.toNat 0 + s'.1.getD b.toNat 0 := gath_ok ha hb hab _ s s' h e
/-- The free pebbles of a state in order are few. -/
theorem PebS.small {P : Nat} {k : Int} {E : List (Int × Int)} {F T : List Int} (h : PebS P k E F T) {v : Int} (hv : 0 ≤ v ∧ v < (P : Int)) : 0 ≤ F.getD v.toNat 0 ∧ F.getD v.toNat 0 ≤ k := by
  have := h.free v.toNat (by omega)
  omega

/-- The bars that were placed. -/
def plE (l : List (Int × Int)) (Z : List Int) : List (Int × Int) := Z.map fun b => l.getD b.toNat (0, 0)
theorem plE_len (l : List (Int × Int)) (Z : List Int) : (plE l Z).length = Z.length := by simp [plE]
theorem plE_get (l : List (Int × Int)) (Z : List Int) (i : Nat) (h : i < Z.length) : (plE l Z).getD i (0, 0) = l.getD (Z.getD i 0).toNat (0, 0) := by
  simp [plE, List.getD, List.getElem?_eq_getElem h]
/-- A state of the game on a graph. -/
def IsPeb (p k : Int) (l : List (Int × Int)) (F T Z : List Int) : Prop :=
  IsG p l ∧ (1 ≤ k ∧ k ≤ 3) ∧ (F.length : Int) = p ∧ T.length = Z.length ∧
  (∀ i, i < Z.length → (0 ≤ Z.getD i 0 ∧ Z.getD i 0 < (l.length : Int)) ∧ (0 < i → Z.getD (i - 1) 0 < Z.getD i 0) ∧ isEnd (l.getD (Z.getD i 0).toNat (0, 0)) (T.getD i 0)) ∧
  ∀ v : Nat, v < F.length → 0 ≤ F.getD v 0 ∧ F.getD v 0 + (T.count (v : Int) : Int) = k
open Classical in
noncomputable def isPebB (p k : Int) (l : List (Int × Int)) (F T Z : List Int) : Bool := if IsPeb p k l F T Z then true else false
theorem isPebB_yes {p k : Int} {l : List (Int × Int)} {F T Z : List Int} (h : IsPeb p k l F T Z) : isPebB p k l F T Z = true := by unfold isPebB; rw [if_pos h]
theorem isPebB_no {p k : Int} {l : List (Int × Int)} {F T Z : List Int} (h : ¬ IsPeb p k l F T Z) : isPebB p k l F T Z = false := by unfold isPebB; rw [if_neg h]
theorem isPebB_is {p k : Int} {l : List (Int × Int)} {F T Z : List Int} (h : isPebB p k l F T Z = true) : IsPeb p k l F T Z := Classical.byContradiction fun g => by rw [isPebB_no g] at h; cases h
theorem IsPeb.state {p k : Int} {l : List (Int × Int)} {F T Z : List Int} (h : IsPeb p k l F T Z) : PebS F.length k (plE l Z) F T := by
  obtain ⟨h1, _, h3, h4, h5, h6⟩ := h
  refine ⟨rfl, ⟨by rw [plE_len]; exact h4, fun i hi => ?_, fun i hi => ?_⟩, h6⟩
  · rw [plE_len] at hi
    rw [plE_get _ _ _ hi, h3]
    have := h5 i hi
    have hb := h1.2.2 (Z.getD i 0).toNat (by omega)
    exact ⟨hb.1, hb.2.1, hb.2.2.1⟩
  · rw [plE_len] at hi
    rw [plE_get _ _ _ hi]
    exact (h5 i hi).2.2
theorem IsPeb.of {p k : Int} {l : List (Int × Int)} {F T Z F' T' : List Int} (h : IsPeb p k l F T Z) (hs : PebS F.length k (plE l Z) F' T') : IsPeb p k l F' T' Z := by
  obtain ⟨h1, h2, h3, h4, h5, _⟩ := h
  refine ⟨h1, h2, by rw [hs.flen]; exact h3, by rw [hs.ends.len, plE_len], fun i hi => ⟨(h5 i hi).1, (h5 i hi).2.1, ?_⟩, fun v hv => hs.free v (by rw [← hs.flen]; exact hv)⟩
  have := hs.ends.tail i (by rw [plE_len]; exact hi)
  rwa [plE_get _ _ _ hi] at this
/-- The last bar that was placed stands before all others. -/
theorem IsPeb.last {p k : Int} {l : List (Int × Int)} {F T Z : List Int} (h : IsPeb p k l F T Z) : ∀ i j, i ≤ j → j < Z.length → Z.getD i 0 ≤ Z.getD j 0 := by
  intro i j hij
  induction j with
  | zero => intro _; obtain rfl : i = 0 := by omega
            exact Int.le_refl _
  | succ j ih =>
    intro hj
    by_cases e : i = j + 1
    · subst e; exact Int.le_refl _
    · have h1 := ih (by omega) (by omega)
      have h2 := (h.2.2.2.2.1 (j + 1) hj).2.1 (by omega)
      rw [show j + 1 - 1 = j by omega] at h2
      omega

/-- What GatherPebbles answers. -/
noncomputable def gatV (p k : Int) (l : List (Int × Int)) (F T Z : List Int) (a b want : Int) : Option (List Int × List Int) :=
  if isPebB p k l F T Z = true ∧ (0 ≤ a ∧ a < p) ∧ (0 ≤ b ∧ b < p) ∧ a ≠ b ∧ 0 ≤ want ∧ want ≤ 2 * k then gathR (plE l Z) a b want (F, T) else none
/-- A bar is placed, if its ends can have enough pebbles. -/
def plaR (l : List (Int × Int)) (c : Int) (F T Z : List Int) (n : Int) : Option (List Int × List Int × List Int) :=
  (gathR (plE l Z) (l.getD n.toNat (0, 0)).1 (l.getD n.toNat (0, 0)).2 (c + 1) (F, T)).map fun s =>
    if s.1.getD (l.getD n.toNat (0, 0)).1.toNat 0 = 0 then (s.1.set (l.getD n.toNat (0, 0)).2.toNat (s.1.getD (l.getD n.toNat (0, 0)).2.toNat 0 - 1), s.2 ++ [(l.getD n.toNat (0, 0)).2], Z ++ [n])
    else (s.1.set (l.getD n.toNat (0, 0)).1.toNat (s.1.getD (l.getD n.toNat (0, 0)).1.toNat 0 - 1), s.2 ++ [(l.getD n.toNat (0, 0)).1], Z ++ [n])
/-- What PlaceBar answers. -/
noncomputable def plaV (p k c : Int) (l : List (Int × Int)) (F T Z : List Int) (n : Int) : Option (List Int × List Int × List Int) :=
  if isPebB p k l F T Z = true ∧ rangeB k c = true ∧ (0 ≤ n ∧ n < (l.length : Int)) ∧ (Z ≠ [] → Z.getD (Z.length - 1) 0 < n) then plaR l c F T Z n else none
theorem isPeb_push {p k : Int} {l : List (Int × Int)} {F T Z : List Int} (h : IsPeb p k l F T Z) {n : Int} (hn : 0 ≤ n ∧ n < (l.length : Int)) (hlast : Z ≠ [] → Z.getD (Z.length - 1) 0 < n) {t : Int} (ht : isEnd (l.getD n.toNat (0, 0)) t) (hf : 0 < F.getD t.toNat 0) :
    IsPeb p k l (F.set t.toNat (F.getD t.toNat 0 - 1)) (T ++ [t]) (Z ++ [n]) := by
  obtain ⟨h1, h2, h3, h4, h5, h6⟩ := h
  have hb := h1.2.2 n.toNat (by omega)
  have htr : 0 ≤ t ∧ t < p := by unfold OkBar at hb; unfold isEnd at ht; omega
  refine ⟨h1, h2, by rw [List.length_set]; exact h3, by simp [h4], fun i hi => ?_, fun v hv => ?_⟩
  · rw [List.length_append, List.length_cons, List.length_nil] at hi
    by_cases e : i = Z.length
    · subst e
      have e1 : (Z ++ [n]).getD Z.length 0 = n := by simp [List.getD]
      have e2 : (T ++ [t]).getD Z.length 0 = t := by rw [← h4]; simp [List.getD]
      rw [e1, e2]
      refine ⟨hn, fun h0 => ?_, ht⟩
      have e3 : (Z ++ [n]).getD (Z.length - 1) 0 = Z.getD (Z.length - 1) 0 := by
        simp only [List.getD]
        rw [List.getElem?_append_left (by omega)]
      rw [e3]
      exact hlast (by rintro rfl; simp at h0)
    · have hi' : i < Z.length := by omega
      have e1 : (Z ++ [n]).getD i 0 = Z.getD i 0 := by simp only [List.getD]; rw [List.getElem?_append_left hi']
      have e2 : (T ++ [t]).getD i 0 = T.getD i 0 := by simp only [List.getD]; rw [List.getElem?_append_left (by omega)]
      have e3 : (Z ++ [n]).getD (i - 1) 0 = Z.getD (i - 1) 0 := by simp only [List.getD]; rw [List.getElem?_append_left (by omega)]
      rw [e1, e2, e3]
      exact h5 i hi'
  · rw [List.length_set] at hv
    have hc := h6 v hv
    rw [List.count_append, List.count_singleton]
    by_cases e : v = t.toNat
    · subst e
      have e1 : ((t.toNat : Nat) : Int) = t := by omega
      rw [set_getD_eq _ _ _ _ hv]
      rw [e1] at hc ⊢
      have e4 : (t == t) = true := by simp
      rw [if_pos e4]
      constructor
      · omega
      · rw [Int.natCast_add]
        omega
    · rw [set_getD_ne _ _ _ _ _ e]
      have e4 : ¬ ((t == (v : Int)) = true) := by simp; omega
      rw [if_neg e4]
      exact hc
theorem plaR_ok {p k c : Int} {l : List (Int × Int)} {F T Z : List Int} (h : IsPeb p k l F T Z) (hc : 0 ≤ c) {n : Int} (hn : 0 ≤ n ∧ n < (l.length : Int)) (hlast : Z ≠ [] → Z.getD (Z.length - 1) 0 < n) {s : List Int × List Int × List Int} (e : plaR l c F T Z n = some s) :
    IsPeb p k l s.1 s.2.1 s.2.2 ∧ s.2.2 = Z ++ [n] := by
  unfold plaR at e
  obtain ⟨s1, h1, rfl⟩ := Option.map_eq_some_iff.1 e
  have hb := h.1.2.2 n.toNat (by omega)
  have hp := h.2.2.1
  obtain ⟨g1, g2⟩ := gathR_ok (P := F.length) (k := k) (by rw [hp]; unfold OkBar at hb; omega) (by rw [hp]; unfold OkBar at hb; omega) (by unfold OkBar at hb; omega) (by exact h.state) h1
  have hi := h.of g1
  split
  · rename_i h0
    exact ⟨isPeb_push hi hn hlast (.inr rfl) (by omega), rfl⟩
  · rename_i h0
    have := hi.state.small (v := (l.getD n.toNat (0, 0)).1) (by rw [hi.2.2.1]; unfold OkBar at hb; omega)
    exact ⟨isPeb_push hi hn hlast (.inl rfl) (by omega), rfl⟩
/-- The game after n bars. -/
def runN (P : Nat) (k c : Int) (l : List (Int × Int)) : Nat → List Int × List Int × List Int
  | 0 => (List.replicate P k, [], [])
  | n + 1 => (plaR l c (runN P k c l n).1 (runN P k c l n).2.1 (runN P k c l n).2.2 (n : Int)).getD (runN P k c l n)
theorem runN_ok {P : Nat} {k c : Int} {l : List (Int × Int)} (hG : IsG (P : Int) l) (hk : 1 ≤ k ∧ k ≤ 3) (hc : 0 ≤ c) : ∀ n, n ≤ l.length → IsPeb (P : Int) k l (runN P k c l n).1 (runN P k c l n).2.1 (runN P k c l n).2.2 ∧ (runN P k c l n).2.2.length ≤ n ∧ ((runN P k c l n).2.2 ≠ [] → (runN P k c l n).2.2.getD ((runN P k c l n).2.2.length - 1) 0 < (n : Int)) := by
  intro n
  induction n with
  | zero =>
    intro _
    refine ⟨⟨hG, hk, by simp [runN], rfl, fun i hi => absurd hi (by simp [runN]), fun v hv => ?_⟩, Nat.le_refl _, fun h => absurd rfl h⟩
    have : v < P := by simpa [runN] using hv
    simp [runN, List.getD, this]
    omega
  | succ n ih =>
    intro hn
    obtain ⟨h1, h2, h3⟩ := ih (by omega)
    unfold runN
    cases e : plaR l c (runN P k c l n).1 (runN P k c l n).2.1 (runN P k c l n).2.2 (n : Int) with
    | none =>
      simp only [Option.getD_none]
      exact ⟨h1, by omega, fun h => by have := h3 h; omega⟩
    | some s =>
      simp only [Option.getD_some]
      obtain ⟨g1, g2⟩ := plaR_ok h1 hc (n := (n : Int)) (by omega) h3 e
      refine ⟨g1, by rw [g2]; simp; omega, fun _ => ?_⟩
      rw [g2]
      simp [List.getD]
      omega
end Go.Proofs.Ytdkpmaahinbhlaa
/- A slice of ints that a law is handed, and the laws' copy of it (toIntS). No condition. -/
namespace Go.Proofs.Ytdkpmaahinbhlaa
open Go.RowKit

/-- A slice of integers that came in: nil, or a row whose first 'len' cells are its elements. -/
def IsRow (k : IntKind) (w : World) (a : Option Addr) (len cap : Nat) (zs : List Int) : Prop :=
  (a = none ∧ len = 0 ∧ cap = 0 ∧ zs = []) ∨
  ∃ x, a = some x ∧ len ≤ cap ∧ cap ≤ maxLen ∧ zs.length = cap ∧ (∀ i, i < zs.length → w.cell? (x.add i) = some (.int k (zs.getD i 0))) ∧ ∀ n ∈ zs, (Lit.int k n).wf = true
theorem IsRow.ints {w : World} {a : Option Addr} {len cap : Nat} {zs : List Int} (h : IsRow .i64 w a len cap zs) : ∃ ys : List Int, ys.length = len ∧ IntsIn w 0 w.heap.size a ys ∧ len ≤ maxLen := by
  rcases h with ⟨rfl, rfl, rfl, rfl⟩ | ⟨x, rfl, h1, h2, h3, h4, _⟩
  · exact ⟨[], rfl, ⟨Nat.le_refl _, fun h => absurd h (by simp)⟩, Nat.zero_le _⟩
  · refine ⟨zs.take len, by simp; omega, ⟨Nat.le_refl _, fun hl => ?_⟩, Nat.le_trans h1 h2⟩
    have hl' : 0 < zs.length := by simp at hl; omega
    obtain ⟨b, off, spot⟩ := x
    have hs : spot = none := by simpa [Addr.add] using World.cell?_spot (h4 0 hl')
    subst hs
    have hadd : ∀ k, (⟨b, off, none⟩ : Addr).add k = ⟨b, off + k, none⟩ := fun k => by unfold Addr.add; split <;> simp_all
    have h0 := h4 0 hl'
    rw [hadd] at h0
    refine ⟨b, off, rfl, Nat.zero_le _, World.block_lt_of_cell? w _ h0, fun k hk => ?_⟩
    have hk' : k < len ∧ k < zs.length := by simp at hk; omega
    have := h4 k hk'.2
    rw [hadd] at this
    rw [this]
    simp [List.getD, hk'.1]

theorem intsOf_zero (n : Nat) : List.replicate n (Value.int .i64 0) = intCells (List.replicate n 0) := by simp [intCells]
theorem ints_step (zs : List Int) (k : Nat) (h : k < zs.length) : (intCells (zs.take k ++ List.replicate (zs.length - k) 0)).set k (.int .i64 (zs.getD k 0)) = intCells (zs.take (k + 1) ++ List.replicate (zs.length - (k + 1)) 0) := by
  unfold intCells
  rw [← List.map_set]
  congr 1
  have hl0 : (zs.take k).length = k := by simp; omega
  obtain ⟨r, hr⟩ : ∃ r, zs.length - k = r + 1 := ⟨zs.length - k - 1, by omega⟩
  rw [List.set_append_right _ _ (by omega), hl0, Nat.sub_self, hr, List.replicate_succ, List.set_cons_zero, List.take_succ_eq_append_getElem h, show zs.length - (k + 1) = r by omega, List.append_assoc]
  simp [List.getD, List.getElem?_eq_getElem h]

end Go.Proofs.Ytdkpmaahinbhlaa
/- A graph that a law is handed by value, opened, with the bounds of its bars' ends; a row of ints with the bounds of its elements. No condition. -/
namespace Go.Proofs.Ytdkpmaahinbhlaa
open Go.RowKit Go.Joins Go.ChangeShapes Go.WideShapes Go.Deep

theorem IsRow.intsW {w : World} {a : Option Addr} {len cap : Nat} {zs : List Int} (h : IsRow .i64 w a len cap zs) : ∃ ys : List Int, ys.length = len ∧ IntsIn w 0 w.heap.size a ys ∧ len ≤ maxLen ∧ WfI ys := by
  rcases h with ⟨rfl, rfl, rfl, rfl⟩ | ⟨x, rfl, h1, h2, h3, h4, h5⟩
  · exact ⟨[], rfl, ⟨Nat.le_refl _, fun h => absurd h (by simp)⟩, Nat.zero_le _, fun k hk => absurd hk (by simp)⟩
  · refine ⟨zs.take len, by simp; omega, ⟨Nat.le_refl _, fun hl => ?_⟩, Nat.le_trans h1 h2, fun k hk => ?_⟩
    · have hl' : 0 < zs.length := by simp at hl; omega
      obtain ⟨b, off, spot⟩ := x
      have hs : spot = none := by simpa [Addr.add] using World.cell?_spot (h4 0 hl')
      subst hs
      have hadd : ∀ k, (⟨b, off, none⟩ : Addr).add k = ⟨b, off + k, none⟩ := fun k => by unfold Addr.add; split <;> simp_all
      have h0 := h4 0 hl'
      rw [hadd] at h0
      refine ⟨b, off, rfl, Nat.zero_le _, World.block_lt_of_cell? w _ h0, fun k hk => ?_⟩
      have hk' : k < len ∧ k < zs.length := by simp at hk; omega
      have := h4 k hk'.2
      rw [hadd] at this
      rw [this]
      simp [List.getD, hk'.1]
    · have hk' : k < len ∧ k < zs.length := by simp at hk; omega
      refine h5 _ ?_
      have : (zs.take len).getD k 0 = zs[k] := by simp [List.getD, hk'.1, List.getElem?_eq_getElem hk'.2]
      rw [this]
      exact List.getElem_mem hk'.2

section
variable {H : Type} {enc : TypeId × Value → H} {w : World} {base : Nat}

/-- A slice of the law's bars. -/
theorem open_barsW {n : Nat} {v : Value} {y : DataW H × List MemPlace} (h : DataW.trod enc Try.prog w 0 (fun _ => true) true n 77 [v] = some y) :
    ∃ (A : Option Addr) (cap : Nat) (l : List (Int × Int)), v = .slice A l.length cap ∧ l.length ≤ maxLen ∧ BarsAt w w.heap.size A l ∧ WfB l := by
  rcases open_slice_pairs Try.underlying77 Try.underlying197 (by kernel_rfl) rfl rfl (by kernel_rfl) (by kernel_rfl) h with ⟨hv, _⟩ | ⟨a, len, cap, m, fuel, V0, V1, D0, D1, P0, P1, hv, _, hlc, hcm, hm, _, hi⟩
  · refine ⟨none, 0, [], ?_, by simp, fun h => absurd h (by simp), fun k hk => absurd hk (by simp)⟩
    simpa using hv
  · have hm' : m = cap := by simpa using hm
    have hadd : ∀ (b off k : Nat), (⟨b, off, none⟩ : Addr).add k = ⟨b, off + k, none⟩ := fun b off k => by unfold Addr.add; split <;> simp_all
    have key : ∀ k, k < len → ∃ x z : Int, V0 k = .int .i64 x ∧ V1 k = .int .i64 z ∧ Wf x ∧ Wf z := fun k hk => by
      obtain ⟨_, _, t0, t1⟩ := hi k (by omega)
      obtain ⟨x, e0, _, w0⟩ := DataW.trod_int Try.underlying3 t0
      obtain ⟨z, e1, _, w1⟩ := DataW.trod_int Try.underlying3 t1
      exact ⟨x, z, by simpa using e0, by simpa using e1, w0, w1⟩
    refine ⟨some a, cap, (List.range len).map fun i => (intOf (V0 i), intOf (V1 i)), by simpa using hv, by simp; omega, fun hl => ?_, fun k hk => ?_⟩
    · have hl' : 0 < len := by simpa using hl
      obtain ⟨b, off, spot⟩ := a
      have hs : spot = none := by simpa [Addr.add] using World.cell?_spot (hi 0 (by omega)).1
      subst hs
      have h0 := (hi 0 (by omega)).1
      rw [hadd] at h0
      refine ⟨b, off, rfl, World.block_lt_of_cell? w _ h0, fun k hk => ?_⟩
      have hk' : k < len := by simpa using hk
      obtain ⟨c0, c1, _, _⟩ := hi k (by omega)
      obtain ⟨x, z, g0, g1, _, _⟩ := key k hk'
      rw [hadd] at c0 c1
      have hg : ((List.range len).map fun i => (intOf (V0 i), intOf (V1 i))).getD k (0, 0) = (x, z) := by
        simp [List.getD, hk', g0, g1, intOf]
      rw [hg, c0, g0, show off + k * 2 + 1 = off + (k * 2 + 1) by omega, c1, g1]
      exact ⟨rfl, rfl⟩
    · have hk' : k < len := by simpa using hk
      obtain ⟨x, z, g0, g1, w0, w1⟩ := key k hk'
      have hg : ((List.range len).map fun i => (intOf (V0 i), intOf (V1 i))).getD k (0, 0) = (x, z) := by
        simp [List.getD, hk', g0, g1, intOf]
      rw [hg]
      exact ⟨w0, w1⟩

set_option maxRecDepth 100000 in
theorem open_graphW {r : Reach} {b0 : Nat} {v : Value} {d : DataW H} {p : List MemPlace} (hv : Value.okWide Try.prog w r b0 79 v) (h : DataW.Trod enc Try.prog w 0 (fun _ => true) true 79 v d p) :
    ∃ (q : Int) (A : Option Addr) (cap : Nat) (l : List (Int × Int)), v = .agg #[.int .i64 q, .slice A l.length cap] ∧ l.length ≤ maxLen ∧ BarsAt w w.heap.size A l ∧ WfB l := by
  obtain ⟨v0, v1, y0, y1, n, rfl, _, _, h0, h1⟩ := open_agg2 Try.underlying79 (by kernel_rfl) (by kernel_rfl) hv h
  obtain ⟨q, e0, _⟩ := DataW.trod_int Try.underlying3 h0
  obtain ⟨A, cap, l, e1, hl, hb, hw⟩ := open_barsW h1
  subst e1
  have e0' : v0 = .int .i64 q := by simpa using e0
  subst e0'
  exact ⟨q, A, cap, l, rfl, hl, hb, hw⟩
end
end Go.Proofs.Ytdkpmaahinbhlaa
/- What a function returns that answers with a row of ints of the call's own. No condition. -/
namespace Go.Proofs.Ytdkpmaahinbhlaa
open Go.RowKit

/-- A row of ints of the call's own. -/
def IntsO (w : World) (zs : List Int) (e : Ending) (w' : World) : Prop :=
  ∃ A cap, e = .returned (.slice A zs.length cap) ∧ OwnInts w' w.heap.size w'.heap.size A cap zs ∧ Below w.heap.size w w'
theorem OwnInts.widen {W : World} {lo hi lo' hi' : Nat} {A : Option Addr} {cap : Nat} {zs : List Int} (h : OwnInts W lo hi A cap zs) (h1 : lo' ≤ lo) (h2 : hi ≤ hi') (h3 : hi' ≤ W.heap.size) : OwnInts W lo' hi' A cap zs :=
  ⟨h3, by
    rcases h.2 with h4 | ⟨g, e, h5, h6, ho⟩
    · exact .inl h4
    · exact .inr ⟨g, e, by omega, by omega, own_base ho h1⟩⟩
end Go.Proofs.Ytdkpmaahinbhlaa
/- A state of the pebble game by value: three rows of ints; how a law's argument is opened. No condition. -/
namespace Go.Proofs.Ytdkpmaahinbhlaa
open Go.RowKit Go.Joins Go.ChangeShapes Go.WideShapes Go.Deep

abbrev pebV (AF : Option Addr) (f cF : Nat) (AT : Option Addr) (t cT : Nat) (AZ : Option Addr) (z cZ : Nat) : Value := .agg #[.slice AF f cF, .slice AT t cT, .slice AZ z cZ]
/-- A state that is read: its rows lie in blocks from lo to hi. -/
structure Peb3 (W : World) (lo hi : Nat) (AF AT AZ : Option Addr) (F T Z : List Int) : Prop where
  f : IntsIn W lo hi AF F
  t : IntsIn W lo hi AT T
  z : IntsIn W lo hi AZ Z
theorem Peb3.within {W W' : World} {lo hi lo' hi' : Nat} {AF AT AZ : Option Addr} {F T Z : List Int} (h : Peb3 W lo hi AF AT AZ F T Z) (hw : Within lo' hi' W W') (hd : hi ≤ lo' ∨ hi' ≤ lo) : Peb3 W' lo hi AF AT AZ F T Z :=
  ⟨h.f.within hw hd, h.t.within hw hd, h.z.within hw hd⟩
theorem IntsIn.widen {W : World} {lo hi lo' hi' : Nat} {A : Option Addr} {zs : List Int} (h : IntsIn W lo hi A zs) (h1 : lo' ≤ lo) (h2 : hi ≤ hi') (h3 : hi' ≤ W.heap.size) : IntsIn W lo' hi' A zs :=
  ⟨h3, fun hl => by
    obtain ⟨b, off, e, g1, g2, hc⟩ := h.2 hl
    exact ⟨b, off, e, by omega, by omega, hc⟩⟩
def Dis (a b : Nat × Nat) : Prop := a.2 ≤ b.1 ∨ b.2 ≤ a.1
/-- A state of the call's own: three rows in blocks of their own, between lo and hi. -/
def Own3 (W : World) (lo hi : Nat) (AF : Option Addr) (cF : Nat) (AT : Option Addr) (cT : Nat) (AZ : Option Addr) (cZ : Nat) (F T Z : List Int) : Prop :=
  ∃ f t z : Nat × Nat, OwnInts W f.1 f.2 AF cF F ∧ OwnInts W t.1 t.2 AT cT T ∧ OwnInts W z.1 z.2 AZ cZ Z ∧ Dis f t ∧ Dis f z ∧ Dis t z ∧ (lo ≤ f.1 ∧ f.2 ≤ hi) ∧ (lo ≤ t.1 ∧ t.2 ≤ hi) ∧ (lo ≤ z.1 ∧ z.2 ≤ hi) ∧ hi ≤ W.heap.size
theorem Own3.within {W W' : World} {lo hi lo' hi' : Nat} {AF AT AZ : Option Addr} {cF cT cZ : Nat} {F T Z : List Int} (h : Own3 W lo hi AF cF AT cT AZ cZ F T Z) (hw : Within lo' hi' W W') (hd : hi ≤ lo' ∨ hi' ≤ lo) : Own3 W' lo hi AF cF AT cT AZ cZ F T Z := by
  obtain ⟨f, t, z, h1, h2, h3, d1, d2, d3, b1, b2, b3, h4⟩ := h
  exact ⟨f, t, z, h1.within hw (by omega), h2.within hw (by omega), h3.within hw (by omega), d1, d2, d3, b1, b2, b3, Nat.le_trans h4 hw.size⟩
theorem Own3.reads {W : World} {lo hi : Nat} {AF AT AZ : Option Addr} {cF cT cZ : Nat} {F T Z : List Int} (h : Own3 W lo hi AF cF AT cT AZ cZ F T Z) : Peb3 W lo hi AF AT AZ F T Z := by
  obtain ⟨f, t, z, h1, h2, h3, _, _, _, b1, b2, b3, h4⟩ := h
  exact ⟨h1.reads.widen b1.1 b1.2 h4, h2.reads.widen b2.1 b2.2 h4, h3.reads.widen b3.1 b3.2 h4⟩
theorem Own3.widen {W : World} {lo hi lo' hi' : Nat} {AF AT AZ : Option Addr} {cF cT cZ : Nat} {F T Z : List Int} (h : Own3 W lo hi AF cF AT cT AZ cZ F T Z) (h1 : lo' ≤ lo) (h2 : hi ≤ hi') (h3 : hi' ≤ W.heap.size) : Own3 W lo' hi' AF cF AT cT AZ cZ F T Z := by
  obtain ⟨f, t, z, g1, g2, g3, d1, d2, d3, b1, b2, b3, _⟩ := h
  exact ⟨f, t, z, g1, g2, g3, d1, d2, d3, by omega, by omega, by omega, h3⟩

section
variable {H : Type} {enc : TypeId × Value → H} {w : World} {base : Nat}
theorem open_row {n : Nat} {v : Value} {y : DataW H × List MemPlace} (h : DataW.trod enc Try.prog w 0 (fun _ => true) true n 29 [v] = some y) :
    ∃ (A : Option Addr) (cap : Nat) (zs : List Int), v = .slice A zs.length cap ∧ zs.length ≤ maxLen ∧ IntsIn w 0 w.heap.size A zs ∧ WfI zs := by
  have key : ∃ (a : Option Addr) (len cap : Nat) (zs : List Int), v = .slice a len cap ∧ IsRow .i64 w a len cap zs := by
    rcases Go.ChangeShapes.open_ints Try.underlying29 Try.underlying3 (by kernel_rfl) h with ⟨hcs, _⟩ | ⟨x, l, c, zs, hcs, _, hl, hm, hz, _, hcell, hwz⟩
    · exact ⟨none, 0, 0, [], by simpa using hcs, .inl ⟨rfl, rfl, rfl, rfl⟩⟩
    · exact ⟨some x, l, c, zs, by simpa using hcs, .inr ⟨_, rfl, hl, hm, by simpa using hz, hcell, hwz⟩⟩
  obtain ⟨a, len, cap, zs, rfl, hr⟩ := key
  obtain ⟨ys, h1, h2, h3, h4⟩ := hr.intsW
  subst h1
  exact ⟨a, cap, ys, rfl, h3, h2, h4⟩
end
end Go.Proofs.Ytdkpmaahinbhlaa
/- How the laws copy a state of the pebble game. No condition. -/
namespace Go.Proofs.Ytdkpmaahinbhlaa
open Go.RowKit

end Go.Proofs.Ytdkpmaahinbhlaa
/- The other end of a bar, the specification's and the program's; a copy of a row of ints: slices.Clone. No condition. -/
namespace Go.Proofs.Ytdkpmaahinbhlaa
open Go.RowKit

set_option maxRecDepth 100000 in
theorem other_c (x : Int × Int) (v : Int) (w : World) (h1 : 0 ≤ x.1 ∧ x.1 ≤ 8) (h2 : 0 ≤ x.2 ∧ x.2 ≤ 8) (h3 : 0 ≤ v ∧ v ≤ 8) :
    Calls Try.prog 226 #[.agg #[.int .i64 x.1, .int .i64 x.2], .int .i64 v] w fun e w' => e = .returned (.int .i64 (oth x v)) ∧ Below w.heap.size w w' := by
  obtain ⟨a, b⟩ := x
  have HO := Lib.hid (show oth (a, b) v = a + b - v from rfl)
  simp only at h1 h2
  go_enter Try.func226, Try.ntmps226
  go_wp2
  go_ret
  exact ⟨by rw [HO.out]; rfl, (Below.refl _ _).alloc (Nat.le_refl _) _⟩

set_option maxRecDepth 100000 in
theorem otherEnd_c (x : Int × Int) (v : Int) (w : World) (h : isEnd x v) :
    Calls Try.prog 225 #[.agg #[.int .i64 x.1, .int .i64 x.2], .int .i64 v] w fun e w' => e = .returned (.int .i64 (oth x v)) ∧ Below w.heap.size w w' := by
  obtain ⟨a, b⟩ := x
  have ho : oth (a, b) v = a + b - v := rfl
  unfold isEnd at h
  simp only at h
  by_cases c : v = a
  · have HO := Lib.hid (show oth (a, b) v = b by omega)
    have e1 : (v == a) = true := by simpa using c
    clear h ho c
    go_enter Try.func225, Try.ntmps225
    go_wp2
    go_ret
    exact ⟨by rw [HO.out]; rfl, (Below.refl _ _).alloc (Nat.le_refl _) _⟩
  · have HO := Lib.hid (show oth (a, b) v = a by omega)
    have e1 : (v == a) = false := by simpa using c
    clear h ho c
    go_enter Try.func225, Try.ntmps225
    go_wp2
    go_ret
    exact ⟨by rw [HO.out]; rfl, (Below.refl _ _).alloc (Nat.le_refl _) _⟩

theorem news_ints {W : World} {lo hi : Nat} {a : Addr} {zs : List Int} (h : IntsIn W lo hi (some a) zs) : ∀ j u, (intCells zs)[j]? = some u → W.cell? (a.add j) = some u := fun j u hj => by
  have hlt : j < zs.length := by
    have := (List.getElem?_eq_some_iff.1 hj).1
    rwa [intCells_len] at this
  obtain ⟨b, off, e, _, _, hc⟩ := h.2 (by omega)
  cases e
  have hadd : (⟨b, off, none⟩ : Addr).add j = ⟨b, off + j, none⟩ := by unfold Addr.add; split <;> simp_all
  rw [hadd, hc j hlt]
  rw [intCells_get zs j hlt] at hj
  exact hj
theorem intCells_one (zs : List Int) : ∀ u ∈ intCells zs, u.oneCell' = true := by
  intro u hu
  obtain ⟨x, _, rfl⟩ := List.mem_map.1 hu
  rfl

set_option maxHeartbeats 2000000 in
set_option maxRecDepth 100000 in
theorem slCloneI (zs : List Int) (A : Option Addr) (cap lo hi : Nat) (w : World) (hz : IntsIn w lo hi A zs) (hn : zs.length ≤ 1048576) :
    Calls Try.prog 146 #[.slice A zs.length cap] w (IntsO w zs) := by
  obtain ⟨i0, hi0, hz0, hz1, hz2⟩ := info_parts infoInt
  have q : ∀ (w : World) (a : Option Addr) (n c n' c' : Nat), (binOp .eql 29 (.slice a n c) (.slice none n' c')).run Try.prog w = .ok (.bool a.isNone) w := fun w a n c n' c' => Go.Lib.run_eql_slice_nil w _ _ a n c n' c' Try.underlying29
  have hm := World.ownsRow_made (base := w.heap.size) (e := 3) (size := 1) w #[] 0 (Nat.le_refl _) (by unfold maxLen; omega) (by simp)
  have HM := Lib.hid hm
  clear hm
  cases A with
  | none =>
    have h0 : zs = [] := by
      refine List.eq_nil_of_length_eq_zero (Nat.eq_zero_of_not_pos fun h => ?_)
      obtain ⟨b, off, e, _⟩ := hz.2 h
      cases e
    subst h0
    clear hz
    go_enter Try.func146, Try.ntmps146
    go_wp2_with fail
    go_ret
    exact ⟨none, 0, rfl, ⟨Nat.le_refl _, .inl rfl⟩, Below.refl _ _⟩
  | some a =>
    have HC := Lib.hid (news_ints (hz.within (within_alloc w (.cells #[] 3)) (.inr (Nat.zero_le _))))
    clear hz
    go_enter Try.func146, Try.ntmps146
    go_wp2_with (at_builtin; refine wpList_append_own _ rfl _ _ 29 rfl w.heap.size 3 i0 _ 1 8 Try.underlying29 hi0 hz0 hz1 hz2 rfl (by omega) _ 0 [] rfl HM.out a zs.length cap (intCells zs) rfl (by rw [intCells_len]; omega) HC.out (intCells_one zs) (by unfold maxLen; omega) (by omega) (by simp) ?_; intro v' w' ho hg hnil; rw [Nat.zero_add, List.nil_append] at ho; obtain ⟨A2, c2, rfl⟩ := own_shape ho; have HO := Lib.hid (own_ints' ho); have HG := Lib.hid (show Below w.heap.size w w' from (new_below w (.cells #[] 3)).grown hg (by simp) fun k hk => by cases hk; exact Nat.le_refl _); clear ho hg hnil)
    go_ret
    exact ⟨A2, c2, rfl, HO.out, HG.out⟩
end Go.Proofs.Ytdkpmaahinbhlaa
/- slices.Repeat of one number, up to eight times. No condition. -/
namespace Go.Proofs.Ytdkpmaahinbhlaa
open Go.RowKit

set_option maxHeartbeats 4000000 in
theorem mul64_one (P : Nat) (h : P ≤ 8) (w : World) : Calls Try.prog 233 #[.int .u64 1, .int .u64 (P : Int)] w fun e w' => e = .returned (.tuple #[.int .u64 0, .int .u64 (P : Int)]) ∧ w' = w := by
  have hP : P = 0 ∨ P = 1 ∨ P = 2 ∨ P = 3 ∨ P = 4 ∨ P = 5 ∨ P = 6 ∨ P = 7 ∨ P = 8 := by omega
  rcases hP with rfl | rfl | rfl | rfl | rfl | rfl | rfl | rfl | rfl
  all_goals
    go_enter Try.func233, Try.ntmps233
    go_wp2_with fail
    go_ret2
    exact ⟨by first | rfl | simp, rfl⟩
set_option maxHeartbeats 4000000 in
theorem mul_one_c (P : Nat) (h : P ≤ 8) (w : World) : Calls Try.prog 197 #[.int .u64 1, .int .u64 (P : Int)] w fun e w' => e = .returned (.tuple #[.int .u64 0, .int .u64 (P : Int)]) ∧ w' = w := by
  go_enter Try.func197, Try.ntmps197
  go_wp2_with fail
  refine (mul64_one P h _).mono ?_
  rintro e w1 ⟨rfl, rfl⟩
  go_wp2_with fail
  go_ret2
  exact ⟨rfl, rfl⟩
/-- A row that holds n times k, and zeros behind them. -/
def repL (P n : Nat) (k : Int) : List Int := List.replicate n k ++ List.replicate (P - n) 0
theorem repL_len (P n : Nat) (k : Int) (h : n ≤ P) : (repL P n k).length = P := by simp [repL]; omega
theorem repL_splice (P n m : Nat) (k : Int) : splice (intCells (repL P n k)) n (intCells (List.replicate m k)) = intCells (repL P (n + m) k) := by
  unfold splice intCells
  rw [← List.map_take, ← List.map_drop, ← List.map_append, ← List.map_append]
  congr 1
  simp only [repL, List.length_map, List.length_replicate]
  rw [List.take_left' (by simp), List.drop_append, List.length_replicate, List.drop_eq_nil_of_le (by simp), List.nil_append, show n + m - n = m by omega, List.drop_replicate, ← List.append_assoc, List.replicate_append_replicate, show P - n - m = P - (n + m) by omega]
theorem repL_get (P n : Nat) (k : Int) (j : Nat) (h : j < n) : (repL P n k).getD j 0 = k := by
  unfold repL
  simp only [List.getD]
  rw [List.getElem?_append_left (by simpa using h)]
  simp [h]
theorem own_heap {W : World} {base g n : Nat} {e : TypeId} {xs : List Value} (h : W.ownsRow base e 1 (.slice (some ⟨g, 0, none⟩) n n) n xs) : W.heap[g]? = some (.cells xs.toArray e (0, 0)) := by
  obtain ⟨h0, h1⟩ := h
  rcases h1 with ⟨h2, _⟩ | ⟨g', cap, cur, e1, _, hh, _, _, hsz, ht⟩
  · cases h2
  · cases e1
    rw [List.take_of_length_le (by rw [Array.length_toList, hsz]; exact Nat.le_refl _)] at ht
    rw [hh, ← ht]
theorem heap_own {W : World} {base g n : Nat} {e : TypeId} {xs : List Value} (h : W.heap[g]? = some (.cells xs.toArray e (0, 0))) (hl : xs.length = n) (hb : base ≤ g) (hn : n ≤ maxLen) : W.ownsRow base e 1 (.slice (some ⟨g, 0, none⟩) n n) n xs :=
  ⟨by rw [hl, Nat.mul_one], .inr ⟨g, n, xs.toArray, rfl, hb, h, Nat.le_refl _, hn, by rw [List.size_toArray, hl, Nat.mul_one], by rw [Nat.mul_one, ← hl]; simp⟩⟩
theorem heap_ints {W : World} {g : Nat} {e : TypeId} {zs : List Int} (h : W.heap[g]? = some (.cells (intCells zs).toArray e (0, 0))) (j : Nat) (hj : j < zs.length) : W.cell? ⟨g, j, none⟩ = some (.int .i64 (zs.getD j 0)) := by
  rw [cell_of_row W g j _ e (0, 0) h]
  simpa using intCells_get zs j hj

set_option maxHeartbeats 2000000 in
set_option maxRecDepth 100000 in
theorem slRepeat (P : Nat) (k : Int) (b0 : Nat) (w : World) (h1 : 1 ≤ P) (h8 : P ≤ 8) (hc : w.cell? ⟨b0, 0, none⟩ = some (.int .i64 k)) :
    Calls Try.prog 131 #[.slice (some ⟨b0, 0, none⟩) 1 1, .int .i64 (P : Int)] w fun e w' => ∃ g, e = .returned (.slice (some ⟨g, 0, none⟩) P P) ∧ w'.ownsRow w.heap.size 3 1 (.slice (some ⟨g, 0, none⟩) P P) P (intCells (List.replicate P k)) ∧ Below w.heap.size w w' := by
  have HC := Lib.hid hc
  have HM := mul_one_c P h8
  have hP0 : ¬ (P : Int) < 0 := by omega
  have hPw : IntKind.u64.wrap (P : Int) = (P : Int) := by rw [IntKind.wrap_u64]; omega
  have hPi : IntKind.i64.wrap (P : Int) = (P : Int) := IntWalk.i64_in _ (by omega)
  have hPm : ¬ (9223372036854775807 : Int) < (P : Int) := by omega
  clear hc
  go_enter Try.func131, Try.ntmps131
  go_wp2_with fail
  refine (HM _).mono ?_
  rintro e w1 ⟨rfl, rfl⟩
  clear HM
  go_wp2_with (first
    | (at_make; refine wpList_mkn _ rfl _ _ 29 rfl w1.heap.size 3 (.int .i64 0) 8 Try.underlying29 infoInt rfl _ _ _ _ P rfl rfl rfl rfl (by omega) (by unfold maxLen; omega) (Nat.le_refl _) ?_; intro w2 hown hb2; have HB := Lib.hid hb2; have HG := Lib.hid (show w2.heap[w1.heap.size]? = some (.cells (intCells (repL P 0 k)).toArray 3 (0, 0)) by rw [show intCells (repL P 0 k) = List.replicate P (.int .i64 0) by simp [repL, intCells]]; exact own_heap hown); have HSRC := Lib.hid (show ∀ j v, (intCells (List.replicate 1 k))[j]? = some v → w2.cell? ((⟨b0, 0, none⟩ : Addr).add j) = some v from fun j v hj => (by have hlt := (List.getElem?_eq_some_iff.1 hj).1; obtain rfl : j = 0 := (by simpa [intCells] using hlt); have hb0 := World.block_lt_of_cell? w1 _ HC.out; rw [show (⟨b0, 0, none⟩ : Addr).add 0 = ⟨b0, 0, none⟩ from rfl, hb2.cell (p := ⟨b0, 0, none⟩) hb0, HC.out]; simpa [intCells] using hj)); clear hown hb2)
    | (with_reducible refine wpList_copy_splice rfl _ _ 29 29 rfl 3 Try.underlying29 (by kernel_rfl) (some ⟨w1.heap.size, 0, none⟩) (some ⟨b0, 0, none⟩) P P 1 1 rfl rfl w1.heap.size 0 (intCells (repL P 0 k)) 3 HG.out (intCells (List.replicate 1 k)) (by simp [intCells, Nat.min_def]; omega) (fun _ => ⟨rfl, _, rfl, HSRC.out⟩) (by rw [intCells_len, intCells_len, repL_len P 0 k (by omega)]; simp; omega) (by simp [intCells, Value.oneCell']) w1.heap.size w1 HB.out (Nat.le_refl _) ?_; intro w3 hg3 hb3; have HG3 := Lib.hid (show w3.heap[w1.heap.size]? = some (.cells (intCells (repL P 1 k)).toArray 3 (0, 0)) by have := hg3.out; rw [repL_splice P 0 1 k] at this; exact this); have HB3 := Lib.hid hb3; clear hg3 hb3))
  clear HG HB HSRC HC
  go_loopw [8] (fun n wr => ∃ j : Nat, 1 ≤ j ∧ j ≤ P ∧ n = .int .i64 j ∧ wr.heap[w1.heap.size]? = some (.cells (intCells (repL P j k)).toArray 3 (0, 0)) ∧ Below w1.heap.size w1 wr) (fun n _ => P - (intOf n).toNat)
  case atStart => exact ⟨1, Nat.le_refl _, h1, rfl, HG3.out, HB3.out⟩
  case round =>
    obtain ⟨j, hj1, hj2, rfl, hg, hb⟩ := hrel
    have HG := Lib.hid hg
    have HB := Lib.hid hb
    clear hg hb
    by_cases hlt : j < P
    · have hji : (j : Int) < (P : Int) := by omega
      obtain ⟨m, hm⟩ : ∃ m, m = Nat.min j (P - j) := ⟨_, rfl⟩
      have hm2 : m ≤ j ∧ m ≤ P - j ∧ 1 ≤ m := by rw [hm]; simp only [Nat.min_def]; split <;> omega
      have hsrc : ∀ j' v, (intCells (List.replicate m k))[j']? = some v → wr.drew.cell? ((⟨w1.heap.size, 0, none⟩ : Addr).add j') = some v := fun j' v hj' => by
        have hlt' : j' < m := by
          have := (List.getElem?_eq_some_iff.1 hj').1
          simpa [intCells] using this
        have h0 := heap_ints HG.out j' (by rw [repL_len P j k hj2]; omega)
        rw [repL_get P j k j' (by omega)] at h0
        have hadd : (⟨w1.heap.size, 0, none⟩ : Addr).add j' = ⟨w1.heap.size, j', none⟩ := by unfold Addr.add; split <;> simp_all
        rw [hadd]
        have hv : v = .int .i64 k := by
          have := intCells_get (List.replicate m k) j' (by simpa using hlt')
          rw [hj'] at this
          simpa [List.getD, hlt'] using this
        rw [hv]
        exact h0
      have HSRC := Lib.hid hsrc
      have HFIT := Lib.hid (show j + (intCells (List.replicate m k)).length ≤ (intCells (repL P j k)).length by rw [intCells_len, intCells_len, repL_len P j k hj2]; simp; omega)
      have HN := Lib.hid (show (intCells (List.replicate m k)).length = Nat.min j (P - j) by rw [intCells_len, List.length_replicate]; exact hm)
      have HB2 := Lib.hid (HB.out.drew)
      have HG2 := Lib.hid (show wr.drew.heap[w1.heap.size]? = some (.cells (intCells (repL P j k)).toArray 3 (0, 0)) from HG.out)
      clear hsrc hm
      have hnej : ¬ P = j := by omega
      have hlm : ((intCells (List.replicate m k)).length : Int) = (m : Int) := by simp [intCells]
      have hsm : IntKind.i64.wrap ((j : Int) + (m : Int)) = (j : Int) + (m : Int) := IntWalk.i64_in _ (by omega)
      go_wp2_with fail
      go_region_law (refine step_copy_splice rfl _ _ 29 29 rfl 3 Try.underlying29 (by kernel_rfl) (some ⟨w1.heap.size, j, none⟩) (some ⟨w1.heap.size, 0, none⟩) (P - j) (P - j) j P (by simp [Act.eval, Act.put]) (by simp [Act.eval, Act.put]) w1.heap.size j (intCells (repL P j k)) 3 HG2.out (intCells (List.replicate m k)) HN.out (fun _ => ⟨rfl, _, rfl, HSRC.out⟩) HFIT.out (by simp [intCells, Value.oneCell']) w1.heap.size w1 HB2.out (Nat.le_refl _) ?_; intro w4 hg4 hb4; have HG4 := Lib.hid (show w4.heap[w1.heap.size]? = some (.cells (intCells (repL P (j + m) k)).toArray 3 (0, 0)) by have := hg4.out; rw [repL_splice P j m k] at this; exact this); have HB4 := Lib.hid hb4; clear hg4 hb4)
      all_goals
        go_simp
        go_roundw
        case rel => exact ⟨.int .i64 ((j : Int) + (m : Int)), _, _, _, _, _, _, _, _, _, _, _, _, _, ⟨j + m, by omega, by omega, by go_num, HG4.out, HB4.out⟩, rfl⟩
        case measure => simp [intOf]; omega
    · obtain rfl : j = P := by omega
      go_wp2_with fail
      go_ret
      have hr : repL j j k = List.replicate j k := by simp [repL]
      have h2 := HG.out
      rw [hr] at h2
      exact ⟨_, rfl, heap_own h2 (by simp [intCells]) (Nat.le_refl _) (by unfold maxLen; omega), HB.out⟩
end Go.Proofs.Ytdkpmaahinbhlaa
/- How the laws compare, mark and measure a state of the pebble game. No condition. -/
namespace Go.Proofs.Ytdkpmaahinbhlaa
open Go.RowKit

end Go.Proofs.Ytdkpmaahinbhlaa
/- What impl.NewPebbles answers. No condition. -/
namespace Go.Proofs.Ytdkpmaahinbhlaa
open Go.RowKit

/-- What NewPebbles answers. -/
noncomputable def newB (p k : Int) (l : List (Int × Int)) : Bool := isGB p l && (decide (1 ≤ k) && decide (k ≤ 3))
noncomputable def newF (p k : Int) (l : List (Int × Int)) : List Int := if newB p k l = true then List.replicate p.toNat k else []
theorem new_no {p k : Int} {l : List (Int × Int)} (h : isGB p l = false ∨ k < 1 ∨ 3 < k) : newB p k l = false ∧ newF p k l = [] := by
  have hb : newB p k l = false := by
    unfold newB
    rcases h with h | h | h
    · rw [h]; rfl
    · rw [decide_eq_false (by omega : ¬ 1 ≤ k)]; simp
    · rw [decide_eq_false (by omega : ¬ k ≤ 3)]; simp
  exact ⟨hb, by unfold newF; rw [hb]; rfl⟩
theorem new_yes {P : Nat} {k : Int} {l : List (Int × Int)} (h : isGB (P : Int) l = true) (h1 : 1 ≤ k) (h2 : k ≤ 3) : newB (P : Int) k l = true ∧ newF (P : Int) k l = List.replicate P k := by
  have hb : newB (P : Int) k l = true := by
    unfold newB
    rw [h, decide_eq_true h1, decide_eq_true h2]
    rfl
  exact ⟨hb, by unfold newF; rw [hb, if_pos rfl, Int.toNat_natCast]⟩
theorem newF_len (p k : Int) (l : List (Int × Int)) : (newF p k l).length ≤ 1048576 := by
  by_cases h : newB p k l = true
  · have hg : isGB p l = true := by
      cases e : isGB p l with
      | true => rfl
      | false => rw [(new_no (k := k) (.inl e)).1] at h; cases h
    have hG : IsG p l := Classical.byContradiction fun g => by rw [isGB_no g] at hg; cases hg
    unfold newF
    rw [if_pos h, List.length_replicate]
    have := hG.1
    omega
  · unfold newF
    rw [if_neg h]
    simp
/-- A state of the call's own, and a bool. -/
def PebOB (w : World) (F T Z : List Int) (r : Bool) (e : Ending) (w' : World) : Prop :=
  ∃ AF cF AT cT AZ cZ, e = .returned (.tuple #[pebV AF F.length cF AT T.length cT AZ Z.length cZ, .bool r]) ∧ Own3 w' w.heap.size w'.heap.size AF cF AT cT AZ cZ F T Z ∧ Below w.heap.size w w'
theorem own3_nil (w : World) (lo : Nat) (h : lo ≤ w.heap.size) (AF AT AZ : Option Addr) (cF cT cZ : Nat) : Own3 w lo w.heap.size AF cF AT cT AZ cZ [] [] [] :=
  ⟨(w.heap.size, w.heap.size), (w.heap.size, w.heap.size), (w.heap.size, w.heap.size), ⟨Nat.le_refl _, .inl rfl⟩, ⟨Nat.le_refl _, .inl rfl⟩, ⟨Nat.le_refl _, .inl rfl⟩, .inl (Nat.le_refl _), .inl (Nat.le_refl _), .inl (Nat.le_refl _), ⟨h, Nat.le_refl _⟩, ⟨h, Nat.le_refl _⟩, ⟨h, Nat.le_refl _⟩, Nat.le_refl _⟩
theorem own3_f {W : World} {lo a b : Nat} {AF AT AZ : Option Addr} {cF cT cZ : Nat} {F : List Int} (h : OwnInts W a b AF cF F) (h1 : lo ≤ a) (h2 : b ≤ W.heap.size) (h3 : lo ≤ W.heap.size) : Own3 W lo W.heap.size AF cF AT cT AZ cZ F [] [] :=
  ⟨(a, b), (W.heap.size, W.heap.size), (W.heap.size, W.heap.size), h, ⟨Nat.le_refl _, .inl rfl⟩, ⟨Nat.le_refl _, .inl rfl⟩, .inl h2, .inl h2, .inl (Nat.le_refl _), ⟨h1, h2⟩, ⟨h3, Nat.le_refl _⟩, ⟨h3, Nat.le_refl _⟩, Nat.le_refl _⟩

set_option maxHeartbeats 2000000 in
set_option maxRecDepth 100000 in
theorem implNewP (p k : Int) (l : List (Int × Int)) (A : Option Addr) (cap : Nat) (w : World) (hl : BarsAt w w.heap.size A l) (hn : l.length ≤ 1048576) :
    Calls Try.prog 36 #[.agg #[.int .i64 p, .slice A l.length cap], .int .i64 k] w (PebOB w (newF p k l) [] [] (newB p k l)) := by
  have HISG : ∀ W : World, BarsAt W W.heap.size A l → Calls Try.prog 130 #[.agg #[.int .i64 p, .slice A l.length cap]] W fun e w' => e = .returned (.bool (isGB p l)) ∧ Below W.heap.size W w' := fun W h => implIsGraph p l A cap W h hn
  by_cases hbad : isGB p l = false ∨ k < 1 ∨ 3 < k
  · have HR := Lib.hid (new_no hbad)
    rcases hg : isGB p l with _ | _
    · skip
      rw [hg] at HISG
      clear hbad
      have W0 := Lib.hid (Below.refl w.heap.size w)
      have HB_0 := Lib.hid (bars_in hl)
      clear hl
      have Z1 := Lib.hid (within_alloc w (.cells #[.int .i64 p, (.slice A l.length cap)] 26)).size
      have W1 := Lib.hid (within_on W0.out (within_alloc w (.cells #[.int .i64 p, (.slice A l.length cap)] 26)) W0.out.size (.inr (Nat.le_refl _)))
      have HB_1 := Lib.hid (HB_0.out.within (within_alloc w (.cells #[.int .i64 p, (.slice A l.length cap)] 26)) (by omega))
      have Y1 := Lib.hid (show (w.alloc (.cells #[.int .i64 p, (.slice A l.length cap)] 26)).heap.size = w.heap.size + 1 by simp)
      have hnew := box_new w p (.slice A l.length cap) 26
      have BX_1 := Lib.hid hnew
      clear hnew
      have Z2 := Lib.hid (within_alloc (w.alloc (.cells #[.int .i64 p, (.slice A l.length cap)] 26)) (.cells #[(.slice none 0 0), (.slice none 0 0), (.slice none 0 0)] 31)).size
      have W2 := Lib.hid (within_on W1.out (within_alloc (w.alloc (.cells #[.int .i64 p, (.slice A l.length cap)] 26)) (.cells #[(.slice none 0 0), (.slice none 0 0), (.slice none 0 0)] 31)) W1.out.size (.inr (Nat.le_refl _)))
      have HB_2 := Lib.hid (HB_1.out.within (within_alloc (w.alloc (.cells #[.int .i64 p, (.slice A l.length cap)] 26)) (.cells #[(.slice none 0 0), (.slice none 0 0), (.slice none 0 0)] 31)) (by omega))
      have BX_2 := Lib.hid (BX_1.out.within (within_alloc (w.alloc (.cells #[.int .i64 p, (.slice A l.length cap)] 26)) (.cells #[(.slice none 0 0), (.slice none 0 0), (.slice none 0 0)] 31)) (by omega))
      have Y2 := Lib.hid (show ((w.alloc (.cells #[.int .i64 p, (.slice A l.length cap)] 26)).alloc (.cells #[(.slice none 0 0), (.slice none 0 0), (.slice none 0 0)] 31)).heap.size = (w.alloc (.cells #[.int .i64 p, (.slice A l.length cap)] 26)).heap.size + 1 by simp)
      have hnew := cel3_new (w.alloc (.cells #[.int .i64 p, (.slice A l.length cap)] 26)) (.slice none 0 0) (.slice none 0 0) (.slice none 0 0) 31
      rw [show (w.alloc (.cells #[.int .i64 p, (.slice A l.length cap)] 26)).heap.size = w.heap.size + 1 by simp] at hnew
      have GR_2 := Lib.hid hnew
      clear hnew
      go_enter Try.func36, Try.ntmps36
      obtain ⟨g0_0, g0_1, g0_2⟩ := BX_2.out
      go_wp2_with fail
      clear g0_0 g0_1 g0_2
      generalize ((w.alloc (.cells #[.int .i64 p, (.slice A l.length cap)] 26)).alloc (.cells #[(.slice none 0 0), (.slice none 0 0), (.slice none 0 0)] 31)) = w2 at *
      generalize (w.alloc (.cells #[.int .i64 p, (.slice A l.length cap)] 26)) = w1 at *
      refine (HISG _ HB_2.out.at).mono ?_
      rintro e w3 ⟨rfl, hb⟩
      have Z3 := Lib.hid (within_of hb).size
      have W3 := Lib.hid (within_on W2.out (within_of hb) W2.out.size (.inr (Nat.le_refl _)))
      have HB_3 := Lib.hid (HB_2.out.within (within_of hb) (by omega))
      have BX_3 := Lib.hid (BX_2.out.within (within_of hb) (by omega))
      have GR_3 := Lib.hid (GR_2.out.within (within_of hb) (by omega))
      clear hb HISG
      obtain ⟨g1_0, g1_1, g1_2, g1_3, g1_4, g1_5⟩ := GR_3.out.cells
      have Z4 := Lib.hid ((ret3 GR_3.out (.slice none 0 0) (.slice none 0 0) (.slice none 0 0)).2).size
      have W4 := Lib.hid (within_on W3.out ((ret3 GR_3.out (.slice none 0 0) (.slice none 0 0) (.slice none 0 0)).2) W3.out.size (by have := Z1.out; have := Z2.out; have := Z3.out; have := Z4.out; have := Y1.out; have := Y2.out; omega))
      have HB_4 := Lib.hid (HB_3.out.within ((ret3 GR_3.out (.slice none 0 0) (.slice none 0 0) (.slice none 0 0)).2) (by have := Z1.out; have := Z2.out; have := Z3.out; have := Z4.out; have := Y1.out; have := Y2.out; omega))
      have BX_4 := Lib.hid (BX_3.out.within ((ret3 GR_3.out (.slice none 0 0) (.slice none 0 0) (.slice none 0 0)).2) (by have := Z1.out; have := Z2.out; have := Z3.out; have := Z4.out; have := Y1.out; have := Y2.out; omega))
      have GR_4 := Lib.hid ((ret3 GR_3.out (.slice none 0 0) (.slice none 0 0) (.slice none 0 0)).1)
      obtain ⟨g2_0, g2_1, g2_2, g2_3, g2_4, g2_5⟩ := GR_4.out.cells
      go_wp2_with fail
      generalize (((w3.setCell ⟨w.heap.size + 1, 0, none⟩ (.slice none 0 0)).setCell ⟨w.heap.size + 1, 1, none⟩ (.slice none 0 0)).setCell ⟨w.heap.size + 1, 2, none⟩ (.slice none 0 0)) = w4 at *
      refine bodyPost_ret (v := .tuple #[pebV none 0 0 none 0 0 none 0 0, .bool false]) ?_ rfl ?_
      · simp [results, Try.results36, go_sem, g2_0, g2_1, g2_2]
      · rw [HR.out.1, HR.out.2]
        exact ⟨none, 0, none, 0, none, 0, rfl, own3_nil _ _ W4.out.size _ _ _ _ _ _, W4.out⟩
    · skip
      rw [hg] at HISG
      have hk : (k < 1) ∨ (¬ k < 1 ∧ 3 < k) := by simp only [hg] at hbad; simp at hbad; omega
      clear hbad
      have W0 := Lib.hid (Below.refl w.heap.size w)
      have HB_0 := Lib.hid (bars_in hl)
      clear hl
      have Z1 := Lib.hid (within_alloc w (.cells #[.int .i64 p, (.slice A l.length cap)] 26)).size
      have W1 := Lib.hid (within_on W0.out (within_alloc w (.cells #[.int .i64 p, (.slice A l.length cap)] 26)) W0.out.size (.inr (Nat.le_refl _)))
      have HB_1 := Lib.hid (HB_0.out.within (within_alloc w (.cells #[.int .i64 p, (.slice A l.length cap)] 26)) (by omega))
      have Y1 := Lib.hid (show (w.alloc (.cells #[.int .i64 p, (.slice A l.length cap)] 26)).heap.size = w.heap.size + 1 by simp)
      have hnew := box_new w p (.slice A l.length cap) 26
      have BX_1 := Lib.hid hnew
      clear hnew
      have Z2 := Lib.hid (within_alloc (w.alloc (.cells #[.int .i64 p, (.slice A l.length cap)] 26)) (.cells #[(.slice none 0 0), (.slice none 0 0), (.slice none 0 0)] 31)).size
      have W2 := Lib.hid (within_on W1.out (within_alloc (w.alloc (.cells #[.int .i64 p, (.slice A l.length cap)] 26)) (.cells #[(.slice none 0 0), (.slice none 0 0), (.slice none 0 0)] 31)) W1.out.size (.inr (Nat.le_refl _)))
      have HB_2 := Lib.hid (HB_1.out.within (within_alloc (w.alloc (.cells #[.int .i64 p, (.slice A l.length cap)] 26)) (.cells #[(.slice none 0 0), (.slice none 0 0), (.slice none 0 0)] 31)) (by omega))
      have BX_2 := Lib.hid (BX_1.out.within (within_alloc (w.alloc (.cells #[.int .i64 p, (.slice A l.length cap)] 26)) (.cells #[(.slice none 0 0), (.slice none 0 0), (.slice none 0 0)] 31)) (by omega))
      have Y2 := Lib.hid (show ((w.alloc (.cells #[.int .i64 p, (.slice A l.length cap)] 26)).alloc (.cells #[(.slice none 0 0), (.slice none 0 0), (.slice none 0 0)] 31)).heap.size = (w.alloc (.cells #[.int .i64 p, (.slice A l.length cap)] 26)).heap.size + 1 by simp)
      have hnew := cel3_new (w.alloc (.cells #[.int .i64 p, (.slice A l.length cap)] 26)) (.slice none 0 0) (.slice none 0 0) (.slice none 0 0) 31
      rw [show (w.alloc (.cells #[.int .i64 p, (.slice A l.length cap)] 26)).heap.size = w.heap.size + 1 by simp] at hnew
      have GR_2 := Lib.hid hnew
      clear hnew
      go_enter Try.func36, Try.ntmps36
      obtain ⟨g0_0, g0_1, g0_2⟩ := BX_2.out
      go_wp2_with fail
      clear g0_0 g0_1 g0_2
      generalize ((w.alloc (.cells #[.int .i64 p, (.slice A l.length cap)] 26)).alloc (.cells #[(.slice none 0 0), (.slice none 0 0), (.slice none 0 0)] 31)) = w2 at *
      generalize (w.alloc (.cells #[.int .i64 p, (.slice A l.length cap)] 26)) = w1 at *
      refine (HISG _ HB_2.out.at).mono ?_
      rintro e w3 ⟨rfl, hb⟩
      have Z3 := Lib.hid (within_of hb).size
      have W3 := Lib.hid (within_on W2.out (within_of hb) W2.out.size (.inr (Nat.le_refl _)))
      have HB_3 := Lib.hid (HB_2.out.within (within_of hb) (by omega))
      have BX_3 := Lib.hid (BX_2.out.within (within_of hb) (by omega))
      have GR_3 := Lib.hid (GR_2.out.within (within_of hb) (by omega))
      clear hb HISG
      rcases hk with hk | ⟨hk1, hk⟩
      all_goals
        obtain ⟨g1_0, g1_1, g1_2, g1_3, g1_4, g1_5⟩ := GR_3.out.cells
        have Z4 := Lib.hid ((ret3 GR_3.out (.slice none 0 0) (.slice none 0 0) (.slice none 0 0)).2).size
        have W4 := Lib.hid (within_on W3.out ((ret3 GR_3.out (.slice none 0 0) (.slice none 0 0) (.slice none 0 0)).2) W3.out.size (by have := Z1.out; have := Z2.out; have := Z3.out; have := Z4.out; have := Y1.out; have := Y2.out; omega))
        have HB_4 := Lib.hid (HB_3.out.within ((ret3 GR_3.out (.slice none 0 0) (.slice none 0 0) (.slice none 0 0)).2) (by have := Z1.out; have := Z2.out; have := Z3.out; have := Z4.out; have := Y1.out; have := Y2.out; omega))
        have BX_4 := Lib.hid (BX_3.out.within ((ret3 GR_3.out (.slice none 0 0) (.slice none 0 0) (.slice none 0 0)).2) (by have := Z1.out; have := Z2.out; have := Z3.out; have := Z4.out; have := Y1.out; have := Y2.out; omega))
        have GR_4 := Lib.hid ((ret3 GR_3.out (.slice none 0 0) (.slice none 0 0) (.slice none 0 0)).1)
        obtain ⟨g2_0, g2_1, g2_2, g2_3, g2_4, g2_5⟩ := GR_4.out.cells
        go_wp2_with fail
        generalize (((w3.setCell ⟨w.heap.size + 1, 0, none⟩ (.slice none 0 0)).setCell ⟨w.heap.size + 1, 1, none⟩ (.slice none 0 0)).setCell ⟨w.heap.size + 1, 2, none⟩ (.slice none 0 0)) = w4 at *
        refine bodyPost_ret (v := .tuple #[pebV none 0 0 none 0 0 none 0 0, .bool false]) ?_ rfl ?_
        · simp [results, Try.results36, go_sem, g2_0, g2_1, g2_2]
        · rw [HR.out.1, HR.out.2]
          exact ⟨none, 0, none, 0, none, 0, rfl, own3_nil _ _ W4.out.size _ _ _ _ _ _, W4.out⟩
  · skip
    have hg : isGB p l = true := by
      cases h : isGB p l with
      | true => rfl
      | false => exact absurd (.inl h) hbad
    have hG : IsG p l := Classical.byContradiction fun g => by rw [isGB_no g] at hg; cases hg
    obtain ⟨P, rfl⟩ : ∃ P : Nat, p = (P : Int) := ⟨p.toNat, by have := hG.1; omega⟩
    have hP : 1 ≤ P ∧ P ≤ 8 := by have := hG.1; omega
    have hk1 : ¬ k < 1 := by omega
    have hk2 : ¬ 3 < k := by omega
    have HR := Lib.hid (new_yes (l := l) hg (by omega : 1 ≤ k) (by omega))
    rw [hg] at HISG
    clear hbad hG hg
    have W0 := Lib.hid (Below.refl w.heap.size w)
    have HB_0 := Lib.hid (bars_in hl)
    clear hl
    have Z1 := Lib.hid (within_alloc w (.cells #[.int .i64 (P : Int), (.slice A l.length cap)] 26)).size
    have W1 := Lib.hid (within_on W0.out (within_alloc w (.cells #[.int .i64 (P : Int), (.slice A l.length cap)] 26)) W0.out.size (.inr (Nat.le_refl _)))
    have HB_1 := Lib.hid (HB_0.out.within (within_alloc w (.cells #[.int .i64 (P : Int), (.slice A l.length cap)] 26)) (by omega))
    have Y1 := Lib.hid (show (w.alloc (.cells #[.int .i64 (P : Int), (.slice A l.length cap)] 26)).heap.size = w.heap.size + 1 by simp)
    have hnew := box_new w (P : Int) (.slice A l.length cap) 26
    have BX_1 := Lib.hid hnew
    clear hnew
    have Z2 := Lib.hid (within_alloc (w.alloc (.cells #[.int .i64 (P : Int), (.slice A l.length cap)] 26)) (.cells #[(.slice none 0 0), (.slice none 0 0), (.slice none 0 0)] 31)).size
    have W2 := Lib.hid (within_on W1.out (within_alloc (w.alloc (.cells #[.int .i64 (P : Int), (.slice A l.length cap)] 26)) (.cells #[(.slice none 0 0), (.slice none 0 0), (.slice none 0 0)] 31)) W1.out.size (.inr (Nat.le_refl _)))
    have HB_2 := Lib.hid (HB_1.out.within (within_alloc (w.alloc (.cells #[.int .i64 (P : Int), (.slice A l.length cap)] 26)) (.cells #[(.slice none 0 0), (.slice none 0 0), (.slice none 0 0)] 31)) (by omega))
    have BX_2 := Lib.hid (BX_1.out.within (within_alloc (w.alloc (.cells #[.int .i64 (P : Int), (.slice A l.length cap)] 26)) (.cells #[(.slice none 0 0), (.slice none 0 0), (.slice none 0 0)] 31)) (by omega))
    have Y2 := Lib.hid (show ((w.alloc (.cells #[.int .i64 (P : Int), (.slice A l.length cap)] 26)).alloc (.cells #[(.slice none 0 0), (.slice none 0 0), (.slice none 0 0)] 31)).heap.size = (w.alloc (.cells #[.int .i64 (P : Int), (.slice A l.length cap)] 26)).heap.size + 1 by simp)
    have hnew := cel3_new (w.alloc (.cells #[.int .i64 (P : Int), (.slice A l.length cap)] 26)) (.slice none 0 0) (.slice none 0 0) (.slice none 0 0) 31
    rw [show (w.alloc (.cells #[.int .i64 (P : Int), (.slice A l.length cap)] 26)).heap.size = w.heap.size + 1 by simp] at hnew
    have GR_2 := Lib.hid hnew
    clear hnew
    go_enter Try.func36, Try.ntmps36
    obtain ⟨g0_0, g0_1, g0_2⟩ := BX_2.out
    go_wp2_with fail
    clear g0_0 g0_1 g0_2
    generalize ((w.alloc (.cells #[.int .i64 (P : Int), (.slice A l.length cap)] 26)).alloc (.cells #[(.slice none 0 0), (.slice none 0 0), (.slice none 0 0)] 31)) = w2 at *
    generalize (w.alloc (.cells #[.int .i64 (P : Int), (.slice A l.length cap)] 26)) = w1 at *
    refine (HISG _ HB_2.out.at).mono ?_
    rintro e w3 ⟨rfl, hb⟩
    have Z3 := Lib.hid (within_of hb).size
    have W3 := Lib.hid (within_on W2.out (within_of hb) W2.out.size (.inr (Nat.le_refl _)))
    have HB_3 := Lib.hid (HB_2.out.within (within_of hb) (by omega))
    have BX_3 := Lib.hid (BX_2.out.within (within_of hb) (by omega))
    have GR_3 := Lib.hid (GR_2.out.within (within_of hb) (by omega))
    clear hb HISG
    have Z4 := Lib.hid (within_alloc w3 (.cells #[.int .i64 k] 3)).size
    have W4 := Lib.hid (within_on W3.out (within_alloc w3 (.cells #[.int .i64 k] 3)) W3.out.size (.inr (Nat.le_refl _)))
    have HB_4 := Lib.hid (HB_3.out.within (within_alloc w3 (.cells #[.int .i64 k] 3)) (by omega))
    have BX_4 := Lib.hid (BX_3.out.within (within_alloc w3 (.cells #[.int .i64 k] 3)) (by omega))
    have GR_4 := Lib.hid (GR_3.out.within (within_alloc w3 (.cells #[.int .i64 k] 3)) (by omega))
    have Y4 := Lib.hid (show (w3.alloc (.cells #[.int .i64 k] 3)).heap.size = w3.heap.size + 1 by simp)
    have hck : (w3.alloc (.cells #[.int .i64 k] 3)).cell? ⟨w3.heap.size, 0, none⟩ = some (.int .i64 k) := by rw [World.cell?_alloc_at _ _ _ _ rfl]; rfl
    have HCK := Lib.hid hck
    clear hck
    obtain ⟨g1_0, g1_1, g1_2⟩ := BX_4.out
    go_wp2_with fail
    clear g1_0 g1_1 g1_2
    generalize (w3.alloc (.cells #[.int .i64 k] 3)) = w4 at *
    refine (slRepeat P k w3.heap.size _ hP.1 hP.2 HCK.out).mono ?_
    rintro e w5 ⟨g, rfl, ho, hb⟩
    have Z5 := Lib.hid (within_of hb).size
    have W5 := Lib.hid (within_on W4.out (within_of hb) W4.out.size (.inr (Nat.le_refl _)))
    have HB_5 := Lib.hid (HB_4.out.within (within_of hb) (by omega))
    have BX_5 := Lib.hid (BX_4.out.within (within_of hb) (by omega))
    have GR_5 := Lib.hid (GR_4.out.within (within_of hb) (by omega))
    have OF_5 := Lib.hid (own_ints' (zs := List.replicate P k) (by rw [List.length_replicate]; exact ho))
    clear ho hb
    obtain ⟨g2_0, g2_1, g2_2, g2_3, g2_4, g2_5⟩ := GR_5.out.cells
    have Z6 := Lib.hid ((ret3 GR_5.out (.slice (some ⟨g, 0, none⟩) P P) (.slice none 0 0) (.slice none 0 0)).2).size
    have W6 := Lib.hid (within_on W5.out ((ret3 GR_5.out (.slice (some ⟨g, 0, none⟩) P P) (.slice none 0 0) (.slice none 0 0)).2) W5.out.size (by have := Z1.out; have := Z2.out; have := Z3.out; have := Z4.out; have := Z5.out; have := Z6.out; have := Y1.out; have := Y2.out; have := Y4.out; omega))
    have HB_6 := Lib.hid (HB_5.out.within ((ret3 GR_5.out (.slice (some ⟨g, 0, none⟩) P P) (.slice none 0 0) (.slice none 0 0)).2) (by have := Z1.out; have := Z2.out; have := Z3.out; have := Z4.out; have := Z5.out; have := Z6.out; have := Y1.out; have := Y2.out; have := Y4.out; omega))
    have BX_6 := Lib.hid (BX_5.out.within ((ret3 GR_5.out (.slice (some ⟨g, 0, none⟩) P P) (.slice none 0 0) (.slice none 0 0)).2) (by have := Z1.out; have := Z2.out; have := Z3.out; have := Z4.out; have := Z5.out; have := Z6.out; have := Y1.out; have := Y2.out; have := Y4.out; omega))
    have GR_6 := Lib.hid ((ret3 GR_5.out (.slice (some ⟨g, 0, none⟩) P P) (.slice none 0 0) (.slice none 0 0)).1)
    have OF_6 := Lib.hid (OF_5.out.within ((ret3 GR_5.out (.slice (some ⟨g, 0, none⟩) P P) (.slice none 0 0) (.slice none 0 0)).2) (by have := Z1.out; have := Z2.out; have := Z3.out; have := Z4.out; have := Z5.out; have := Z6.out; have := Y1.out; have := Y2.out; have := Y4.out; omega))
    obtain ⟨g3_0, g3_1, g3_2, g3_3, g3_4, g3_5⟩ := GR_6.out.cells
    go_wp2_with fail
    generalize (((w5.setCell ⟨w.heap.size + 1, 0, none⟩ (.slice (some ⟨g, 0, none⟩) P P)).setCell ⟨w.heap.size + 1, 1, none⟩ (.slice none 0 0)).setCell ⟨w.heap.size + 1, 2, none⟩ (.slice none 0 0)) = w6 at *
    refine bodyPost_ret (v := .tuple #[pebV (some ⟨g, 0, none⟩) P P none 0 0 none 0 0, .bool true]) ?_ rfl ?_
    · simp [results, Try.results36, go_sem, g3_0, g3_1, g3_2]
    · rw [HR.out.1, HR.out.2]
      exact ⟨some ⟨g, 0, none⟩, P, none, 0, none, 0, by rw [List.length_replicate]; rfl, own3_f OF_6.out (by have := Z1.out; have := Z2.out; have := Z3.out; have := Z4.out; have := Z5.out; have := Z6.out; have := Y1.out; have := Y2.out; have := Y4.out; omega) (by have := Z1.out; have := Z2.out; have := Z3.out; have := Z4.out; have := Z5.out; have := Z6.out; have := Y1.out; have := Y2.out; have := Y4.out; omega) (by have := Z1.out; have := Z2.out; have := Z3.out; have := Z4.out; have := Z5.out; have := Z6.out; have := Y1.out; have := Y2.out; have := Y4.out; omega), W6.out⟩

end Go.Proofs.Ytdkpmaahinbhlaa
/- Rows of ints of the call's own, the empty ones too: what an append onto them asks. No condition. -/
namespace Go.Proofs.Ytdkpmaahinbhlaa
open Go.RowKit

/-- A row of the call's own in a block from lo to hi, or no block; an empty one too can be appended to. -/
def OwnR (W : World) (lo hi : Nat) (A : Option Addr) (cap : Nat) (zs : List Int) : Prop :=
  hi ≤ W.heap.size ∧ ((A = none ∧ cap = 0 ∧ zs = []) ∨ ∃ g, A = some ⟨g, 0, none⟩ ∧ lo ≤ g ∧ g < hi ∧ W.ownsRow lo 3 1 (.slice (some ⟨g, 0, none⟩) zs.length cap) zs.length (intCells zs))
theorem OwnR.within {W W' : World} {lo hi lo' hi' : Nat} {A : Option Addr} {cap : Nat} {zs : List Int} (h : OwnR W lo hi A cap zs) (hw : Within lo' hi' W W') (hd : hi ≤ lo' ∨ hi' ≤ lo) : OwnR W' lo hi A cap zs :=
  ⟨Nat.le_trans h.1 hw.size, by
    rcases h.2 with h2 | ⟨g, e, h1, h2, ho⟩
    · exact .inl h2
    · exact .inr ⟨g, e, h1, h2, own_block ho (hw.block g (Nat.lt_of_lt_of_le h2 h.1) (by omega))⟩⟩
theorem OwnR.ints {W : World} {lo hi : Nat} {A : Option Addr} {cap : Nat} {zs : List Int} (h : OwnR W lo hi A cap zs) : OwnInts W lo hi A cap zs :=
  ⟨h.1, by
    rcases h.2 with ⟨_, _, h2⟩ | h2
    · exact .inl h2
    · exact .inr h2⟩
/-- What an append onto the row asks. -/
theorem OwnR.row {W : World} {lo hi : Nat} {A : Option Addr} {cap : Nat} {zs : List Int} (h : OwnR W lo hi A cap zs) : W.ownsRow lo 3 1 (.slice A zs.length cap) zs.length (intCells zs) := by
  rcases h.2 with ⟨rfl, rfl, rfl⟩ | ⟨g, rfl, _, _, ho⟩
  · exact ⟨rfl, .inl ⟨rfl, rfl⟩⟩
  · exact ho
theorem own_r {w' : World} {base : Nat} {A : Option Addr} {cap : Nat} {zs : List Int} (h : w'.ownsRow base 3 1 (.slice A zs.length cap) zs.length (intCells zs)) : OwnR w' base w'.heap.size A cap zs := by
  rcases h.2 with ⟨h1, h0⟩ | ⟨g, cap', cur, h1, h2⟩
  · injection h1 with e1 e2 e3
    exact ⟨Nat.le_refl _, .inl ⟨e1, e3, List.eq_nil_of_length_eq_zero h0⟩⟩
  · cases h1
    exact ⟨Nat.le_refl _, .inr ⟨g, rfl, (h.lt g rfl).1, (h.lt g rfl).2, h⟩⟩
/-- A state of the call's own whose rows, the empty ones too, can be appended to. -/
def Own3R (W : World) (lo hi : Nat) (AF : Option Addr) (cF : Nat) (AT : Option Addr) (cT : Nat) (AZ : Option Addr) (cZ : Nat) (F T Z : List Int) : Prop :=
  ∃ f t z : Nat × Nat, OwnR W f.1 f.2 AF cF F ∧ OwnR W t.1 t.2 AT cT T ∧ OwnR W z.1 z.2 AZ cZ Z ∧ Dis f t ∧ Dis f z ∧ Dis t z ∧ (lo ≤ f.1 ∧ f.2 ≤ hi) ∧ (lo ≤ t.1 ∧ t.2 ≤ hi) ∧ (lo ≤ z.1 ∧ z.2 ≤ hi) ∧ hi ≤ W.heap.size
theorem Own3R.own3 {W : World} {lo hi : Nat} {AF AT AZ : Option Addr} {cF cT cZ : Nat} {F T Z : List Int} (h : Own3R W lo hi AF cF AT cT AZ cZ F T Z) : Own3 W lo hi AF cF AT cT AZ cZ F T Z := by
  obtain ⟨f, t, z, h1, h2, h3, r⟩ := h
  exact ⟨f, t, z, h1.ints, h2.ints, h3.ints, r⟩
theorem Own3R.within {W W' : World} {lo hi lo' hi' : Nat} {AF AT AZ : Option Addr} {cF cT cZ : Nat} {F T Z : List Int} (h : Own3R W lo hi AF cF AT cT AZ cZ F T Z) (hw : Within lo' hi' W W') (hd : hi ≤ lo' ∨ hi' ≤ lo) : Own3R W' lo hi AF cF AT cT AZ cZ F T Z := by
  obtain ⟨f, t, z, h1, h2, h3, d1, d2, d3, b1, b2, b3, h4⟩ := h
  exact ⟨f, t, z, h1.within hw (by omega), h2.within hw (by omega), h3.within hw (by omega), d1, d2, d3, b1, b2, b3, Nat.le_trans h4 hw.size⟩
/-- The answer: a row of the call's own that can be appended to. -/
def IntsR (w : World) (zs : List Int) (e : Ending) (w' : World) : Prop :=
  ∃ A cap, e = .returned (.slice A zs.length cap) ∧ OwnR w' w.heap.size w'.heap.size A cap zs ∧ Below w.heap.size w w'
/-- The answer: a state of the call's own that can be appended to. -/
def PebR (w : World) (F T Z : List Int) (e : Ending) (w' : World) : Prop :=
  ∃ AF cF AT cT AZ cZ, e = .returned (pebV AF F.length cF AT T.length cT AZ Z.length cZ) ∧ Own3R w' w.heap.size w'.heap.size AF cF AT cT AZ cZ F T Z ∧ Below w.heap.size w w'

set_option maxHeartbeats 2000000 in
set_option maxRecDepth 100000 in
theorem slCloneR (zs : List Int) (A : Option Addr) (cap lo hi : Nat) (w : World) (hz : IntsIn w lo hi A zs) (hn : zs.length ≤ 1048576) :
    Calls Try.prog 146 #[.slice A zs.length cap] w (IntsR w zs) := by
  obtain ⟨i0, hi0, hz0, hz1, hz2⟩ := info_parts infoInt
  have q : ∀ (w : World) (a : Option Addr) (n c n' c' : Nat), (binOp .eql 29 (.slice a n c) (.slice none n' c')).run Try.prog w = .ok (.bool a.isNone) w := fun w a n c n' c' => Go.Lib.run_eql_slice_nil w _ _ a n c n' c' Try.underlying29
  have hm := World.ownsRow_made (base := w.heap.size) (e := 3) (size := 1) w #[] 0 (Nat.le_refl _) (by unfold maxLen; omega) (by simp)
  have HM := Lib.hid hm
  clear hm
  cases A with
  | none =>
    have h0 : zs = [] := by
      refine List.eq_nil_of_length_eq_zero (Nat.eq_zero_of_not_pos fun h => ?_)
      obtain ⟨b, off, e, _⟩ := hz.2 h
      cases e
    subst h0
    clear hz
    go_enter Try.func146, Try.ntmps146
    go_wp2_with fail
    go_ret
    exact ⟨none, 0, rfl, own_r ⟨rfl, .inl ⟨rfl, rfl⟩⟩, Below.refl _ _⟩
  | some a =>
    have HC := Lib.hid (news_ints (hz.within (within_alloc w (.cells #[] 3)) (.inr (Nat.zero_le _))))
    clear hz
    go_enter Try.func146, Try.ntmps146
    go_wp2_with (at_builtin; refine wpList_append_own _ rfl _ _ 29 rfl w.heap.size 3 i0 _ 1 8 Try.underlying29 hi0 hz0 hz1 hz2 rfl (by omega) _ 0 [] rfl HM.out a zs.length cap (intCells zs) rfl (by rw [intCells_len]; omega) HC.out (intCells_one zs) (by unfold maxLen; omega) (by omega) (by simp) ?_; intro v' w' ho hg hnil; rw [Nat.zero_add, List.nil_append] at ho; obtain ⟨A2, c2, rfl⟩ := own_shape ho; have HO := Lib.hid (own_r ho); have HG := Lib.hid (show Below w.heap.size w w' from (new_below w (.cells #[] 3)).grown hg (by simp) fun k hk => by cases hk; exact Nat.le_refl _); clear ho hg hnil)
    go_ret
    exact ⟨A2, c2, rfl, HO.out, HG.out⟩
end Go.Proofs.Ytdkpmaahinbhlaa
/- A copy of a row of ints by append onto an empty row: what is run, and where the copy lies. No condition. -/
namespace Go.Proofs.Ytdkpmaahinbhlaa
open Go.RowKit

theorem run_copyI (w : World) (ty : TypeId) (g : Nat) (A : Option Addr) (zs : List Int) (cap lo hi : Nat) (hz : IntsIn w lo hi A zs) (hn : zs.length ≤ 1048576) :
    ∃ A' c' w', (Builtin.append_ #[29, 29] ty #[.slice (some ⟨g, 0, none⟩) 0 0, .slice A zs.length cap]).run Try.prog w = .ok (.slice A' zs.length c') w' ∧ OwnInts w' w.heap.size w'.heap.size A' c' zs ∧ Below w.heap.size w w' := by
  obtain ⟨i0, hi0, hz0, hz1, hz2⟩ := info_parts infoInt
  by_cases h0 : zs.length = 0
  · have e : zs = [] := List.eq_nil_of_length_eq_zero h0
    subst e
    refine ⟨some ⟨g, 0, none⟩, 0, w, ?_, ⟨Nat.le_refl _, .inl rfl⟩, Below.refl _ _⟩
    cases A <;> simp [Builtin.append_, run_underlying Try.underlying29, sizeOf, typeInfo, hi0, Builtin.lenOf, Builtin.firstCells, loadCells, loadCellsFrom, storeCells]
  · obtain ⟨b, off, rfl, _, _, _⟩ := hz.2 (by omega)
    have hr := run_append_grow (P := Try.prog) w 29 ty 3 i0 _ Try.underlying29 hi0 hz0 ⟨g, 0, none⟩ 0 0 [] (by simp) (fun j v hj => by simp at hj) ⟨b, off, none⟩ zs.length cap (intCells zs) (by rw [hz1, intCells_len]; omega) (news_ints hz) (by omega) (by omega) (growslice_fits (by omega) (by rw [hz2]; omega))
    rw [Nat.zero_add] at hr
    refine ⟨_, _, _, hr, ?_, ((Below.refl _ _).drew).alloc (Nat.le_refl _) _⟩
    have hge := grownCap_ge w zs.length 0 3
    have hcm := grownCap_le_maxLen w zs.length 0 3 (by unfold maxLen; omega)
    refine own_ints' ⟨by rw [intCells_len]; omega, .inr ⟨w.heap.size, _, _, rfl, Nat.le_refl _, heap_alloc_new w.drew _, hge, hcm, ?_, ?_⟩⟩
    · simp only [Array.size_append, List.size_toArray, size_zeroCells]
      rw [intCells_len]
      simp [Value.cells]
      omega
    · have hl : zs.length * 1 = (intCells zs).length := by rw [intCells_len]; omega
      rw [hl]
      simp
theorem wp_copyI {w : World} {o : Oper} {a : Act} {K : Act → World → Prop} {Q : Exit → Act → World → Prop} (s x : Operand) (ho : o.op = .call { callee := .builtin .append, args := #[s, x], argTypes := #[29, 29] })
    (g : Nat) (A : Option Addr) (zs : List Int) (cap lo hi : Nat) (hs : a.eval s = .slice (some ⟨g, 0, none⟩) 0 0) (hx : a.eval x = .slice A zs.length cap) (hz : IntsIn w lo hi A zs) (hn : zs.length ≤ 1048576)
    (h : ∀ A' c' w', OwnInts w' w.heap.size w'.heap.size A' c' zs → Below w.heap.size w w' → K (a.put o.dst (.slice A' zs.length c')) w') : o.wp Try.prog a w K Q := by
  obtain ⟨A', c', w', hr, h2, h3⟩ := run_copyI w o.type g A zs cap lo hi hz hn
  unfold Oper.wp execOp
  simp only [ho, resolve, invoke, builtin, Sem.run_bind, Sem.run_pure, Result.andThen_ok, List.map_toArray, List.map_cons, List.map_nil, hs, hx, hr]
  exact h A' c' w' h2 h3
theorem step_copyI {w : World} {ops : Array Oper} {o : Oper} {a : Act} {K : Act → World → Prop} {Q : Exit → Act → World → Prop} {E : Prop} (hgd : o.guard = none) (s x : Operand) (ho : o.op = .call { callee := .builtin .append, args := #[s, x], argTypes := #[29, 29] })
    (g : Nat) (A : Option Addr) (zs : List Int) (cap lo hi : Nat) (hs : a.eval s = .slice (some ⟨g, 0, none⟩) 0 0) (hx : a.eval x = .slice A zs.length cap) (hz : IntsIn w lo hi A zs) (hn : zs.length ≤ 1048576)
    (h : ∀ A' c' w', OwnInts w' w.heap.size w'.heap.size A' c' zs → Below w.heap.size w w' → K (a.put o.dst (.slice A' zs.length c')) w') : if Region.wanted o (yielded ops a.tmps) = true then Oper.wp Try.prog o a w K Q else E := by
  have hw : Region.wanted o (yielded ops a.tmps) = true := by simp [Region.wanted, hgd]
  rw [if_pos hw]
  exact wp_copyI s x ho g A zs cap lo hi hs hx hz hn h
/-- What stands while a state is copied. -/
structure CpS (w W : World) (AF : Option Addr) (cF : Nat) (AT : Option Addr) (cT : Nat) (AZ : Option Addr) (cZ lo hi : Nat) (F T Z : List Int) : Prop where
  arg : Cel3 W w.heap.size 31 (.slice AF F.length cF) (.slice AT T.length cT) (.slice AZ Z.length cZ)
  ret : Cel3 W (w.heap.size + 1) 31 (.slice none 0 0) (.slice none 0 0) (.slice none 0 0)
  src : Peb3 W lo hi AF AT AZ F T Z
  bel : Below w.heap.size w W
theorem CpS.below {w W W' : World} {AF : Option Addr} {cF : Nat} {AT : Option Addr} {cT : Nat} {AZ : Option Addr} {cZ lo hi : Nat} {F T Z : List Int} (h : CpS w W AF cF AT cT AZ cZ lo hi F T Z) (hb : Below W.heap.size W W') : CpS w W' AF cF AT cT AZ cZ lo hi F T Z :=
  ⟨h.arg.kept hb, h.ret.kept hb, h.src.within (within_of hb) (.inr (Nat.zero_le _)), below_on h.bel hb h.bel.size⟩
theorem CpS.cells {w W : World} {AF : Option Addr} {cF : Nat} {AT : Option Addr} {cT : Nat} {AZ : Option Addr} {cZ lo hi : Nat} {F T Z : List Int} (h : CpS w W AF cF AT cT AZ cZ lo hi F T Z) :
    W.cell? ⟨w.heap.size, 0, none⟩ = some (.slice AF F.length cF) ∧ W.cell? ⟨w.heap.size, 1, none⟩ = some (.slice AT T.length cT) ∧ W.cell? ⟨w.heap.size, 2, none⟩ = some (.slice AZ Z.length cZ) := ⟨h.arg.cells.1, h.arg.cells.2.1, h.arg.cells.2.2.1⟩
/-- A state of the call's own. -/
def PebO (w : World) (F T Z : List Int) (e : Ending) (w' : World) : Prop :=
  ∃ AF cF AT cT AZ cZ, e = .returned (pebV AF F.length cF AT T.length cT AZ Z.length cZ) ∧ Own3 w' w.heap.size w'.heap.size AF cF AT cT AZ cZ F T Z ∧ Below w.heap.size w w'
end Go.Proofs.Ytdkpmaahinbhlaa
/- A state of the call's own whose rows are written: where they lie, and what a store makes of them. No condition. -/
namespace Go.Proofs.Ytdkpmaahinbhlaa
open Go.RowKit

/-- Three rows in blocks of their own; the first two are not empty. -/
structure St3 (W : World) (B gF cF gT cT : Nat) (AZ : Option Addr) (cZ z1 z2 : Nat) (F T Z : List Int) : Prop where
  f : W.ownsRow B 3 1 (.slice (some ⟨gF, 0, none⟩) F.length cF) F.length (intCells F)
  t : W.ownsRow B 3 1 (.slice (some ⟨gT, 0, none⟩) T.length cT) T.length (intCells T)
  z : OwnInts W z1 z2 AZ cZ Z
  b : B ≤ z1
  ne : gF ≠ gT
  dF : gF < z1 ∨ z2 ≤ gF
  dT : gT < z1 ∨ z2 ≤ gT
theorem own_raise {W : World} {B g cap n size : Nat} {e : TypeId} {xs : List Value} (h : W.ownsRow B e size (.slice (some ⟨g, 0, none⟩) n cap) n xs) : W.ownsRow g e size (.slice (some ⟨g, 0, none⟩) n cap) n xs := by
  refine ⟨h.1, ?_⟩
  rcases h.2 with ⟨h1, _⟩ | ⟨g', cap', cur, h1, _, h3⟩
  · cases h1
  · cases h1
    exact .inr ⟨g, cap, cur, rfl, Nat.le_refl _, h3⟩
theorem Own3.open_ {W : World} {lo hi : Nat} {AF AT AZ : Option Addr} {cF cT cZ : Nat} {F T Z : List Int} (h : Own3 W lo hi AF cF AT cT AZ cZ F T Z) (hF : 0 < F.length) (hT : 0 < T.length) :
    ∃ gF gT z1 z2, AF = some ⟨gF, 0, none⟩ ∧ AT = some ⟨gT, 0, none⟩ ∧ lo ≤ gF ∧ gF < hi ∧ lo ≤ gT ∧ gT < hi ∧ z2 ≤ hi ∧ St3 W lo gF cF gT cT AZ cZ z1 z2 F T Z := by
  obtain ⟨⟨f1, f2⟩, ⟨t1, t2⟩, ⟨z1, z2⟩, o1, o2, o3, d1, d2, d3, b1, b2, b3, h4⟩ := h
  simp only [Dis] at o1 o2 o3 d1 d2 d3 b1 b2 b3
  rcases o1.2 with e | ⟨gF, rfl, g1, g2, hf⟩
  · subst e; simp at hF
  · rcases o2.2 with e | ⟨gT, rfl, g3, g4, ht⟩
    · subst e; simp at hT
    · exact ⟨gF, gT, z1, z2, rfl, rfl, by omega, by omega, by omega, by omega, by omega, own_base hf b1.1, own_base ht b2.1, o3, b3.1, by omega, by omega, by omega⟩
theorem St3.own {W : World} {B gF cF gT cT : Nat} {AZ : Option Addr} {cZ z1 z2 : Nat} {F T Z : List Int} (h : St3 W B gF cF gT cT AZ cZ z1 z2 F T Z) : Own3 W B W.heap.size (some ⟨gF, 0, none⟩) cF (some ⟨gT, 0, none⟩) cT AZ cZ F T Z := by
  have h1 := h.f.lt gF rfl
  have h2 := h.t.lt gT rfl
  have h3 := h.z.1
  have n1 := h.ne
  have n2 := h.dF
  have n3 := h.dT
  have n4 := h.b
  exact ⟨(gF, gF + 1), (gT, gT + 1), (z1, z2), ⟨by simp only []; omega, .inr ⟨gF, rfl, Nat.le_refl _, Nat.lt_succ_self _, own_raise h.f⟩⟩, ⟨by simp only []; omega, .inr ⟨gT, rfl, Nat.le_refl _, Nat.lt_succ_self _, own_raise h.t⟩⟩, h.z, by unfold Dis; simp only []; omega, by unfold Dis; simp only []; omega, by unfold Dis; simp only []; omega, by simp only []; omega, by simp only []; omega, ⟨h.b, h3⟩, Nat.le_refl _⟩
theorem St3.own_hi {W : World} {B gF cF gT cT : Nat} {AZ : Option Addr} {cZ z1 z2 hi : Nat} {F T Z : List Int} (h : St3 W B gF cF gT cT AZ cZ z1 z2 F T Z) (h1 : gF < hi) (h2 : gT < hi) (h3 : z2 ≤ hi) (h4 : hi ≤ W.heap.size) : Own3 W B hi (some ⟨gF, 0, none⟩) cF (some ⟨gT, 0, none⟩) cT AZ cZ F T Z := by
  have k1 := h.f.lt gF rfl
  have k2 := h.t.lt gT rfl
  have n1 := h.ne
  have n2 := h.dF
  have n3 := h.dT
  have n4 := h.b
  exact ⟨(gF, gF + 1), (gT, gT + 1), (z1, z2), ⟨by simp only []; omega, .inr ⟨gF, rfl, Nat.le_refl _, Nat.lt_succ_self _, own_raise h.f⟩⟩, ⟨by simp only []; omega, .inr ⟨gT, rfl, Nat.le_refl _, Nat.lt_succ_self _, own_raise h.t⟩⟩, h.z, by unfold Dis; simp only []; omega, by unfold Dis; simp only []; omega, by unfold Dis; simp only []; omega, by simp only []; omega, by simp only []; omega, ⟨h.b, h3⟩, h4⟩
theorem St3.below {W W' : World} {B gF cF gT cT : Nat} {AZ : Option Addr} {cZ z1 z2 : Nat} {F T Z : List Int} (h : St3 W B gF cF gT cT AZ cZ z1 z2 F T Z) (hb : Below W.heap.size W W') : St3 W' B gF cF gT cT AZ cZ z1 z2 F T Z :=
  ⟨own_below h.f hb, own_below h.t hb, h.z.within (within_of hb) (.inr (Nat.zero_le _)), h.b, h.ne, h.dF, h.dT⟩
theorem St3.within {W W' : World} {B gF cF gT cT : Nat} {AZ : Option Addr} {cZ z1 z2 lo hi : Nat} {F T Z : List Int} (h : St3 W B gF cF gT cT AZ cZ z1 z2 F T Z) (hw : Within lo hi W W') (h1 : gF < lo ∨ hi ≤ gF) (h2 : gT < lo ∨ hi ≤ gT) (h3 : z2 ≤ lo ∨ hi ≤ z1) : St3 W' B gF cF gT cT AZ cZ z1 z2 F T Z :=
  ⟨own_block h.f (hw.block gF (h.f.lt gF rfl).2 h1), own_block h.t (hw.block gT (h.t.lt gT rfl).2 h2), h.z.within hw h3, h.b, h.ne, h.dF, h.dT⟩
theorem intCells_set (zs : List Int) (i : Nat) (x : Int) : (intCells zs).set i (.int .i64 x) = intCells (zs.set i x) := by
  unfold intCells
  rw [← List.map_set]
theorem St3.setF {W : World} {B gF cF gT cT : Nat} {AZ : Option Addr} {cZ z1 z2 : Nat} {F T Z : List Int} (h : St3 W B gF cF gT cT AZ cZ z1 z2 F T Z) (i : Nat) (x : Int) : St3 (W.setCell ⟨gF, i, none⟩ (.int .i64 x)) B gF cF gT cT AZ cZ z1 z2 (F.set i x) T Z := by
  have hw := within_set W gF i (.int .i64 x)
  have h1 := (h.f.stored i (.int .i64 x)).1
  rw [intCells_set] at h1
  exact ⟨by rw [List.length_set]; exact h1, own_block h.t (hw.block gT (h.t.lt gT rfl).2 (by have := h.ne; omega)), h.z.within hw (by have := h.dF; omega), h.b, h.ne, h.dF, h.dT⟩
theorem St3.setT {W : World} {B gF cF gT cT : Nat} {AZ : Option Addr} {cZ z1 z2 : Nat} {F T Z : List Int} (h : St3 W B gF cF gT cT AZ cZ z1 z2 F T Z) (i : Nat) (x : Int) : St3 (W.setCell ⟨gT, i, none⟩ (.int .i64 x)) B gF cF gT cT AZ cZ z1 z2 F (T.set i x) Z := by
  have hw := within_set W gT i (.int .i64 x)
  have h1 := (h.t.stored i (.int .i64 x)).1
  rw [intCells_set] at h1
  exact ⟨own_block h.f (hw.block gF (h.f.lt gF rfl).2 (by have := h.ne; omega)), by rw [List.length_set]; exact h1, h.z.within hw (by have := h.dT; omega), h.b, h.ne, h.dF, h.dT⟩
theorem St3.cellF {W : World} {B gF cF gT cT : Nat} {AZ : Option Addr} {cZ z1 z2 : Nat} {F T Z : List Int} (h : St3 W B gF cF gT cT AZ cZ z1 z2 F T Z) (i : Nat) (hi : i < F.length) : W.cell? ⟨gF, i, none⟩ = some (.int .i64 (F.getD i 0)) ∧ W.frozen? ⟨gF, i, none⟩ = false :=
  ⟨(h.f.cellAt i (by omega)).trans (intCells_get F i hi), h.f.frozenAt i⟩
theorem St3.cellT {W : World} {B gF cF gT cT : Nat} {AZ : Option Addr} {cZ z1 z2 : Nat} {F T Z : List Int} (h : St3 W B gF cF gT cT AZ cZ z1 z2 F T Z) (i : Nat) (hi : i < T.length) : W.cell? ⟨gT, i, none⟩ = some (.int .i64 (T.getD i 0)) ∧ W.frozen? ⟨gT, i, none⟩ = false :=
  ⟨(h.t.cellAt i (by omega)).trans (intCells_get T i hi), h.t.frozenAt i⟩
end Go.Proofs.Ytdkpmaahinbhlaa
/- A state of the call's own, each row in a range of its own; what may be written is named. No program's walk. No condition. -/
namespace Go.Proofs.Ytdkpmaahinbhlaa
open Go.RowKit

/-- The blocks of two ranges may be written; nothing else was. -/
structure Within2 (f t : Nat × Nat) (w w' : World) : Prop where
  os : w'.os = w.os
  tape : w'.tape = w.tape
  output : w'.output = w.output
  size : w.heap.size ≤ w'.heap.size
  block : ∀ k, k < w.heap.size → (k < f.1 ∨ f.2 ≤ k) → (k < t.1 ∨ t.2 ≤ k) → w'.heap[k]? = w.heap[k]?
theorem Within2.refl (f t : Nat × Nat) (w : World) : Within2 f t w w := ⟨rfl, rfl, rfl, Nat.le_refl _, fun _ _ _ _ => rfl⟩
theorem Within2.trans {f t : Nat × Nat} {a b c : World} (h : Within2 f t a b) (k : Within2 f t b c) : Within2 f t a c :=
  ⟨k.os.trans h.os, k.tape.trans h.tape, k.output.trans h.output, Nat.le_trans h.size k.size, fun i hi' h1 h2 => (k.block i (Nat.lt_of_lt_of_le hi' h.size) h1 h2).trans (h.block i hi' h1 h2)⟩
theorem Within2.of {f t : Nat × Nat} {lo hi : Nat} {a b : World} (h : Within lo hi a b) (hd : hi ≤ lo ∨ (f.1 ≤ lo ∧ hi ≤ f.2) ∨ (t.1 ≤ lo ∧ hi ≤ t.2)) : Within2 f t a b :=
  ⟨h.os, h.tape, h.output, h.size, fun i hi' h1 h2 => h.block i hi' (by omega)⟩
/-- What lies under a bound that no range reaches stands. -/
theorem Within2.one {f t : Nat × Nat} {a b : World} (h : Within2 f t a b) (k : Nat) (h1 : k < f.1 ∨ f.2 ≤ k) (h2 : k < t.1 ∨ t.2 ≤ k) : a.heap.size ≤ k ∨ b.heap[k]? = a.heap[k]? := by
  by_cases hk : k < a.heap.size
  · exact .inr (h.block k hk h1 h2)
  · exact .inl (by omega)
theorem OwnR.at {W W' : World} {lo hi : Nat} {A : Option Addr} {cap : Nat} {zs : List Int} (h : OwnR W lo hi A cap zs) {f t : Nat × Nat} (hw : Within2 f t W W') (h1 : hi ≤ f.1 ∨ f.2 ≤ lo) (h2 : hi ≤ t.1 ∨ t.2 ≤ lo) : OwnR W' lo hi A cap zs :=
  ⟨Nat.le_trans h.1 hw.size, by
    rcases h.2 with e | ⟨g, e, g1, g2, ho⟩
    · exact .inl e
    · exact .inr ⟨g, e, g1, g2, own_block ho (hw.block g (Nat.lt_of_lt_of_le g2 h.1) (by omega) (by omega))⟩⟩
theorem IntsIn.at {W W' : World} {lo hi : Nat} {A : Option Addr} {zs : List Int} (h : IntsIn W lo hi A zs) {f t : Nat × Nat} (hw : Within2 f t W W') (h1 : hi ≤ f.1 ∨ f.2 ≤ lo) (h2 : hi ≤ t.1 ∨ t.2 ≤ lo) : IntsIn W' lo hi A zs :=
  ⟨Nat.le_trans h.1 hw.size, fun hl => by
    obtain ⟨b, off, e, b1, b2, hc⟩ := h.2 hl
    exact ⟨b, off, e, b1, b2, fun k hk => (World.cell?_of_block (a := ⟨b, off + k, none⟩) (hw.block b (Nat.lt_of_lt_of_le b2 h.1) (by omega) (by omega))).trans (hc k hk)⟩⟩
theorem Cel3.at {W W' : World} {b : Nat} {T : TypeId} {v0 v1 v2 : Value} (h : Cel3 W b T v0 v1 v2) {f t : Nat × Nat} (hw : Within2 f t W W') (h1 : b < f.1 ∨ f.2 ≤ b) (h2 : b < t.1 ∨ t.2 ≤ b) : Cel3 W' b T v0 v1 v2 := (hw.block b h.lt h1 h2).trans h
/-- A state of the call's own: each row in its range. -/
def OwnF (W : World) (f t z : Nat × Nat) (AF : Option Addr) (cF : Nat) (AT : Option Addr) (cT : Nat) (AZ : Option Addr) (cZ : Nat) (F T Z : List Int) : Prop :=
  OwnR W f.1 f.2 AF cF F ∧ OwnR W t.1 t.2 AT cT T ∧ OwnR W z.1 z.2 AZ cZ Z ∧ Dis f t ∧ Dis f z ∧ Dis t z
theorem Own3R.ownF {W : World} {lo hi : Nat} {AF AT AZ : Option Addr} {cF cT cZ : Nat} {F T Z : List Int} (h : Own3R W lo hi AF cF AT cT AZ cZ F T Z) : ∃ f t z : Nat × Nat, OwnF W f t z AF cF AT cT AZ cZ F T Z ∧ (lo ≤ f.1 ∧ f.2 ≤ hi) ∧ (lo ≤ t.1 ∧ t.2 ≤ hi) ∧ (lo ≤ z.1 ∧ z.2 ≤ hi) := by
  obtain ⟨f, t, z, h1, h2, h3, d1, d2, d3, b1, b2, b3, _⟩ := h
  exact ⟨f, t, z, ⟨h1, h2, h3, d1, d2, d3⟩, b1, b2, b3⟩
theorem OwnF.hi {W : World} {f t z : Nat × Nat} {AF AT AZ : Option Addr} {cF cT cZ : Nat} {F T Z : List Int} (h : OwnF W f t z AF cF AT cT AZ cZ F T Z) : f.2 ≤ W.heap.size ∧ t.2 ≤ W.heap.size ∧ z.2 ≤ W.heap.size := ⟨h.1.1, h.2.1.1, h.2.2.1.1⟩
theorem OwnF.within {W W' : World} {f t z : Nat × Nat} {AF AT AZ : Option Addr} {cF cT cZ : Nat} {F T Z : List Int} (h : OwnF W f t z AF cF AT cT AZ cZ F T Z) {lo' hi' : Nat} (hw : Within lo' hi' W W') (h1 : f.2 ≤ lo' ∨ hi' ≤ f.1) (h2 : t.2 ≤ lo' ∨ hi' ≤ t.1) (h3 : z.2 ≤ lo' ∨ hi' ≤ z.1) : OwnF W' f t z AF cF AT cT AZ cZ F T Z :=
  ⟨h.1.within hw h1, h.2.1.within hw h2, h.2.2.1.within hw h3, h.2.2.2⟩
theorem OwnF.below {W W' : World} {f t z : Nat × Nat} {AF AT AZ : Option Addr} {cF cT cZ : Nat} {F T Z : List Int} (h : OwnF W f t z AF cF AT cT AZ cZ F T Z) (hb : Below W.heap.size W W') : OwnF W' f t z AF cF AT cT AZ cZ F T Z :=
  h.within (within_of hb) (.inr (Nat.zero_le _)) (.inr (Nat.zero_le _)) (.inr (Nat.zero_le _))
theorem OwnF.reads {W : World} {f t z : Nat × Nat} {AF AT AZ : Option Addr} {cF cT cZ : Nat} {F T Z : List Int} (h : OwnF W f t z AF cF AT cT AZ cZ F T Z) : Peb3 W 0 W.heap.size AF AT AZ F T Z :=
  ⟨h.1.ints.reads.widen (Nat.zero_le _) h.1.1 (Nat.le_refl _), h.2.1.ints.reads.widen (Nat.zero_le _) h.2.1.1 (Nat.le_refl _), h.2.2.1.ints.reads.widen (Nat.zero_le _) h.2.2.1.1 (Nat.le_refl _)⟩
theorem own_rebase {W : World} {a b g cap n : Nat} {e : TypeId} {size : Nat} {xs : List Value} (h : W.ownsRow a e size (.slice (some ⟨g, 0, none⟩) n cap) n xs) (hb : b ≤ g) : W.ownsRow b e size (.slice (some ⟨g, 0, none⟩) n cap) n xs := by
  refine ⟨h.1, ?_⟩
  rcases h.2 with ⟨e0, _⟩ | ⟨g', c', cur, e1, _, r⟩
  · cases e0
  · cases e1
    exact .inr ⟨g, cap, cur, rfl, hb, r⟩
theorem OwnR.open_ {W : World} {lo hi : Nat} {A : Option Addr} {cap : Nat} {zs : List Int} (h : OwnR W lo hi A cap zs) (hz : 0 < zs.length) : ∃ g, A = some ⟨g, 0, none⟩ ∧ lo ≤ g ∧ g < hi ∧ W.ownsRow 0 3 1 (.slice (some ⟨g, 0, none⟩) zs.length cap) zs.length (intCells zs) := by
  rcases h.2 with ⟨_, _, e⟩ | ⟨g, e, h1, h2, ho⟩
  · rw [e] at hz; exact absurd hz (by simp)
  · exact ⟨g, e, h1, h2, own_rebase ho (Nat.zero_le _)⟩
theorem OwnF.fst {W : World} {f t z : Nat × Nat} {AF AT AZ : Option Addr} {cF cT cZ : Nat} {F T Z : List Int} (h : OwnF W f t z AF cF AT cT AZ cZ F T Z) (hF : 0 < F.length) : ∃ gF, AF = some ⟨gF, 0, none⟩ ∧ f.1 ≤ gF ∧ gF < f.2 := by
  obtain ⟨g, e, h1, h2, _⟩ := h.1.open_ hF
  exact ⟨g, e, h1, h2⟩
theorem OwnF.open_ {W : World} {f t z : Nat × Nat} {AF AT AZ : Option Addr} {cF cT cZ : Nat} {F T Z : List Int} (h : OwnF W f t z AF cF AT cT AZ cZ F T Z) (hF : 0 < F.length) (hT : 0 < T.length) :
    ∃ gF gT, AF = some ⟨gF, 0, none⟩ ∧ AT = some ⟨gT, 0, none⟩ ∧ (f.1 ≤ gF ∧ gF < f.2) ∧ (t.1 ≤ gT ∧ gT < t.2) ∧ St3 W 0 gF cF gT cT AZ cZ z.1 z.2 F T Z := by
  obtain ⟨o1, o2, o3, d1, d2, d3⟩ := h
  obtain ⟨gF, rfl, f1, f2, hf⟩ := o1.open_ hF
  obtain ⟨gT, rfl, t1, t2, ht⟩ := o2.open_ hT
  unfold Dis at d1 d2 d3
  exact ⟨gF, gT, rfl, rfl, ⟨f1, f2⟩, ⟨t1, t2⟩, ⟨hf, ht, o3.ints, Nat.zero_le _, by omega, by omega, by omega⟩⟩
/-- The opened state, closed again; the third row stood. -/
theorem St3.ownF {W : World} {f t z : Nat × Nat} {gF cF gT cT : Nat} {AZ : Option Addr} {cZ z1 z2 : Nat} {F T Z : List Int} (h : St3 W 0 gF cF gT cT AZ cZ z1 z2 F T Z) (hf : f.1 ≤ gF ∧ gF < f.2) (ht : t.1 ≤ gT ∧ gT < t.2) (s1 : f.2 ≤ W.heap.size) (s2 : t.2 ≤ W.heap.size) (hz : OwnR W z.1 z.2 AZ cZ Z) (d1 : Dis f t) (d2 : Dis f z) (d3 : Dis t z) : OwnF W f t z (some ⟨gF, 0, none⟩) cF (some ⟨gT, 0, none⟩) cT AZ cZ F T Z :=
  ⟨⟨s1, .inr ⟨gF, rfl, hf.1, hf.2, own_rebase h.f hf.1⟩⟩, ⟨s2, .inr ⟨gT, rfl, ht.1, ht.2, own_rebase h.t ht.1⟩⟩, hz, d1, d2, d3⟩
theorem below_at {B : Nat} {f t : Nat × Nat} {a b c : World} (h : Below B a b) (k : Within2 f t b c) (hB : B ≤ b.heap.size) (h1 : B ≤ f.1) (h2 : B ≤ t.1) : Below B a c :=
  ⟨k.os.trans h.os, k.tape.trans h.tape, k.output.trans h.output, Nat.le_trans h.size k.size, fun i hi' => (k.block i (by omega) (by omega) (by omega)).trans (h.block i hi')⟩
theorem OwnF.own3 {W : World} {f t z : Nat × Nat} {AF AT AZ : Option Addr} {cF cT cZ : Nat} {F T Z : List Int} (h : OwnF W f t z AF cF AT cT AZ cZ F T Z) {lo hi : Nat} (h1 : lo ≤ f.1 ∧ f.2 ≤ hi) (h2 : lo ≤ t.1 ∧ t.2 ≤ hi) (h3 : lo ≤ z.1 ∧ z.2 ≤ hi) (h4 : hi ≤ W.heap.size) : Own3 W lo hi AF cF AT cT AZ cZ F T Z :=
  ⟨f, t, z, h.1.ints, h.2.1.ints, h.2.2.1.ints, h.2.2.2.1, h.2.2.2.2.1, h.2.2.2.2.2, h1, h2, h3, h4⟩
end Go.Proofs.Ytdkpmaahinbhlaa
/- An append of one int onto a row of the call's own, in its range. No program's walk. No condition. -/
namespace Go.Proofs.Ytdkpmaahinbhlaa
open Go.RowKit

theorem wpList_pushR (w : World) {ops : Array Oper} {rest : List Oper} {o : Oper} {a : Act} {Q : Exit → Act → World → Prop} (hgd : o.guard = none) (s x : Operand)
    (ho : o.op = .call { callee := .builtin .append, args := #[s, x], argTypes := #[29, 29] }) (lo hi : Nat) (A : Option Addr) (cap : Nat) (zs : List Int) (y : Int) (hs : a.eval s = .slice A zs.length cap) (hr : OwnR w lo hi A cap zs)
    (tb : TypeId) (hx : a.eval x = .slice (some ⟨w.heap.size, 0, none⟩) 1 1) (hn : zs.length ≤ 1048576) (hlo : lo ≤ w.heap.size)
    (h : ∀ A' c' w' lo' hi', OwnR w' lo' hi' A' c' (zs ++ [y]) → ((lo' = lo ∧ hi' = hi) ∨ (w.heap.size ≤ lo' ∧ lo' ≤ w'.heap.size ∧ hi' ≤ w'.heap.size)) → Within lo hi w w' → wpList Try.prog ops Q rest (a.put o.dst (.slice A' (zs.length + 1) c')) w') : wpList Try.prog ops Q (o :: rest) a (w.alloc (.cells #[.int .i64 y] tb)) := by
  have hlen : (zs ++ [y]).length = zs.length + 1 := by simp
  have hcells : intCells (zs ++ [y]) = intCells zs ++ [.int .i64 y] := by simp [intCells]
  refine wpList_at w hgd s x 29 ho lo 3 (.int .i64 0) 1 8 Try.underlying29 infoInt rfl (by decide) _ _ _ hs hr.row #[.int .i64 y] 1 rfl (by simp [Value.oneCell']) tb 1 hx (by omega) (by unfold maxLen; omega) hlo ?_
  intro v' w' hown hg hat _
  obtain ⟨A', c', rfl⟩ := own_shape hown
  rw [show intCells zs ++ (#[Value.int .i64 y] : Array Value).toList = intCells (zs ++ [y]) from hcells.symm, ← hlen] at hown
  rw [← hlen] at hat
  have hw : Within lo hi w w' := ⟨hg.os, hg.tape, hg.output, hg.size, fun k hk hd => hg.block k hk fun e => by
    rcases hr.2 with ⟨rfl, rfl, rfl⟩ | ⟨g, rfl, g1, g2, _⟩
    · cases e
    · have : k = g := by simpa [Value.ownBlock] using e
      omega⟩
  rcases hown.2 with ⟨_, e0⟩ | ⟨g', cap', cur, e1, _⟩
  · rw [hlen] at e0; omega
  · injection e1 with q1 q2 q3
    subst q1
    have hlt := hown.lt g' rfl
    rcases hat with e | e
    · rcases hr.2 with ⟨rfl, rfl, rfl⟩ | ⟨g, rfl, g1, g2, _⟩
      · cases e
      · have : g' = g := by simpa [Value.ownBlock] using e
        subst this
        exact h _ c' w' lo hi ⟨Nat.le_trans hr.1 hg.size, .inr ⟨g', rfl, g1, g2, hown⟩⟩ (.inl ⟨rfl, rfl⟩) hw
    · have : g' = w.heap.size + 1 := by simpa [Value.ownBlock] using e
      exact h _ c' w' g' (g' + 1) ⟨hlt.2, .inr ⟨g', rfl, Nat.le_refl _, by omega, own_rebase hown (Nat.le_refl _)⟩⟩ (.inr ⟨by omega, by omega, hlt.2⟩) hw
/-- What lay under a bound stands: as a range from it on. -/
theorem within_low {B : Nat} {w w' : World} (h : Below B w w') : Within B w.heap.size w w' := ⟨h.os, h.tape, h.output, h.size, fun k _ hd => h.block k (by omega)⟩
theorem below_low {B lo hi : Nat} {w w' : World} (h : Within lo hi w w') (hB : B ≤ lo) (hw : B ≤ w.heap.size) : Below B w w' := ⟨h.os, h.tape, h.output, h.size, fun k hk => h.block k (by omega) (by omega)⟩
theorem below_low2 {B : Nat} {f t : Nat × Nat} {w w' : World} (h : Within2 f t w w') (h1 : B ≤ f.1) (h2 : B ≤ t.1) (hw : B ≤ w.heap.size) : Below B w w' := ⟨h.os, h.tape, h.output, h.size, fun k hk => h.block k (by omega) (by omega) (by omega)⟩
/-- What placing a bar answers, and what it makes of the state in the box pb. -/
def PlaceP (w : World) (B pb : Nat) (f t z : Nat × Nat) (AF : Option Addr) (cF : Nat) (AT : Option Addr) (cT : Nat) (AZ : Option Addr) (cZ : Nat) (l : List (Int × Int)) (c : Int) (F T Z : List Int) (n : Int) (e : Ending) (w' : World) : Prop :=
  Below B w w' ∧ ((e = .returned (.bool false) ∧ plaR l c F T Z n = none ∧ OwnF w' f t z AF cF AT cT AZ cZ F T Z ∧ Cel3 w' pb 31 (.slice AF F.length cF) (.slice AT T.length cT) (.slice AZ Z.length cZ)) ∨
    ∃ (s : List Int × List Int × List Int) (AT' : Option Addr) (cT' : Nat) (AZ' : Option Addr) (cZ' : Nat) (t' z' : Nat × Nat), e = .returned (.bool true) ∧ plaR l c F T Z n = some s ∧ OwnF w' f t' z' AF cF AT' cT' AZ' cZ' s.1 s.2.1 s.2.2 ∧ Cel3 w' pb 31 (.slice AF s.1.length cF) (.slice AT' s.2.1.length cT') (.slice AZ' s.2.2.length cZ') ∧
      (t' = t ∨ (w.heap.size ≤ t'.1 ∧ t'.1 ≤ w'.heap.size)) ∧ (z' = z ∨ (w.heap.size ≤ z'.1 ∧ z'.1 ≤ w'.heap.size)))
end Go.Proofs.Ytdkpmaahinbhlaa
/- Rows of rows of ints: how they are read and compared. No condition. -/
namespace Go.Proofs.Ytdkpmaahinbhlaa
open Go.RowKit

/-- The slice at A reads as the rows rs; it and its rows lie in blocks from lo to hi. -/
def RowsIn (W : World) (lo hi : Nat) (A : Option Addr) (rs : List (List Int)) : Prop :=
  hi ≤ W.heap.size ∧ (0 < rs.length → ∃ b off, A = some ⟨b, off, none⟩ ∧ lo ≤ b ∧ b < hi ∧ ∀ k, k < rs.length → ∃ A' c', W.cell? ⟨b, off + k, none⟩ = some (.slice A' (rs.getD k []).length c') ∧ IntsIn W lo hi A' (rs.getD k []))
theorem RowsIn.within {W W' : World} {lo hi lo' hi' : Nat} {A : Option Addr} {rs : List (List Int)} (h : RowsIn W lo hi A rs) (hw : Within lo' hi' W W') (hd : hi ≤ lo' ∨ hi' ≤ lo) : RowsIn W' lo hi A rs :=
  ⟨Nat.le_trans h.1 hw.size, fun hl => by
    obtain ⟨b, off, e, h1, h2, hc⟩ := h.2 hl
    have hk := hw.block b (Nat.lt_of_lt_of_le h2 h.1) (by omega)
    refine ⟨b, off, e, h1, h2, fun k hk' => ?_⟩
    obtain ⟨A', c', h3, h4⟩ := hc k hk'
    exact ⟨A', c', (World.cell?_of_block (a := ⟨b, off + k, none⟩) hk).trans h3, h4.within hw hd⟩⟩

set_option maxHeartbeats 2000000 in
set_option maxRecDepth 100000 in
theorem eqRows_c (rs : List (List Int)) (A A' : Option Addr) (cap cap' lo hi lo' hi' : Nat) (w : World) (hl : RowsIn w lo hi A rs) (hl' : RowsIn w lo' hi' A' rs) (hn : rs.length ≤ 1048576) (hr : ∀ k, k < rs.length → (rs.getD k []).length ≤ 1048576) :
    Calls Try.prog 90 #[.slice A rs.length cap, .slice A' rs.length cap'] w fun e w' => e = .returned (.bool true) ∧ Below w.heap.size w w' := by
  have HL := Lib.hid hl
  have HL' := Lib.hid hl'
  have HR := Lib.hid hr
  clear hl hl' hr
  go_enter Try.func90, Try.ntmps90
  go_wp2_with fail
  go_loopw [5] (fun i wr => ∃ k : Nat, k ≤ rs.length ∧ i = .int .i64 k ∧ Below w.heap.size w wr) (fun i _ => rs.length - (intOf i).toNat)
  case atStart => exact ⟨0, by omega, rfl, Below.refl _ _⟩
  case round =>
    obtain ⟨k, hk, rfl, hb⟩ := hrel
    have HB := Lib.hid hb
    have HQ := Lib.hid (HL.out.within (within_low hb) (.inl HL.out.1))
    have HQ' := Lib.hid (HL'.out.within (within_low hb) (.inl HL'.out.1))
    have HWS := Lib.hid hb.size
    clear hb
    by_cases hlt : k < rs.length
    · have hi : (k : Int) < (rs.length : Int) := by omega
      obtain ⟨b, off, rfl, _, _, hcell⟩ := HQ.out.2 (by omega)
      obtain ⟨b', off', rfl, _, _, hcell'⟩ := HQ'.out.2 (by omega)
      obtain ⟨A1, c1, hc1, hi1⟩ := hcell k hlt
      obtain ⟨A2, c2, hc2, hi2⟩ := hcell' k hlt
      have hz := HR.out k hlt
      clear hcell hcell'
      obtain ⟨zs, hzs⟩ : ∃ zs, rs.getD k [] = zs := ⟨_, rfl⟩
      rw [hzs] at hc1 hc2 hi1 hi2 hz
      clear hzs
      have HI1 := Lib.hid hi1
      have HI2 := Lib.hid hi2
      clear hi1 hi2
      go_wp2_with fail
      refine wp_region_held_drew (S := (fun W' : World => W'.cell? ⟨b, off + k, none⟩ = some (.slice A1 zs.length c1) ∧ W'.cell? ⟨b', off' + k, none⟩ = some (.slice A2 zs.length c2))) (by kernel_rfl) ?_ (fun hHeld => ?_)
      · exact ⟨hc1, hc2⟩
      have HD := Lib.hid (show Below wr.heap.size wr wr.drew from (Below.refl _ _).drew)
      have HDS := Lib.hid HD.out.size
      generalize wr.drew = WD at *
      refine wpAnyH_take (i := 0) (v := .slice (some ⟨b, off, none⟩) rs.length cap) rfl (by kernel_rfl) (by kernel_rfl) (by kernel_rfl) (fun _ _ _ h => h) (Or.inl ⟨by kernel_rfl, fun w hSw => by (try dsimp only at hSw); go_simp; all_goals first | omega | exact IntWalk.i64_in _ (by omega)⟩) (by assumption) ?_
      refine wpAnyH_take (i := 1) (v := .int .i64 (k : Int)) rfl (by kernel_rfl) (by kernel_rfl) (by kernel_rfl) (fun _ _ _ h => h) (Or.inl ⟨by kernel_rfl, fun w hSw => by (try dsimp only at hSw); go_simp; all_goals first | omega | exact IntWalk.i64_in _ (by omega)⟩) (by assumption) ?_
      refine wpAnyH_take (i := 2) (v := .pointer (some ⟨b, off + k, none⟩)) rfl (by kernel_rfl) (by kernel_rfl) (by kernel_rfl) (fun _ _ _ h => h) (Or.inl ⟨by kernel_rfl, fun w hSw => by (try dsimp only at hSw); go_simp; all_goals first | omega | exact IntWalk.i64_in _ (by omega)⟩) (by assumption) ?_
      refine wpAnyH_take (i := 3) (v := .slice A1 zs.length c1) rfl (by kernel_rfl) (by kernel_rfl) (by kernel_rfl) (fun _ _ _ h => h) (Or.inl ⟨by kernel_rfl, fun w hSw => by (try dsimp only at hSw); go_simp; all_goals first | omega | exact IntWalk.i64_in _ (by omega)⟩) (by assumption) ?_
      refine wpAnyH_take (i := 4) (v := .slice (some ⟨b', off', none⟩) rs.length cap') rfl (by kernel_rfl) (by kernel_rfl) (by kernel_rfl) (fun _ _ _ h => h) (Or.inl ⟨by kernel_rfl, fun w hSw => by (try dsimp only at hSw); go_simp; all_goals first | omega | exact IntWalk.i64_in _ (by omega)⟩) (by assumption) ?_
      refine wpAnyH_take (i := 5) (v := .int .i64 (k : Int)) rfl (by kernel_rfl) (by kernel_rfl) (by kernel_rfl) (fun _ _ _ h => h) (Or.inl ⟨by kernel_rfl, fun w hSw => by (try dsimp only at hSw); go_simp; all_goals first | omega | exact IntWalk.i64_in _ (by omega)⟩) (by assumption) ?_
      refine wpAnyH_take (i := 6) (v := .pointer (some ⟨b', off' + k, none⟩)) rfl (by kernel_rfl) (by kernel_rfl) (by kernel_rfl) (fun _ _ _ h => h) (Or.inl ⟨by kernel_rfl, fun w hSw => by (try dsimp only at hSw); go_simp; all_goals first | omega | exact IntWalk.i64_in _ (by omega)⟩) (by assumption) ?_
      refine wpAnyH_take (i := 7) (v := .slice A2 zs.length c2) rfl (by kernel_rfl) (by kernel_rfl) (by kernel_rfl) (fun _ _ _ h => h) (Or.inl ⟨by kernel_rfl, fun w hSw => by (try dsimp only at hSw); go_simp; all_goals first | omega | exact IntWalk.i64_in _ (by omega)⟩) (by assumption) ?_
      refine wpAnyH_ready (rs := [8]) (by kernel_rfl) (by simp) (AllReadyH.cons rfl (fun K hK => ?_) AllReadyH.nil)
      go_simp
      go_at_call 178
      refine (eqInts_c zs A1 A2 c1 c2 _ _ _ _ _ (HI1.out.within (within_of HD.out) (.inr (Nat.zero_le _))) (HI2.out.within (within_of HD.out) (.inr (Nat.zero_le _))) hz).mono ?_
      rintro e w9 ⟨rfl, hb9⟩
      have HB9 := Lib.hid hb9
      refine hK.out _ _ ⟨(World.cell?_of_block (hb9.block b (by have := HQ.out.1; have := HDS.out; omega))).trans hHeld.1, (World.cell?_of_block (hb9.block b' (by have := HQ'.out.1; have := HDS.out; omega))).trans hHeld.2⟩ (fun hHeld => ?_)
      clear hK K hb9
      refine wpAnyH_take (i := 9) (v := .bool false) rfl (by kernel_rfl) (by kernel_rfl) (by kernel_rfl) (fun _ _ _ h => h) (Or.inl ⟨by kernel_rfl, fun w hSw => by (try dsimp only at hSw); go_simp; all_goals first | omega | exact IntWalk.i64_in _ (by omega)⟩) (by assumption) ?_
      refine wpAnyH_done (by kernel_rfl) ?_ _
      go_wp2_with fail
      go_roundw
      case rel => exact ⟨k + 1, by omega, by go_num, below_on HB.out (below_on HD.out HB9.out HDS.out) HWS.out⟩
      case measure => simp [intOf]; omega
    · go_wp2_with fail
      go_ret
      exact ⟨rfl, HB.out⟩
end Go.Proofs.Ytdkpmaahinbhlaa
/- Rows of rows of the call's own: the laws' marks in them (laws.markIntSS, heldIntSS). No condition. -/
namespace Go.Proofs.Ytdkpmaahinbhlaa
open Go.RowKit

/-- The rows rs of the call's own: their row lies in a block from lo to hi, each of them in a range of its own. -/
def RowsOwn (W : World) (lo hi : Nat) (A : Option Addr) (rs : List (List Int)) : Prop :=
  hi ≤ W.heap.size ∧ (0 < rs.length → ∃ (g : Nat) (r : Nat → Nat × Nat) (S : Nat → Option Addr × Nat), A = some ⟨g, 0, none⟩ ∧ lo ≤ g ∧ g < hi ∧ (∀ j k, j < k → k < rs.length → Dis (r j) (r k)) ∧
    ∀ k, k < rs.length → W.cell? ⟨g, k, none⟩ = some (.slice (S k).1 (rs.getD k []).length (S k).2) ∧ OwnInts W (r k).1 (r k).2 (S k).1 (S k).2 (rs.getD k []) ∧ lo ≤ (r k).1 ∧ (r k).2 ≤ hi ∧ (g < (r k).1 ∨ (r k).2 ≤ g))
theorem RowsOwn.within {W W' : World} {lo hi lo' hi' : Nat} {A : Option Addr} {rs : List (List Int)} (h : RowsOwn W lo hi A rs) (hw : Within lo' hi' W W') (hd : hi ≤ lo' ∨ hi' ≤ lo) : RowsOwn W' lo hi A rs :=
  ⟨Nat.le_trans h.1 hw.size, fun hl => by
    obtain ⟨g, r, S, e, h1, h2, hdis, hc⟩ := h.2 hl
    have hk := hw.block g (Nat.lt_of_lt_of_le h2 h.1) (by omega)
    refine ⟨g, r, S, e, h1, h2, hdis, fun k hk' => ?_⟩
    obtain ⟨c1, c2, c3, c4, c5⟩ := hc k hk'
    exact ⟨(World.cell?_of_block (a := ⟨g, k, none⟩) hk).trans c1, c2.within hw (by omega), c3, c4, c5⟩⟩
theorem RowsOwn.reads {W : World} {lo hi : Nat} {A : Option Addr} {rs : List (List Int)} (h : RowsOwn W lo hi A rs) : RowsIn W lo hi A rs :=
  ⟨h.1, fun hl => by
    obtain ⟨g, r, S, e, h1, h2, _, hc⟩ := h.2 hl
    refine ⟨g, 0, e, h1, h2, fun k hk => ?_⟩
    obtain ⟨c1, c2, c3, c4, _⟩ := hc k hk
    exact ⟨(S k).1, (S k).2, by rw [Nat.zero_add]; exact c1, c2.reads.widen c3 c4 h.1⟩⟩

/-- The number of ints in the first n rows. -/
def tot (rs : List (List Int)) : Nat → Nat
  | 0 => 0
  | n + 1 => tot rs n + (rs.getD n []).length
theorem tot_le (rs : List (List Int)) {j n : Nat} (h : j ≤ n) : tot rs j ≤ tot rs n := by
  induction n with
  | zero =>
    obtain rfl : j = 0 := by omega
    exact Nat.le_refl _
  | succ n ih =>
    by_cases e : j = n + 1
    · subst e; exact Nat.le_refl _
    · have := ih (by omega)
      rw [tot]; omega
theorem tot_bound (rs : List (List Int)) (m n : Nat) (h : ∀ k, k < n → (rs.getD k []).length ≤ m) : tot rs n ≤ n * m := by
  induction n with
  | zero => simp [tot]
  | succ n ih =>
    have h1 := ih fun k hk => h k (by omega)
    have h2 := h n (by omega)
    rw [tot, Nat.add_mul]
    omega
/-- The rows that the marks from k on make. -/
def marksR (k : Int) (rs : List (List Int)) : List (List Int) := (List.range rs.length).map fun j => marksI (k + (tot rs j : Int)) (rs.getD j []).length
theorem marksR_len (k : Int) (rs : List (List Int)) : (marksR k rs).length = rs.length := by simp [marksR]
theorem marksR_get (k : Int) (rs : List (List Int)) (j : Nat) (h : j < rs.length) : (marksR k rs).getD j [] = marksI (k + (tot rs j : Int)) (rs.getD j []).length := by simp [marksR, List.getD, h]
/-- The row j while the first n rows are marked. -/
def stg (k : Int) (rs : List (List Int)) (n j : Nat) : List Int := if j < n then marksI (k + (tot rs j : Int)) (rs.getD j []).length else rs.getD j []
theorem stg_len (k : Int) (rs : List (List Int)) (n j : Nat) : (stg k rs n j).length = (rs.getD j []).length := by
  unfold stg
  split
  · rw [marksI_len]
  · rfl
theorem stg_now (k : Int) (rs : List (List Int)) (n : Nat) : stg k rs n n = rs.getD n [] := by unfold stg; rw [if_neg (by omega)]
theorem stg_next (k : Int) (rs : List (List Int)) (n : Nat) : stg k rs (n + 1) n = marksI (k + (tot rs n : Int)) (rs.getD n []).length := by unfold stg; rw [if_pos (by omega)]
theorem stg_else (k : Int) (rs : List (List Int)) (n j : Nat) (h : j ≠ n) : stg k rs (n + 1) j = stg k rs n j := by
  unfold stg
  by_cases e : j < n
  · rw [if_pos e, if_pos (by omega)]
  · rw [if_neg e, if_neg (by omega)]
/-- The rows while the first n of them are marked. -/
def MarkSt (W : World) (lo hi g : Nat) (r : Nat → Nat × Nat) (S : Nat → Option Addr × Nat) (k0 : Int) (rs : List (List Int)) (n : Nat) : Prop :=
  hi ≤ W.heap.size ∧ ∀ k, k < rs.length → W.cell? ⟨g, k, none⟩ = some (.slice (S k).1 (rs.getD k []).length (S k).2) ∧ OwnInts W (r k).1 (r k).2 (S k).1 (S k).2 (stg k0 rs n k) ∧ lo ≤ (r k).1 ∧ (r k).2 ≤ hi ∧ (g < (r k).1 ∨ (r k).2 ≤ g)
theorem MarkSt.below {W W' : World} {lo hi g : Nat} {r : Nat → Nat × Nat} {S : Nat → Option Addr × Nat} {k0 : Int} {rs : List (List Int)} {n : Nat} (h : MarkSt W lo hi g r S k0 rs n) (hg : g < hi) (hb : Below W.heap.size W W') : MarkSt W' lo hi g r S k0 rs n :=
  ⟨Nat.le_trans h.1 hb.size, fun k hk => by
    obtain ⟨c1, c2, c3, c4, c5⟩ := h.2 k hk
    have := h.1
    exact ⟨(hb.cell (p := ⟨g, k, none⟩) (show g < W.heap.size by omega)).trans c1, c2.within (within_of hb) (.inr (Nat.zero_le _)), c3, c4, c5⟩⟩
theorem MarkSt.next {W W' : World} {lo hi g : Nat} {r : Nat → Nat × Nat} {S : Nat → Option Addr × Nat} {k0 : Int} {rs : List (List Int)} {n : Nat} (h : MarkSt W lo hi g r S k0 rs n) (hg : g < hi) (hn : n < rs.length) (hd : ∀ j k, j < k → k < rs.length → Dis (r j) (r k))
    (hw : Within (r n).1 (r n).2 W W') (ho : OwnInts W' (r n).1 (r n).2 (S n).1 (S n).2 (marksI (k0 + (tot rs n : Int)) (rs.getD n []).length)) : MarkSt W' lo hi g r S k0 rs (n + 1) :=
  ⟨Nat.le_trans h.1 hw.size, fun k hk => by
    obtain ⟨c1, c2, c3, c4, c5⟩ := h.2 k hk
    obtain ⟨_, _, _, _, d5⟩ := h.2 n hn
    have := h.1
    refine ⟨(World.cell?_of_block (a := ⟨g, k, none⟩) (hw.block g (by omega) (by omega))).trans c1, ?_, c3, c4, c5⟩
    by_cases e : k = n
    · subst e
      rw [stg_next]
      exact ho
    · rw [stg_else _ _ _ _ e]
      refine c2.within hw ?_
      rcases Nat.lt_or_gt_of_ne e with e1 | e1
      · exact hd k n e1 hn
      · exact (hd n k e1 hk).symm⟩

set_option maxHeartbeats 2000000 in
set_option maxRecDepth 100000 in
theorem markRows_c (rs : List (List Int)) (A : Option Addr) (cap lo hi : Nat) (k0 : Int) (w : World) (h : RowsOwn w lo hi A rs) (hn : rs.length ≤ 1048576) (hr : ∀ k, k < rs.length → (rs.getD k []).length ≤ 1048576) (hk0 : 0 ≤ k0) (hk1 : k0 + (tot rs rs.length : Int) ≤ 10000000) :
    Calls Try.prog 93 #[.slice A rs.length cap, .int .i64 k0] w fun e w' => e = .returned (.int .i64 (k0 + (tot rs rs.length : Int))) ∧ Within lo hi w w' ∧ RowsOwn w' lo hi A (marksR k0 rs) := by
  by_cases h0 : rs.length = 0
  · have hs := h.1
    have ht : tot rs rs.length = 0 := by rw [h0]; rfl
    rw [ht]
    rw [h0]
    go_enter Try.func93, Try.ntmps93
    go_wp2_with fail
    refine wp_loop_rounds 1 ?_
    rw [rounds_succ]
    go_wp2_with fail
    go_ret
    exact ⟨by simp, Within.refl _ _ _, hs, fun hl => by rw [marksR_len] at hl; omega⟩
  · obtain ⟨g, r, S, rfl, h1, h2, hd, hc⟩ := h.2 (by omega)
    have HD := Lib.hid hd
    have HR := Lib.hid hr
    have HM := Lib.hid (show MarkSt w lo hi g r S k0 rs 0 from ⟨h.1, fun k hk => by
      have := hc k hk
      unfold stg
      rw [if_neg (by omega)]
      exact this⟩)
    clear hd hr hc h
    go_enter Try.func93, Try.ntmps93
    go_wp2_with fail
    go_loopw [1, 5] (fun m i wr => ∃ j : Nat, j ≤ rs.length ∧ i = .int .i64 j ∧ m = .int .i64 (k0 + (tot rs j : Int)) ∧ MarkSt wr lo hi g r S k0 rs j ∧ Within lo hi w wr) (fun _ i _ => rs.length - (intOf i).toNat)
    case atStart => exact ⟨0, by omega, rfl, by simp [tot], HM.out, Within.refl _ _ _⟩
    case round =>
      obtain ⟨j, hj, rfl, rfl, hm, hw⟩ := hrel
      have HW := Lib.hid hw
      have HM := Lib.hid hm
      clear hm hw
      by_cases hlt : j < rs.length
      · have hij : (j : Int) < (rs.length : Int) := by omega
        obtain ⟨c1, c2, c3, c4, c5⟩ := HM.out.2 j hlt
        rw [stg_now] at c2
        have hz := HR.out j hlt
        have ht := tot_le rs (j := j + 1) (n := rs.length) (by omega)
        have hs : tot rs (j + 1) = tot rs j + (rs.getD j []).length := rfl
        obtain ⟨zs, hzs⟩ : ∃ zs, rs.getD j [] = zs := ⟨_, rfl⟩
        rw [hzs] at c1 c2 hz hs
        have HZS := Lib.hid hzs
        have HO := Lib.hid c2
        have HS := Lib.hid hs
        have HQ := Lib.hid (And.intro c3 c4)
        clear c2 hzs hs c3 c4 c5
        obtain ⟨⟨A', cp⟩, hS⟩ : ∃ s, S j = s := ⟨_, rfl⟩
        rw [hS] at c1 HO
        have HSJ := Lib.hid hS
        clear hS
        go_wp2_with fail
        refine (markInts_o A' cp zs (k0 + (tot rs j : Int)) (r j).1 (r j).2 _ HO.out hz (by omega) (by have := HS.out; omega)).mono ?_
        rintro e w3 ⟨rfl, hw3, ho3⟩
        have HM3 := Lib.hid (HM.out.next h2 hlt HD.out hw3 (by rw [HZS.out, HSJ.out]; exact ho3))
        have HW3 := Lib.hid (show Within lo hi w w3 from ⟨hw3.os.trans HW.out.os, hw3.tape.trans HW.out.tape, hw3.output.trans HW.out.output, Nat.le_trans HW.out.size hw3.size, fun i hi' hd' => (hw3.block i (Nat.lt_of_lt_of_le hi' HW.out.size) (by have := HQ.out; omega)).trans (HW.out.block i hi' hd')⟩)
        have hnx : k0 + (tot rs j : Int) + (zs.length : Int) = k0 + (tot rs (j + 1) : Int) := by rw [HS.out]; omega
        clear hw3 ho3
        rw [hnx]
        go_wp2_with fail
        go_roundw
        case rel => exact ⟨j + 1, by omega, by go_num, rfl, HM3.out, HW3.out⟩
        case measure => simp [intOf]; omega
      · obtain rfl : j = rs.length := by omega
        go_wp2_with fail
        go_ret
        refine ⟨rfl, HW.out, HM.out.1, fun _ => ⟨g, r, S, rfl, h1, h2, fun j k hjk hk => HD.out j k hjk (by rw [marksR_len] at hk; exact hk), fun k hk => ?_⟩⟩
        rw [marksR_len] at hk
        obtain ⟨c1, c2, c3, c4, c5⟩ := HM.out.2 k hk
        rw [marksR_get _ _ _ hk, marksI_len]
        unfold stg at c2
        rw [if_pos hk] at c2
        exact ⟨c1, c2, c3, c4, c5⟩

set_option maxHeartbeats 2000000 in
set_option maxRecDepth 100000 in
theorem heldRows_c (rs : List (List Int)) (A : Option Addr) (cap lo hi : Nat) (k0 : Int) (w : World) (h : RowsIn w lo hi A (marksR k0 rs)) (hn : rs.length ≤ 1048576) (hr : ∀ k, k < rs.length → (rs.getD k []).length ≤ 1048576) (hk0 : 0 ≤ k0) (hk1 : k0 + (tot rs rs.length : Int) ≤ 10000000) :
    Calls Try.prog 94 #[.slice A rs.length cap, .int .i64 k0] w fun e w' => e = .returned (.int .i64 (k0 + (tot rs rs.length : Int))) ∧ Below w.heap.size w w' := by
  have HL := Lib.hid h
  have HR := Lib.hid hr
  clear h hr
  go_enter Try.func94, Try.ntmps94
  go_wp2_with fail
  go_loopw [1, 5] (fun m i wr => ∃ j : Nat, j ≤ rs.length ∧ i = .int .i64 j ∧ m = .int .i64 (k0 + (tot rs j : Int)) ∧ Below w.heap.size w wr) (fun _ i _ => rs.length - (intOf i).toNat)
  case atStart => exact ⟨0, by omega, rfl, by simp [tot], Below.refl _ _⟩
  case round =>
    obtain ⟨j, hj, rfl, rfl, hb⟩ := hrel
    have HQ := Lib.hid (HL.out.within (within_low hb) (.inl HL.out.1))
    have HB := Lib.hid hb
    clear hb
    by_cases hlt : j < rs.length
    · have hi : (j : Int) < (rs.length : Int) := by omega
      obtain ⟨b, off, rfl, _, _, hcell⟩ := HQ.out.2 (by rw [marksR_len]; omega)
      obtain ⟨A1, c1, hc1, hi1⟩ := hcell j (by rw [marksR_len]; exact hlt)
      rw [marksR_get _ _ _ hlt] at hc1 hi1
      rw [marksI_len] at hc1
      have hz := HR.out j hlt
      have ht := tot_le rs (j := j + 1) (n := rs.length) (by omega)
      have hs : tot rs (j + 1) = tot rs j + (rs.getD j []).length := rfl
      obtain ⟨m, hm⟩ : ∃ m, (rs.getD j []).length = m := ⟨_, rfl⟩
      rw [hm] at hc1 hi1 hz hs
      have HI1 := Lib.hid hi1
      have HS := Lib.hid hs
      clear hcell hi1 hm hs
      go_wp2_with fail
      refine (heldInts_c m A1 c1 (k0 + (tot rs j : Int)) _ _ _ HI1.out hz (by omega) (by have := HS.out; omega)).mono ?_
      rintro e w3 ⟨rfl, hb3⟩
      have HB3 := Lib.hid (below_on HB.out hb3 HB.out.size)
      have hnx : k0 + (tot rs j : Int) + (m : Int) = k0 + (tot rs (j + 1) : Int) := by rw [HS.out]; omega
      clear hb3
      rw [hnx]
      have hnn : ¬ k0 + (tot rs (j + 1) : Int) < 0 := by omega
      go_wp2_with fail
      go_roundw
      case rel => exact ⟨j + 1, by omega, by go_num, rfl, HB3.out⟩
      case measure => simp [intOf]; omega
    · obtain rfl : j = rs.length := by omega
      go_wp2_with fail
      go_ret
      exact ⟨rfl, HB.out⟩
end Go.Proofs.Ytdkpmaahinbhlaa
/- Rows of slices of the call's own: what an append onto them asks and does. No condition. -/
namespace Go.Proofs.Ytdkpmaahinbhlaa
open Go.RowKit

/-- A row of slices of the call's own in a block from lo to hi, or no block; an empty one too can be appended to. -/
def OwnS (W : World) (lo hi : Nat) (A : Option Addr) (cap : Nat) (zs : List Value) : Prop :=
  hi ≤ W.heap.size ∧ ((A = none ∧ cap = 0 ∧ zs = []) ∨ ∃ g, A = some ⟨g, 0, none⟩ ∧ lo ≤ g ∧ g < hi ∧ W.ownsRow lo 29 1 (.slice (some ⟨g, 0, none⟩) zs.length cap) zs.length zs)
theorem OwnS.within {W W' : World} {lo hi lo' hi' : Nat} {A : Option Addr} {cap : Nat} {zs : List Value} (h : OwnS W lo hi A cap zs) (hw : Within lo' hi' W W') (hd : hi ≤ lo' ∨ hi' ≤ lo) : OwnS W' lo hi A cap zs :=
  ⟨Nat.le_trans h.1 hw.size, by
    rcases h.2 with h2 | ⟨g, e, h1, h2, ho⟩
    · exact .inl h2
    · exact .inr ⟨g, e, h1, h2, own_block ho (hw.block g (Nat.lt_of_lt_of_le h2 h.1) (by omega))⟩⟩
/-- What an append onto the row asks. -/
theorem OwnS.row {W : World} {lo hi : Nat} {A : Option Addr} {cap : Nat} {zs : List Value} (h : OwnS W lo hi A cap zs) : W.ownsRow lo 29 1 (.slice A zs.length cap) zs.length zs := by
  rcases h.2 with ⟨rfl, rfl, rfl⟩ | ⟨g, rfl, _, _, ho⟩
  · exact ⟨rfl, .inl ⟨rfl, rfl⟩⟩
  · exact ho
theorem own_s {w' : World} {base : Nat} {A : Option Addr} {cap : Nat} {zs : List Value} (h : w'.ownsRow base 29 1 (.slice A zs.length cap) zs.length zs) : OwnS w' base w'.heap.size A cap zs := by
  rcases h.2 with ⟨h1, h0⟩ | ⟨g, cap', cur, h1, h2⟩
  · injection h1 with e1 e2 e3
    exact ⟨Nat.le_refl _, .inl ⟨e1, e3, List.eq_nil_of_length_eq_zero h0⟩⟩
  · cases h1
    exact ⟨Nat.le_refl _, .inr ⟨g, rfl, (h.lt g rfl).1, (h.lt g rfl).2, h⟩⟩
theorem infoInts : (Try.prog.info? 29).map (fun i => (i.zero, i.size, i.bytes)) = some (some (.slice none 0 0), 1, 24) := by kernel_rfl
theorem wpList_pushS (w : World) {ops : Array Oper} {rest : List Oper} {o : Oper} {a : Act} {Q : Exit → Act → World → Prop} (hgd : o.guard = none) (s x : Operand)
    (ho : o.op = .call { callee := .builtin .append, args := #[s, x], argTypes := #[63, 63] }) (lo hi : Nat) (A : Option Addr) (cap : Nat) (zs : List Value) (y : Value) (hy : y.oneCell' = true) (hs : a.eval s = .slice A zs.length cap) (hr : OwnS w lo hi A cap zs)
    (tb : TypeId) (hx : a.eval x = .slice (some ⟨w.heap.size, 0, none⟩) 1 1) (hn : zs.length ≤ 1048576) (hlo : lo ≤ w.heap.size)
    (h : ∀ A' c' w' lo' hi', OwnS w' lo' hi' A' c' (zs ++ [y]) → ((lo' = lo ∧ hi' = hi) ∨ (w.heap.size ≤ lo' ∧ lo' ≤ w'.heap.size ∧ hi' ≤ w'.heap.size)) → Within lo hi w w' → wpList Try.prog ops Q rest (a.put o.dst (.slice A' (zs.length + 1) c')) w') : wpList Try.prog ops Q (o :: rest) a (w.alloc (.cells #[y] tb)) := by
  have hlen : (zs ++ [y]).length = zs.length + 1 := by simp
  refine wpList_at w hgd s x 63 ho lo 29 (.slice none 0 0) 1 24 Try.underlying63 infoInts rfl (by decide) _ _ _ hs hr.row #[y] 1 rfl (by intro u hu; simp at hu; subst hu; exact hy) tb 1 hx (by omega) (by unfold maxLen; omega) hlo ?_
  intro v' w' hown hg hat _
  obtain ⟨A', c', rfl⟩ := own_shape hown
  rw [show zs ++ (#[y] : Array Value).toList = zs ++ [y] from rfl, ← hlen] at hown
  rw [← hlen] at hat
  have hw : Within lo hi w w' := ⟨hg.os, hg.tape, hg.output, hg.size, fun k hk hd => hg.block k hk fun e => by
    rcases hr.2 with ⟨rfl, rfl, rfl⟩ | ⟨g, rfl, g1, g2, _⟩
    · cases e
    · have : k = g := by simpa [Value.ownBlock] using e
      omega⟩
  rcases hown.2 with ⟨_, e0⟩ | ⟨g', cap', cur, e1, _⟩
  · rw [hlen] at e0; omega
  · injection e1 with q1 q2 q3
    subst q1
    have hlt := hown.lt g' rfl
    rcases hat with e | e
    · rcases hr.2 with ⟨rfl, rfl, rfl⟩ | ⟨g, rfl, g1, g2, _⟩
      · cases e
      · have : g' = g := by simpa [Value.ownBlock] using e
        subst this
        exact h _ c' w' lo hi ⟨Nat.le_trans hr.1 hg.size, .inr ⟨g', rfl, g1, g2, hown⟩⟩ (.inl ⟨rfl, rfl⟩) hw
    · have : g' = w.heap.size + 1 := by simpa [Value.ownBlock] using e
      exact h _ c' w' g' (g' + 1) ⟨hlt.2, .inr ⟨g', rfl, Nat.le_refl _, by omega, own_rebase hown (Nat.le_refl _)⟩⟩ (.inr ⟨by omega, by omega, hlt.2⟩) hw
end Go.Proofs.Ytdkpmaahinbhlaa
/- Rows of rows of the call's own while they grow. No condition. -/
namespace Go.Proofs.Ytdkpmaahinbhlaa
open Go.RowKit

/-- The rows rs of the call's own: their row lies in a block from lo to hi, each of them in a range of its own; all lie from B to T. -/
structure RowsG (W : World) (B T lo hi : Nat) (A : Option Addr) (cap : Nat) (rs : List (List Int)) : Prop where
  top : T ≤ W.heap.size
  out : B ≤ lo ∧ lo ≤ T ∧ hi ≤ T
  rows : ∃ (zs : List Value) (r : Nat → Nat × Nat) (S : Nat → Option Addr × Nat), zs.length = rs.length ∧ OwnS W lo hi A cap zs ∧ (∀ j k, j < k → k < rs.length → Dis (r j) (r k)) ∧
    ∀ k, k < rs.length → zs.getD k (.slice none 0 0) = .slice (S k).1 (rs.getD k []).length (S k).2 ∧ OwnInts W (r k).1 (r k).2 (S k).1 (S k).2 (rs.getD k []) ∧ B ≤ (r k).1 ∧ (r k).2 ≤ T ∧ Dis (lo, hi) (r k)
theorem RowsG.below {W W' : World} {B T lo hi : Nat} {A : Option Addr} {cap : Nat} {rs : List (List Int)} (h : RowsG W B T lo hi A cap rs) (hb : Below W.heap.size W W') : RowsG W' B T lo hi A cap rs := by
  obtain ⟨ht, ho, zs, r, S, h1, h2, h3, h4⟩ := h
  refine ⟨Nat.le_trans ht hb.size, ho, zs, r, S, h1, h2.within (within_of hb) (.inr (Nat.zero_le _)), h3, fun k hk => ?_⟩
  obtain ⟨c1, c2, c3, c4, c5⟩ := h4 k hk
  exact ⟨c1, c2.within (within_of hb) (.inr (Nat.zero_le _)), c3, c4, c5⟩
/-- What lies below B may change. -/
theorem RowsG.far {W W' : World} {B T lo hi : Nat} {A : Option Addr} {cap : Nat} {rs : List (List Int)} (h : RowsG W B T lo hi A cap rs) {a b : Nat} (hw : Within a b W W') (hab : b ≤ B) : RowsG W' B T lo hi A cap rs := by
  obtain ⟨ht, ho, zs, r, S, h1, h2, h3, h4⟩ := h
  refine ⟨Nat.le_trans ht hw.size, ho, zs, r, S, h1, h2.within hw (.inr (by omega)), h3, fun k hk => ?_⟩
  obtain ⟨c1, c2, c3, c4, c5⟩ := h4 k hk
  exact ⟨c1, c2.within hw (.inr (by omega)), c3, c4, c5⟩
theorem RowsG.nil (W : World) : RowsG W W.heap.size W.heap.size W.heap.size W.heap.size none 0 [] :=
  ⟨Nat.le_refl _, ⟨Nat.le_refl _, Nat.le_refl _, Nat.le_refl _⟩, [], fun _ => (0, 0), fun _ => (none, 0), rfl, ⟨Nat.le_refl _, .inl ⟨rfl, rfl, rfl⟩⟩, fun _ _ _ hk => absurd hk (by simp), fun _ hk => absurd hk (by simp)⟩
theorem RowsG.made (W : World) : RowsG (W.alloc (.cells #[] 29)) W.heap.size (W.heap.size + 1) W.heap.size (W.heap.size + 1) (some ⟨W.heap.size, 0, none⟩) 0 [] := by
  have hm := World.ownsRow_made (base := W.heap.size) (e := 29) (size := 1) W #[] 0 (Nat.le_refl _) (by unfold maxLen; omega) (by simp)
  exact ⟨by simp, ⟨Nat.le_refl _, by omega, Nat.le_refl _⟩, [], fun _ => (0, 0), fun _ => (none, 0), rfl, ⟨by simp, .inr ⟨W.heap.size, rfl, Nat.le_refl _, Nat.lt_succ_self _, hm⟩⟩, fun _ _ _ hk => absurd hk (by simp), fun _ hk => absurd hk (by simp)⟩
theorem getD_old {α : Type} {rs : List α} {x z : α} {k : Nat} (h : k < rs.length) : (rs ++ [x]).getD k z = rs.getD k z := by
  simp [List.getD, List.getElem?_append_left h]
theorem getD_new {α : Type} {rs : List α} {x z : α} : (rs ++ [x]).getD rs.length z = x := by
  simp [List.getD]
/-- The values zs are the rows rs, each in a range of its own. -/
def RowsP (W : World) (B T lo hi : Nat) (zs : List Value) (rs : List (List Int)) : Prop :=
  ∃ (r : Nat → Nat × Nat) (S : Nat → Option Addr × Nat), (∀ j k, j < k → k < rs.length → Dis (r j) (r k)) ∧ ∀ k, k < rs.length → zs.getD k (.slice none 0 0) = .slice (S k).1 (rs.getD k []).length (S k).2 ∧ OwnInts W (r k).1 (r k).2 (S k).1 (S k).2 (rs.getD k []) ∧ B ≤ (r k).1 ∧ (r k).2 ≤ T ∧ Dis (lo, hi) (r k)
/-- One row more, whose ints lie from q.1 to q.2. -/
theorem RowsG.push {W W' : World} {B T lo hi lo' hi' : Nat} {A A' : Option Addr} {cap c' : Nat} {rs : List (List Int)} (h : RowsG W B T lo hi A cap rs) {q : Nat × Nat} {Ax : Option Addr} {cx : Nat} {x : List Int} (hx : OwnInts W q.1 q.2 Ax cx x) (hq : T ≤ q.1)
    {zs : List Value} (_hz : zs.length = rs.length) (hzs : RowsP W B T lo hi zs rs)
    (ho : OwnS W' lo' hi' A' c' (zs ++ [.slice Ax x.length cx])) (hd : (lo' = lo ∧ hi' = hi) ∨ (W.heap.size ≤ lo' ∧ lo' ≤ W'.heap.size ∧ hi' ≤ W'.heap.size)) (hw : Within lo hi W W') : RowsG W' B W'.heap.size lo' hi' A' c' (rs ++ [x]) := by
  obtain ⟨r, S, h3, h4⟩ := hzs
  have ht := h.top
  have hoB := h.out
  have hs := hw.size
  have hx1 := hx.1
  refine ⟨Nat.le_refl _, by omega, zs ++ [.slice Ax x.length cx], fun k => if k < rs.length then r k else q, fun k => if k < rs.length then S k else (Ax, cx), by simp [_hz], ho, fun j k hjk hk => ?_, fun k hk => ?_⟩
  · have hk' : k < rs.length + 1 := by simpa using hk
    by_cases e : k < rs.length
    · have e' : j < rs.length := by omega
      simp only [e, e', if_true]
      exact h3 j k hjk e
    · have e' : j < rs.length := by omega
      simp only [e, e', if_true, if_false]
      have := (h4 j e').2.2.2.1
      exact .inl (by omega)
  · have hk' : k < rs.length + 1 := by simpa using hk
    by_cases e : k < rs.length
    · simp only [e, if_true]
      obtain ⟨c1, c2, c3, c4, c5⟩ := h4 k e
      rw [getD_old (by omega), getD_old e]
      refine ⟨c1, c2.within hw ?_, c3, by omega, ?_⟩
      · unfold Dis at c5
        omega
      · unfold Dis at c5 ⊢
        dsimp only at c5 ⊢
        omega
    · obtain rfl : k = rs.length := by omega
      simp only [Nat.lt_irrefl, if_false]
      rw [← _hz, getD_new, _hz, getD_new]
      refine ⟨rfl, hx.within hw (by omega), by omega, by omega, ?_⟩
      unfold Dis
      dsimp only
      omega
theorem RowsG.cells {W : World} {B T lo hi : Nat} {A : Option Addr} {cap : Nat} {rs : List (List Int)} (h : RowsG W B T lo hi A cap rs) : RowsOwn W B T A rs := by
  obtain ⟨ht, hoB, zs, r, S, h1, h2, h3, h4⟩ := h
  refine ⟨ht, fun hl => ?_⟩
  rcases h2.2 with ⟨_, _, e⟩ | ⟨g, rfl, g1, g2, hown⟩
  · rw [e] at h1
    simp at h1
    omega
  · refine ⟨g, r, S, rfl, by omega, by omega, h3, fun k hk => ?_⟩
    obtain ⟨c1, c2, c3, c4, c5⟩ := h4 k hk
    refine ⟨?_, c2, c3, c4, ?_⟩
    · rw [← c1, World.ownsRow.cellAt hown k (by omega)]
      simp [List.getD, List.getElem?_eq_getElem (show k < zs.length by omega)]
    · unfold Dis at c5
      dsimp only at c5
      omega
end Go.Proofs.Ytdkpmaahinbhlaa
/- A row of numbers given by a function, stored in once. No condition. -/
namespace Go.Proofs.Ytdkpmaahinbhlaa
open Go.RowKit

theorem rowF_set {N i : Nat} {f : Nat → Int} (_h : i < N) (x : Int) : (intCells (rowF N f)).set i (.int .i64 x) = intCells (rowF N fun t => if t = i then x else f t) := by
  unfold intCells
  rw [← List.map_set]
  congr 1
  apply List.ext_getElem (by simp [rowF_len])
  intro j h1 h2
  rw [List.getElem_set, rowF_get, rowF_get]
  by_cases e : i = j
  · subst e; simp
  · rw [if_neg e, if_neg (fun h => e h.symm)]
theorem rowF_succ (x : Nat) (f : Nat → Int) : rowF (x + 1) f = rowF x f ++ [f x] := by unfold rowF; rw [List.range_succ, List.map_append]; rfl
end Go.Proofs.Ytdkpmaahinbhlaa
/- Rows of numbers that lie side by side in one block: how they are read, written and marked (laws.markIntS, markIntSS). No condition. -/
namespace Go.Proofs.Ytdkpmaahinbhlaa
open Go.RowKit

/-- The block g holds the N numbers f. -/
def FlatAt (W : World) (g N : Nat) (f : Nat → Int) : Prop := W.ownsRow g 3 1 (.slice (some ⟨g, 0, none⟩) N N) N (intCells (rowF N f))
theorem FlatAt.cell {W : World} {g N : Nat} {f : Nat → Int} (h : FlatAt W g N f) {i : Nat} (hi : i < N) : W.cell? ⟨g, i, none⟩ = some (.int .i64 (f i)) := by
  have := (World.ownsRow.cellAt h i (by omega)).trans (intCells_get _ i (by rw [rowF_len]; exact hi))
  rw [rowF_getD hi] at this
  exact this
theorem FlatAt.lt {W : World} {g N : Nat} {f : Nat → Int} (h : FlatAt W g N f) : g < W.heap.size := (World.ownsRow.lt h g rfl).2
theorem FlatAt.congr {W : World} {g N : Nat} {f f' : Nat → Int} (h : FlatAt W g N f) (e : ∀ i, i < N → f i = f' i) : FlatAt W g N f' := by
  unfold FlatAt at h ⊢
  rw [← rowF_congr e]; exact h
theorem FlatAt.within {W W' : World} {g N a b : Nat} {f : Nat → Int} (h : FlatAt W g N f) (hw : Within a b W W') (hd : g < a ∨ b ≤ g) : FlatAt W' g N f := by
  have hl := h.lt
  have ho : OwnInts W g (g + 1) (some ⟨g, 0, none⟩) N (rowF N f) := ⟨hl, .inr ⟨g, rfl, Nat.le_refl _, Nat.lt_succ_self _, by unfold FlatAt at h; rw [rowF_len]; exact h⟩⟩
  have ho2 := ho.within hw (by omega)
  rcases ho2.2 with h0 | ⟨g', e, h1, h2, h3⟩
  · have hN : N = 0 := by have := congrArg List.length h0; rw [rowF_len] at this; exact this
    subst hN
    unfold FlatAt at h ⊢
    obtain ⟨l1, l2⟩ := h
    refine ⟨l1, ?_⟩
    rcases l2 with l2 | ⟨g2, c2, cur, e1, e2, e3, e4⟩
    · cases l2.1
    · cases e1
      exact .inr ⟨g, 0, cur, rfl, Nat.le_refl _, (hw.block g hl (by omega)).trans e3, e4⟩
  · cases e
    rw [rowF_len] at h3
    exact h3
theorem FlatAt.ints {W : World} {g N off n : Nat} {f : Nat → Int} (h : FlatAt W g N f) (hn : off + n ≤ N) {lo hi : Nat} (h1 : lo ≤ g) (h2 : g < hi) (h3 : hi ≤ W.heap.size) : IntsIn W lo hi (some ⟨g, off, none⟩) (rowF n fun j => f (off + j)) :=
  ⟨h3, fun _ => ⟨g, off, rfl, h1, h2, fun k hk => by
    rw [rowF_len] at hk
    rw [rowF_getD hk]
    exact h.cell (by omega)⟩⟩

set_option maxHeartbeats 1000000 in
set_option maxRecDepth 100000 in
theorem markFlat_c (g N off n cap : Nat) (f : Nat → Int) (k : Int) (w : World) (h : FlatAt w g N f) (hN : off + n ≤ N) (hn : n ≤ 1048576) (hk0 : 0 ≤ k) (hk1 : k ≤ 10000000) :
    Calls Try.prog 181 #[.slice (some ⟨g, off, none⟩) n cap, .int .i64 k] w fun e w' => e = .returned (.int .i64 (k + (n : Int))) ∧ FlatAt w' g N (fun i => if off ≤ i ∧ i < off + n then k + ((i - off : Nat) : Int) else f i) ∧ w.grownBy w' (some g) := by
  have HO := Lib.hid h
  clear h
  go_enter Try.func181, Try.ntmps181
  go_wp2_with fail
  go_loopw [1, 5] (fun m i wr => ∃ j : Nat, j ≤ n ∧ i = .int .i64 j ∧ m = .int .i64 (k + (j : Int)) ∧ FlatAt wr g N (fun i => if off ≤ i ∧ i < off + j then k + ((i - off : Nat) : Int) else f i) ∧ w.grownBy wr (some g)) (fun _ i _ => n - (intOf i).toNat)
  case atStart => exact ⟨0, by omega, rfl, by simp, HO.out.congr fun i _ => (if_neg (by omega)).symm, World.grownBy.refl _ _⟩
  case round =>
    obtain ⟨j, hj, rfl, rfl, hown, hg⟩ := hrel
    have HG := Lib.hid hg
    clear hg
    by_cases hlt : j < n
    · have hi : (j : Int) < (n : Int) := by omega
      have hd1 := hown.cell (i := off + j) (by omega)
      have hf1 := World.ownsRow.frozenAt hown (off + j)
      have hst1 := World.ownsRow.stored hown (off + j) (.int .i64 (k + (j : Int)))
      have HG2 := Lib.hid (HG.out.trans_ hst1.2)
      have hst3 := hst1.1
      rw [rowF_set (by omega)] at hst3
      have HST := Lib.hid (FlatAt.congr (f' := fun i => if off ≤ i ∧ i < off + (j + 1) then k + ((i - off : Nat) : Int) else f i) hst3 fun i _ => by
        by_cases e : i = off + j
        · subst e
          rw [if_pos rfl, if_pos (by omega), Nat.add_sub_cancel_left]
        · rw [if_neg e]
          by_cases e2 : off ≤ i ∧ i < off + j
          · rw [if_pos e2, if_pos (by omega)]
          · rw [if_neg e2, if_neg (by omega)])
      clear hst1 hst3 hown
      go_wp2_with fail
      go_roundw
      case rel => exact ⟨j + 1, by omega, by go_num, by go_num, HST.out, HG2.out⟩
      case measure => simp [intOf]; omega
    · obtain rfl : j = n := by omega
      go_wp2_with fail
      go_ret
      exact ⟨rfl, hown, HG.out⟩

/-- h rows of n numbers each, side by side in the block g in the order p; their row lies in the block gh. -/
structure RowsF (W : World) (lo hi gh g h n : Nat) (p : Nat → Nat) (f : Nat → Int) : Prop where
  top : hi ≤ W.heap.size
  hd : lo ≤ gh ∧ gh < hi
  nm : lo ≤ g ∧ g < hi
  ne : gh ≠ g
  per : ∀ i, i < h → p i < h
  row : W.ownsRow gh 29 1 (.slice (some ⟨gh, 0, none⟩) h h) h ((List.range h).map fun i => .slice (some ⟨g, p i * n, none⟩) n n)
  num : FlatAt W g (h * n) f
theorem at_row {h n i j : Nat} (hi : i < h) (hj : j < n) : i * n + j < h * n := by
  have h1 : i * n + n ≤ h * n := by
    have := Nat.mul_le_mul_right n (show i + 1 ≤ h from hi)
    rw [Nat.add_mul, Nat.one_mul] at this
    exact this
  omega
theorem RowsF.head {W : World} {lo hi gh g h n : Nat} {p : Nat → Nat} {f : Nat → Int} (r : RowsF W lo hi gh g h n p f) {i : Nat} (hi' : i < h) : W.cell? ⟨gh, i, none⟩ = some (.slice (some ⟨g, p i * n, none⟩) n n) := by
  have := World.ownsRow.cellAt r.row i (by omega)
  rw [List.getElem?_map, List.getElem?_range hi'] at this
  exact this
theorem RowsF.within {W W' : World} {lo hi gh g h n a b : Nat} {p : Nat → Nat} {f : Nat → Int} (r : RowsF W lo hi gh g h n p f) (hw : Within a b W W') (hd : hi ≤ a ∨ b ≤ lo) : RowsF W' lo hi gh g h n p f := by
  have h1 := r.hd
  have h2 := r.nm
  have ht := r.top
  refine ⟨Nat.le_trans ht hw.size, h1, h2, r.ne, r.per, ?_, r.num.within hw (by omega)⟩
  have hr := r.row
  obtain ⟨l1, l2⟩ := hr
  refine ⟨l1, ?_⟩
  rcases l2 with l2 | ⟨g2, c2, cur, e1, e2, e3, e4⟩
  · cases l2.1
  · cases e1
    exact .inr ⟨gh, h, cur, rfl, Nat.le_refl _, (hw.block gh (by omega) (by omega)).trans e3, e4⟩
/-- The rows, read. -/
def rowsV (h n : Nat) (p : Nat → Nat) (f : Nat → Int) : List (List Int) := (List.range h).map fun i => rowF n fun j => f (p i * n + j)
theorem rowsV_len (h n : Nat) (p : Nat → Nat) (f : Nat → Int) : (rowsV h n p f).length = h := by simp [rowsV]
theorem rowsV_get {h n i : Nat} {p : Nat → Nat} {f : Nat → Int} (hi : i < h) : (rowsV h n p f).getD i [] = rowF n fun j => f (p i * n + j) := by simp [rowsV, List.getD, hi]
theorem RowsF.reads {W : World} {lo hi gh g h n : Nat} {p : Nat → Nat} {f : Nat → Int} (r : RowsF W lo hi gh g h n p f) : RowsIn W lo hi (some ⟨gh, 0, none⟩) (rowsV h n p f) := by
  refine ⟨r.top, fun _ => ⟨gh, 0, rfl, r.hd.1, r.hd.2, fun k hk => ?_⟩⟩
  rw [rowsV_len] at hk
  refine ⟨some ⟨g, p k * n, none⟩, n, ?_, ?_⟩
  · rw [Nat.zero_add, rowsV_get hk, rowF_len]; exact r.head hk
  · rw [rowsV_get hk]
    have := r.per k hk
    refine r.num.ints ?_ r.nm.1 r.nm.2 r.top
    have := Nat.mul_le_mul_right n (show p k + 1 ≤ h from this)
    rw [Nat.add_mul, Nat.one_mul] at this
    exact this

set_option maxHeartbeats 2000000 in
set_option maxRecDepth 100000 in
theorem markRowsF_c (h n gh g lo hi cap : Nat) (f : Nat → Int) (k0 : Int) (w : World) (r : RowsF w lo hi gh g h n id f) (hh : h ≤ 1000) (hn : n ≤ 1000) (hk0 : 0 ≤ k0) (hk1 : k0 + ((h * n : Nat) : Int) ≤ 10000000) :
    Calls Try.prog 93 #[.slice (some ⟨gh, 0, none⟩) h cap, .int .i64 k0] w fun e w' => e = .returned (.int .i64 (k0 + ((h * n : Nat) : Int))) ∧ Within lo hi w w' ∧ RowsF w' lo hi gh g h n id (fun i => k0 + (i : Int)) := by
  have HM := Lib.hid r
  clear r
  go_enter Try.func93, Try.ntmps93
  go_wp2_with fail
  go_loopw [1, 5] (fun m i wr => ∃ j : Nat, j ≤ h ∧ i = .int .i64 j ∧ m = .int .i64 (k0 + ((j * n : Nat) : Int)) ∧ RowsF wr lo hi gh g h n id (fun i => if i < j * n then k0 + (i : Int) else f i) ∧ Within lo hi w wr) (fun _ i _ => h - (intOf i).toNat)
  case atStart => exact ⟨0, by omega, rfl, by simp, by
    have hM := HM.out
    exact ⟨hM.top, hM.hd, hM.nm, hM.ne, hM.per, hM.row, hM.num.congr fun i _ => (if_neg (by omega)).symm⟩, Within.refl _ _ _⟩
  case round =>
    obtain ⟨j, hj, rfl, rfl, hm, hw⟩ := hrel
    have HW := Lib.hid hw
    have HM := Lib.hid hm
    clear hm hw
    by_cases hlt : j < h
    · have hij : (j : Int) < (h : Int) := by omega
      have c1 : wr.cell? ⟨gh, j, none⟩ = some (.slice (some ⟨g, j * n, none⟩) n n) := HM.out.head hlt
      have hJN := Nat.mul_le_mul_right n (show j + 1 ≤ h from hlt)
      have hS : (j + 1) * n = j * n + n := by rw [Nat.add_mul, Nat.one_mul]
      obtain ⟨J, hJ⟩ : ∃ J, j * n = J := ⟨_, rfl⟩
      rw [hS, hJ] at hJN
      rw [hJ] at c1 hS ⊢
      have HS := Lib.hid hS
      have HJ := Lib.hid hJ
      have hM := HM.out.num
      rw [hJ] at hM
      have HF := Lib.hid hM
      clear hS hJ hM
      go_wp2_with fail
      refine (markFlat_c g (h * n) J n n _ (k0 + (J : Int)) _ HF.out hJN (by omega) (by omega) (by omega)).mono ?_
      rintro e w3 ⟨rfl, hf3, hg3⟩
      have hnm := HM.out.nm
      have hw3 : Within g (g + 1) wr w3 := ⟨hg3.os, hg3.tape, hg3.output, hg3.size, fun i hi' hd' => hg3.block i hi' (by simp; omega)⟩
      have HM3 := Lib.hid (show RowsF w3 lo hi gh g h n id (fun i => if i < (j + 1) * n then k0 + (i : Int) else f i) from by
        have hM := HM.out
        have h1 := hM.hd
        have hne := hM.ne
        have ht := hM.top
        refine ⟨Nat.le_trans ht hw3.size, h1, hM.nm, hne, hM.per, ?_, hf3.congr fun i _ => ?_⟩
        · obtain ⟨l1, l2⟩ := hM.row
          refine ⟨l1, ?_⟩
          rcases l2 with l2 | ⟨g2, c2, cur, e1, e2, e3, e4⟩
          · cases l2.1
          · cases e1
            exact .inr ⟨gh, h, cur, rfl, Nat.le_refl _, (hw3.block gh (by omega) (by omega)).trans e3, e4⟩
        · rw [HS.out]
          by_cases e1 : J ≤ i ∧ i < J + n
          · rw [if_pos e1, if_pos e1.2]
            omega
          · rw [if_neg e1]
            by_cases e2 : i < J
            · rw [if_pos e2, if_pos (by omega)]
            · rw [if_neg e2, if_neg (by omega)])
      have HW3 := Lib.hid (show Within lo hi w w3 from ⟨hw3.os.trans HW.out.os, hw3.tape.trans HW.out.tape, hw3.output.trans HW.out.output, Nat.le_trans HW.out.size hw3.size, fun i hi' hd' => (hw3.block i (Nat.lt_of_lt_of_le hi' HW.out.size) (by omega)).trans (HW.out.block i hi' hd')⟩)
      have hnx : k0 + (J : Int) + (n : Int) = k0 + (((j + 1) * n : Nat) : Int) := by rw [HS.out]; omega
      clear hw3 hf3 hg3
      rw [hnx]
      go_wp2_with fail
      go_roundw
      case rel => exact ⟨j + 1, by omega, by go_num, rfl, HM3.out, HW3.out⟩
      case measure => simp [intOf]; omega
    · obtain rfl : j = h := by omega
      go_wp2_with fail
      go_ret
      refine ⟨rfl, HW.out, ?_⟩
      have hM := HM.out
      exact ⟨hM.top, hM.hd, hM.nm, hM.ne, hM.per, hM.row, hM.num.congr fun i hi => if_pos hi⟩
end Go.Proofs.Ytdkpmaahinbhlaa
/- Rows of rows of ints that a law is handed: opened, measured, copied and compared (laws.szIntS, szIntSS, toIntS, toIntSS, eqIntS, eqIntSS). No condition. -/
namespace Go.Proofs.Ytdkpmaahinbhlaa
open Go.RowKit Go.Joins Go.ChangeShapes Go.WideShapes Go.Deep

/-- The slice at A reads as the ints zs, in a block from lo to hi. -/
def IntsD (W : World) (lo hi : Nat) (A : Option Addr) (zs : List Int) : Prop :=
  hi ≤ W.heap.size ∧ (0 < zs.length → ∃ b off, A = some ⟨b, off, none⟩ ∧ lo ≤ b ∧ b < hi ∧ ∀ k, k < zs.length → W.cell? ⟨b, off + k, none⟩ = some (.int .i64 (zs.getD k 0)))
theorem IntsD.kept {W W' : World} {lo hi : Nat} {A : Option Addr} {zs : List Int} (h : IntsD W lo hi A zs) (hs : W.heap.size ≤ W'.heap.size) (hk : ∀ b, lo ≤ b → b < hi → W'.heap[b]? = W.heap[b]?) : IntsD W' lo hi A zs :=
  ⟨Nat.le_trans h.1 hs, fun hl => by
    obtain ⟨b, off, e, h1, h2, hc⟩ := h.2 hl
    exact ⟨b, off, e, h1, h2, fun k hk' => (World.cell?_of_block (a := ⟨b, off + k, none⟩) (hk b h1 h2)).trans (hc k hk')⟩⟩
theorem IntsD.below {W W' : World} {lo hi : Nat} {A : Option Addr} {zs : List Int} (h : IntsD W lo hi A zs) (hb : Below W.heap.size W W') : IntsD W' lo hi A zs :=
  h.kept hb.size fun b _ h2 => hb.block b (Nat.lt_of_lt_of_le h2 h.1)
theorem IntsD.widen {W : World} {lo hi lo' hi' : Nat} {A : Option Addr} {zs : List Int} (h : IntsD W lo hi A zs) (h1 : lo' ≤ lo) (h2 : hi ≤ hi') (h3 : hi' ≤ W.heap.size) : IntsD W lo' hi' A zs :=
  ⟨h3, fun hl => by
    obtain ⟨b, off, e, q1, q2, hc⟩ := h.2 hl
    exact ⟨b, off, e, by omega, by omega, hc⟩⟩
def intCellsD (zs : List Int) : List Value := zs.map (Value.int .i64)
theorem intCellsD_get (zs : List Int) (k : Nat) (h : k < zs.length) : (intCellsD zs)[k]? = some (.int .i64 (zs.getD k 0)) := by
  simp [intCellsD, List.getD, List.getElem?_eq_getElem h]
theorem infoIntD : (Try.prog.info? 3).map (fun i => (i.zero, i.size, i.bytes)) = some (some (.int .i64 0), 1, 8) := by kernel_rfl
theorem own_intsD {w' : World} {base g cap : Nat} {zs : List Int} (h : w'.ownsRow base 3 1 (.slice (some ⟨g, 0, none⟩) zs.length cap) zs.length (intCellsD zs)) : IntsD w' base w'.heap.size (some ⟨g, 0, none⟩) zs :=
  ⟨Nat.le_refl _, fun _ => ⟨g, 0, rfl, (h.lt g rfl).1, (h.lt g rfl).2, fun k hk => by
    rw [Nat.zero_add]
    exact (h.cellAt k (by omega)).trans (intCellsD_get zs k hk)⟩⟩

theorem intsOfD_zero (n : Nat) : List.replicate n (Value.int .i64 0) = intCellsD (List.replicate n 0) := by simp [intCellsD]
theorem intsD_step (zs : List Int) (k : Nat) (h : k < zs.length) : (intCellsD (zs.take k ++ List.replicate (zs.length - k) 0)).set k (.int .i64 (zs.getD k 0)) = intCellsD (zs.take (k + 1) ++ List.replicate (zs.length - (k + 1)) 0) := by
  unfold intCellsD
  rw [← List.map_set]
  congr 1
  have hl0 : (zs.take k).length = k := by simp; omega
  obtain ⟨r, hr⟩ : ∃ r, zs.length - k = r + 1 := ⟨zs.length - k - 1, by omega⟩
  rw [List.set_append_right _ _ (by omega), hl0, Nat.sub_self, hr, List.replicate_succ, List.set_cons_zero, List.take_succ_eq_append_getElem h, show zs.length - (k + 1) = r by omega, List.append_assoc]
  simp [List.getD, List.getElem?_eq_getElem h]

set_option maxHeartbeats 1000000 in
set_option maxRecDepth 100000 in
theorem eqIntsD_c (zs : List Int) (A A' : Option Addr) (cap cap' : Nat) (lo hi lo' hi' : Nat) (w : World) (hl : IntsD w lo hi A zs) (hl' : IntsD w lo' hi' A' zs) (hn : zs.length ≤ 1048576) :
    Calls Try.prog 178 #[.slice A zs.length cap, .slice A' zs.length cap'] w fun e w' => e = .returned (.bool true) ∧ Below w.heap.size w w' := by
  have HL := Lib.hid hl
  have HL' := Lib.hid hl'
  clear hl hl'
  go_enter Try.func178, Try.ntmps178
  go_wp2_with fail
  go_loopw [5] (fun i wr => ∃ k : Nat, k ≤ zs.length ∧ i = .int .i64 k ∧ ∃ m, wr = w.drewN m) (fun i _ => zs.length - (intOf i).toNat)
  case atStart => exact ⟨0, by omega, rfl, 0, rfl⟩
  case round =>
    obtain ⟨k, hk, rfl, m, rfl⟩ := hrel
    by_cases hlt : k < zs.length
    · have hi : (k : Int) < (zs.length : Int) := by omega
      obtain ⟨b, off, rfl, _, _, hcell⟩ := HL.out.2 (by omega)
      obtain ⟨b', off', rfl, _, _, hcell'⟩ := HL'.out.2 (by omega)
      have hc1 := hcell k hlt
      have hc2 := hcell' k hlt
      clear hcell hcell'
      obtain ⟨x, hx⟩ : ∃ x, zs.getD k 0 = x := ⟨_, rfl⟩
      rw [hx] at hc1 hc2
      clear hx
      go_wp2_with fail
      go_quiet (fail)
      go_wp2_with fail
      go_roundw
      case rel => exact ⟨k + 1, by omega, by go_num, m + nq, rfl⟩
      case measure => simp [intOf]; omega
    · go_wp2_with fail
      go_ret
      exact ⟨rfl, below_drewN _ _ _⟩

/-- The numbers of the row are numbers of the machine. -/
def WfZ (zs : List Int) : Prop := ∀ n ∈ zs, (Lit.int .i64 n).wf = true
/-- The slice at A reads as the rows rs, in blocks from lo to hi. -/
def RowsD (W : World) (lo hi : Nat) (A : Option Addr) (rs : List (List Int)) : Prop :=
  hi ≤ W.heap.size ∧ (0 < rs.length → ∃ b off, A = some ⟨b, off, none⟩ ∧ lo ≤ b ∧ b < hi ∧ ∀ k, k < rs.length → ∃ A' c', W.cell? ⟨b, off + k, none⟩ = some (.slice A' (rs.getD k []).length c') ∧ IntsD W lo hi A' (rs.getD k []))
theorem RowsD.below {W W' : World} {lo hi : Nat} {A : Option Addr} {rs : List (List Int)} (h : RowsD W lo hi A rs) (hb : Below W.heap.size W W') : RowsD W' lo hi A rs :=
  ⟨Nat.le_trans h.1 hb.size, fun hl => by
    obtain ⟨b, off, e, h1, h2, hc⟩ := h.2 hl
    refine ⟨b, off, e, h1, h2, fun k hk => ?_⟩
    obtain ⟨A', c', h3, h4⟩ := hc k hk
    exact ⟨A', c', (hb.cell (p := ⟨b, off + k, none⟩) (Nat.lt_of_lt_of_le h2 h.1)).trans h3, h4.below hb⟩⟩

section
variable {H : Type} {enc : TypeId × Value → H} {w : World}
set_option maxRecDepth 100000 in
set_option maxHeartbeats 1000000 in
theorem open_rows {n : Nat} {v : Value} {y : DataW H × List MemPlace} (h : DataW.trod enc Try.prog w 0 (fun _ => true) true n 63 [v] = some y) :
    ∃ (A : Option Addr) (cap : Nat) (rs : List (List Int)), v = .slice A rs.length cap ∧ rs.length ≤ maxLen ∧ RowsD w 0 w.heap.size A rs ∧ ∀ k, k < rs.length → (rs.getD k []).length ≤ maxLen ∧ WfZ (rs.getD k []) := by
  rcases open_slice1 Try.underlying63 (by kernel_rfl) h with ⟨hv, _⟩ | ⟨a, len, cap, m, n, V, D, Pl, hv, _, hlc, hcm, hm, _, hi⟩
  · refine ⟨none, 0, [], ?_, by simp, ⟨Nat.le_refl _, fun h => absurd h (by simp)⟩, fun k hk => absurd hk (by simp)⟩
    simpa using hv
  · have hm' : m = cap := by simpa using hm
    have each : ∀ i, i < m → ∃ q : (Option Addr × Nat) × List Int, w.cell? (a.add i) = some (.slice q.1.1 q.2.length q.1.2) ∧ IntsD w 0 w.heap.size q.1.1 q.2 ∧ q.2.length ≤ maxLen ∧ WfZ q.2 := by
      intro i hi0
      obtain ⟨h1, h2⟩ := hi i hi0
      rcases open_ints Try.underlying29 Try.underlying3 (by kernel_rfl) h2 with ⟨hc, _⟩ | ⟨x, l, c, zs, hc, _, hl, hm, hz, _, hcell, hwz⟩
      · simp only [List.cons.injEq, and_true] at hc
        exact ⟨((none, 0), []), by rw [h1, hc]; rfl, ⟨Nat.le_refl _, fun h => absurd h (by simp)⟩, by simp, fun n hn => by simp at hn⟩
      · simp only [List.cons.injEq, and_true] at hc
        have hz' : zs.length = c := by simpa using hz
        have hlen : (zs.take l).length = l := by simp; omega
        refine ⟨((some x, c), zs.take l), by rw [h1, hc, hlen], ⟨Nat.le_refl _, fun hlt => ?_⟩, by rw [hlen]; omega, fun n hn => hwz n (List.mem_of_mem_take hn)⟩
        have hl' : 0 < zs.length := by rw [hlen] at hlt; omega
        obtain ⟨b, off, spot⟩ := x
        have hs : spot = none := by simpa [Addr.add] using World.cell?_spot (hcell 0 hl')
        subst hs
        have hadd : ∀ k, (⟨b, off, none⟩ : Addr).add k = ⟨b, off + k, none⟩ := fun k => by unfold Addr.add; split <;> simp_all
        have h0 := hcell 0 hl'
        rw [hadd] at h0
        refine ⟨b, off, rfl, Nat.zero_le _, World.block_lt_of_cell? w _ h0, fun k hk => ?_⟩
        have hk' : k < l ∧ k < zs.length := by rw [hlen] at hk; omega
        have := hcell k hk'.2
        rw [hadd] at this
        rw [this]
        simp [List.getD, hk'.1]
    obtain ⟨q, hq⟩ := choose_lt each
    refine ⟨some a, cap, (List.range len).map fun i => (q i).2, by simpa using hv, by simp; omega, ⟨Nat.le_refl _, fun hl => ?_⟩, fun k hk => ?_⟩
    · have hl' : 0 < len := by simpa using hl
      obtain ⟨b, off, spot⟩ := a
      have hs : spot = none := by simpa [Addr.add] using World.cell?_spot (hq 0 (by omega)).1
      subst hs
      have hadd : ∀ k, (⟨b, off, none⟩ : Addr).add k = ⟨b, off + k, none⟩ := fun k => by unfold Addr.add; split <;> simp_all
      have h0 := (hq 0 (by omega)).1
      rw [hadd] at h0
      refine ⟨b, off, rfl, Nat.zero_le _, World.block_lt_of_cell? w _ h0, fun k hk => ?_⟩
      have hk' : k < len := by simpa using hk
      have hg : ((List.range len).map fun i => (q i).2).getD k [] = (q k).2 := by simp [List.getD, hk']
      obtain ⟨c0, c1, _⟩ := hq k (by omega)
      rw [hadd] at c0
      rw [hg]
      exact ⟨(q k).1.1, (q k).1.2, c0, c1⟩
    · have hk' : k < len := by simpa using hk
      have hg : ((List.range len).map fun i => (q i).2).getD k [] = (q k).2 := by simp [List.getD, hk']
      rw [hg]
      exact (hq k (by omega)).2.2
end

/-- The number of ints in the first n rows. -/
def totD (rs : List (List Int)) : Nat → Nat
  | 0 => 0
  | n + 1 => totD rs n + (rs.getD n []).length
theorem totD_le (rs : List (List Int)) {j n : Nat} (h : j ≤ n) : totD rs j ≤ totD rs n := by
  induction n with
  | zero =>
    obtain rfl : j = 0 := by omega
    exact Nat.le_refl _
  | succ n ih =>
    by_cases e : j = n + 1
    · subst e; exact Nat.le_refl _
    · have := ih (by omega)
      rw [totD]; omega

end Go.Proofs.Ytdkpmaahinbhlaa
/- The laws' copy of a row of rows, and their comparison of two (laws.toIntSS, eqIntSS). No condition. -/
namespace Go.Proofs.Ytdkpmaahinbhlaa
open Go.RowKit

theorem infoIntsD : (Try.prog.info? 29).map (fun i => (i.zero, i.size, i.bytes)) = some (some (.slice none 0 0), 1, 24) := by kernel_rfl
/-- The values zs are the rows rs, each in a block from lo to hi. -/
def RowsV (W : World) (lo hi : Nat) (zs : List Value) (rs : List (List Int)) : Prop :=
  ∀ k, k < rs.length → k < zs.length → ∃ A' c', zs.getD k (.slice none 0 0) = .slice A' (rs.getD k []).length c' ∧ IntsD W lo hi A' (rs.getD k [])

end Go.Proofs.Ytdkpmaahinbhlaa
/- What impl.newRows answers: rows of zeros side by side in one block. No condition. -/
namespace Go.Proofs.Ytdkpmaahinbhlaa
open Go.RowKit

theorem rowF_zero (N : Nat) : List.replicate N (Value.int .i64 0) = intCells (rowF N fun _ => 0) := by
  rw [intsOf_zero]
  congr 1
  apply List.ext_getElem (by rw [rowF_len, List.length_replicate])
  intro i h1 h2
  rw [rowF_get h2, List.getElem_replicate]
def headV (g n : Nat) (i : Nat) : Value := .slice (some ⟨g, i * n, none⟩) n n

set_option maxHeartbeats 2000000 in
set_option maxRecDepth 100000 in
theorem newRows_c (h n : Nat) (w : World) (hh : h ≤ 1000) (hn : n ≤ 1000) (hn0 : 0 < n) :
    Calls Try.prog 156 #[.int .i64 h, .int .i64 n] w fun e w' => ∃ gh g, e = .returned (.slice (some ⟨gh, 0, none⟩) h h) ∧ RowsF w' w.heap.size w'.heap.size gh g h n id (fun _ => 0) ∧ Below w.heap.size w w' := by
  obtain ⟨N, hN⟩ : ∃ N, h * n = N := ⟨_, rfl⟩
  have hNb : N ≤ 1000000 := by rw [← hN]; exact Nat.mul_le_mul hh hn
  have hNc : ((h : Int) * (n : Int)) = (N : Int) := by rw [← hN]; exact (Int.natCast_mul ..).symm
  have hNw : IntKind.i64.wrap ((h : Int) * (n : Int)) = (N : Int) := by rw [hNc]; exact IntWalk.i64_in _ (by omega)
  have HN := Lib.hid hN
  clear hN hNc
  go_enter Try.func156, Try.ntmps156
  go_wp2_with (first
    | (at_make; refine wpList_mkn _ rfl _ _ 63 rfl w0.heap.size 29 (.slice none 0 0) 24 Try.underlying63 infoIntsD rfl _ _ _ _ h rfl rfl rfl rfl (by omega) (by unfold maxLen; omega) (Nat.le_refl _) ?_; intro w1 hown1 hb1)
    | (at_make; refine wpList_mkn _ rfl _ _ 29 rfl w.heap.size 3 (.int .i64 0) 8 Try.underlying29 infoInt rfl _ _ _ _ N rfl rfl rfl rfl (by omega) (by unfold maxLen; omega) (Nat.le_refl _) ?_; intro w0 hown0 hb0))
  obtain ⟨g, hg⟩ : ∃ g, w.heap.size = g := ⟨_, rfl⟩
  rw [hg] at hown0 hb0 ⊢
  rw [rowF_zero] at hown0
  have HF := Lib.hid (show FlatAt w0 g N (fun _ => 0) from hown0)
  have HB0 := Lib.hid hb0
  have HG := Lib.hid hg
  have hgs := HF.out.lt
  clear hown0 hb0 hg
  obtain ⟨gh, hgh⟩ : ∃ gh, w0.heap.size = gh := ⟨_, rfl⟩
  have HF1 := Lib.hid (HF.out.within (within_of hb1) (.inr (Nat.zero_le _)))
  have HB1 := Lib.hid (HB0.out.trans (hb1.mono (Nat.le_of_lt hgs)))
  rw [hgh] at hown1 hgs hb1 ⊢
  have HO1 := Lib.hid hown1
  clear hown1 hb1 hgh
  go_loopw [7, 16] (fun _ i wr => ∃ j : Nat, j ≤ h ∧ i = .int .i64 j ∧ wr.ownsRow gh 29 1 (.slice (some ⟨gh, 0, none⟩) h h) h ((List.range j).map (headV g n) ++ List.replicate (h - j) (.slice none 0 0)) ∧ FlatAt wr g N (fun _ => 0) ∧ Below g w wr) (fun _ i _ => h - (intOf i).toNat)
  case atStart => exact ⟨0, by omega, rfl, HO1.out, HF1.out, HB1.out⟩
  case round =>
    obtain ⟨j, hj, rfl, hown, hf, hb⟩ := hrel
    have HO := Lib.hid hown
    have HFJ := Lib.hid hf
    have HB := Lib.hid hb
    clear hown hf hb
    have hlen : ((List.range j).map (headV g n) ++ List.replicate (h - j) (Value.slice none 0 0)).length = h := by simp; omega
    by_cases hlt : j < h
    · have hji : (j : Int) < (h : Int) := by omega
      have hKN := Nat.mul_le_mul_right n (show j + 1 ≤ h from hlt)
      have hS : (j + 1) * n = j * n + n := by rw [Nat.add_mul, Nat.one_mul]
      rw [hS, HN.out] at hKN
      obtain ⟨K, hK⟩ : ∃ K, j * n = K := ⟨_, rfl⟩
      obtain ⟨K1, hK1⟩ : ∃ K1, K + n = K1 := ⟨_, rfl⟩
      rw [hK, hK1] at hKN
      have hw1 : IntKind.i64.wrap ((j : Int) * (n : Int)) = (K : Int) := by rw [← Int.natCast_mul, hK]; exact IntWalk.i64_in _ (by omega)
      have hw2 : IntKind.i64.wrap (((j : Int) + 1) * (n : Int)) = (K1 : Int) := by
        have : ((j : Int) + 1) * (n : Int) = (((j + 1) * n : Nat) : Int) := by rw [Int.natCast_mul]; rfl
        rw [this, hS, hK, hK1]; exact IntWalk.i64_in _ (by omega)
      have hkk : (K : Int) ≤ (K1 : Int) := by omega
      have hkn : (K1 : Int) ≤ (N : Int) := by omega
      have hk0 : (0 : Int) ≤ (K : Int) := by omega
      have hd := (HO.out.cellAt j (by omega)).trans (show ((List.range j).map (headV g n) ++ List.replicate (h - j) (Value.slice none 0 0))[j]? = some (Value.slice none 0 0) by
        rw [List.getElem?_append_right (by simp), List.length_map, List.length_range, Nat.sub_self, List.getElem?_replicate, if_pos (by omega)])
      have hfz := HO.out.frozenAt j
      have hv : Value.slice (if K1 = K then some ⟨g, 0, none⟩ else some ⟨g, K, none⟩) (K1 - K) (K1 - K) = headV g n j := by
        unfold headV
        rw [if_neg (by omega), hK, show K1 - K = n by omega]
      have hst := HO.out.stored j (headV g n j)
      have hstep : ((List.range j).map (headV g n) ++ List.replicate (h - j) (Value.slice none 0 0)).set j (headV g n j) = (List.range (j + 1)).map (headV g n) ++ List.replicate (h - (j + 1)) (.slice none 0 0) := by
        obtain ⟨r, hr⟩ : ∃ r, h - j = r + 1 := ⟨h - j - 1, by omega⟩
        rw [List.set_append_right _ _ (by simp), List.length_map, List.length_range, Nat.sub_self, hr, List.replicate_succ, List.set_cons_zero, show h - (j + 1) = r by omega, List.range_succ, List.map_append, List.append_assoc]
        rfl
      rw [hstep] at hst
      have hw3 : Within gh (gh + 1) wr (wr.setCell ⟨gh, j, none⟩ (headV g n j)) := ⟨hst.2.os, hst.2.tape, hst.2.output, hst.2.size, fun i hi' hd' => hst.2.block i hi' (by simp; omega)⟩
      have HST := Lib.hid hst.1
      have HF3 := Lib.hid (HFJ.out.within hw3 (.inl hgs))
      have HB3 := Lib.hid (within_on HB.out hw3 (by have := HFJ.out.lt; omega) (.inl (Nat.le_of_lt hgs)))
      have HV := Lib.hid hv
      clear hK hK1 hS hlen hv hst hstep hw3
      go_wp2_with fail
      rw [HV.out]
      go_roundw
      case rel => exact ⟨j + 1, by omega, by go_num, HST.out, HF3.out, HB3.out⟩
      case measure => simp [intOf]; omega
    · obtain rfl : j = h := by omega
      go_wp2_with fail
      go_ret
      rw [HG.out]
      have hrow := HO.out
      rw [Nat.sub_self, List.replicate_zero, List.append_nil] at hrow
      have hgl := (World.ownsRow.lt hrow gh rfl).2
      exact ⟨gh, g, rfl, ⟨Nat.le_refl _, ⟨by omega, hgl⟩, ⟨Nat.le_refl _, by omega⟩, by omega, fun i hi => hi, hrow, by rw [HN.out]; exact HFJ.out⟩, HB.out⟩
/-- A number stored. -/
theorem RowsF.store {W : World} {lo hi gh g h n : Nat} {p : Nat → Nat} {f : Nat → Int} (r : RowsF W lo hi gh g h n p f) {t : Nat} (ht : t < h * n) (x : Int) :
    RowsF (W.setCell ⟨g, t, none⟩ (.int .i64 x)) lo hi gh g h n p (fun s => if s = t then x else f s) ∧ Within g (g + 1) W (W.setCell ⟨g, t, none⟩ (.int .i64 x)) := by
  have hst := World.ownsRow.stored r.num t (.int .i64 x)
  have hw : Within g (g + 1) W (W.setCell ⟨g, t, none⟩ (.int .i64 x)) := ⟨hst.2.os, hst.2.tape, hst.2.output, hst.2.size, fun i hi' hd' => hst.2.block i hi' (by simp; omega)⟩
  refine ⟨⟨Nat.le_trans r.top hw.size, r.hd, r.nm, r.ne, r.per, ?_, ?_⟩, hw⟩
  · obtain ⟨l1, l2⟩ := r.row
    refine ⟨l1, ?_⟩
    have h1 := r.hd
    have ht := r.top
    have hne := r.ne
    rcases l2 with l2 | ⟨g2, c2, cur, e1, e2, e3, e4⟩
    · cases l2.1
    · cases e1
      exact .inr ⟨gh, h, cur, rfl, Nat.le_refl _, (hw.block gh (by omega) (by omega)).trans e3, e4⟩
  · have := hst.1
    rw [rowF_set ht] at this
    exact this
theorem RowsF.widen {W : World} {lo hi lo' hi' gh g h n : Nat} {p : Nat → Nat} {f : Nat → Int} (r : RowsF W lo hi gh g h n p f) (h1 : lo' ≤ lo) (h2 : hi ≤ hi') (h3 : hi' ≤ W.heap.size) : RowsF W lo' hi' gh g h n p f :=
  ⟨h3, by have := r.hd; omega, by have := r.nm; omega, r.ne, r.per, r.row, r.num⟩
theorem at_inj {n c r j i : Nat} (hr : r < n) (hi : i < n) (e : c * n + r = j * n + i) : c = j ∧ r = i := by
  rcases Nat.lt_trichotomy c j with h | h | h
  · have := Nat.mul_le_mul_right n (show c + 1 ≤ j from h)
    rw [Nat.add_mul, Nat.one_mul] at this
    omega
  · subst h; omega
  · have := Nat.mul_le_mul_right n (show j + 1 ≤ c from h)
    rw [Nat.add_mul, Nat.one_mul] at this
    omega
end Go.Proofs.Ytdkpmaahinbhlaa
/- One number appended onto a row of ints of the call's own; what stands beside it in a walk over a framework. No condition. -/
namespace Go.Proofs.Ytdkpmaahinbhlaa
open Go.RowKit

theorem within_grown {w w' : World} {A : Option Addr} {n cap base size : Nat} {e : TypeId} {m : Nat} {xs : List Value} (hown : w.ownsRow base e size (.slice A n cap) m xs) (hg : w.grownBy w' (Value.slice A n cap).ownBlock) : Within base w.heap.size w w' :=
  ⟨hg.os, hg.tape, hg.output, hg.size, fun k hk hd => hg.block k hk fun e => by
    rcases hown.2 with ⟨h1, _⟩ | ⟨g, c, cur, h1, _⟩
    · rw [h1] at e; cases e
    · rw [h1] at e
      have hlt := hown.lt g (by rw [h1]; rfl)
      have : k = g := by simpa [Value.ownBlock] using e
      omega⟩

/-- One number behind a row of the call's own. -/
theorem wpList_int (w : World) {ops : Array Oper} {rest : List Oper} {o : Oper} {a : Act} {Q : Exit → Act → World → Prop} (hgd : o.guard = none) (s x : Operand)
    (ho : o.op = .call { callee := .builtin .append, args := #[s, x], argTypes := #[29, 29] }) (base : Nat) (A : Option Addr) (cap : Nat) (zs : List Int) (y : Int) (hs : a.eval s = .slice A zs.length cap) (hown : w.ownsRow base 3 1 (.slice A zs.length cap) zs.length (intCells zs))
    (tb : TypeId) (hx : a.eval x = .slice (some ⟨w.heap.size, 0, none⟩) 1 1) (hn : zs.length ≤ 1048576) (hb : base ≤ w.heap.size)
    (h : ∀ A' c' w', w'.ownsRow base 3 1 (.slice A' (zs ++ [y]).length c') (zs ++ [y]).length (intCells (zs ++ [y])) → Within base w.heap.size w w' → wpList Try.prog ops Q rest (a.put o.dst (.slice A' (zs ++ [y]).length c')) w') : wpList Try.prog ops Q (o :: rest) a (w.alloc (.cells #[.int .i64 y] tb)) := by
  have hlen : (zs ++ [y]).length = zs.length + 1 := by simp
  have hcells : intCells (zs ++ [y]) = intCells zs ++ [.int .i64 y] := by simp [intCells]
  refine wpList_at w hgd s x 29 ho base 3 (.int .i64 0) 1 8 Try.underlying29 infoInt rfl (by decide) _ zs.length (intCells zs) hs hown #[.int .i64 y] 1 rfl (by simp [Value.oneCell']) tb 1 hx (by omega) (by unfold maxLen; omega) hb ?_
  intro v' w' ho' hg _ _
  obtain ⟨A', c', rfl⟩ := own_shape ho'
  rw [← hcells, ← hlen] at ho'
  have := h A' c' w' ho' (within_grown hown hg)
  rwa [hlen] at this

section
variable {w a b : World} {lo hi : Nat} {p : Int} {A B : Option Addr} {ca cb : Nat} {l m : List (Int × Int)}
/-- A write beyond the framework's box and rows leaves both. -/
theorem FbI.on (h : FbI w a lo hi p A ca l B cb m) {lo' hi' : Nat} (hw : Within lo' hi' a b) (h1 : w.heap.size + 1 ≤ lo') (h2 : hi ≤ w.heap.size) : FbI w b lo hi p A ca l B cb m :=
  ⟨within_on h.b hw h.b.size (.inl (by omega)), h.x.within hw (.inl (by omega)), h.f.within hw (.inl (by omega))⟩
end
theorem sq_succ (m : List (Int × Int)) (l : List (Int × Int)) (k : Nat) (h : k < l.length) : (l.take (k + 1)).map (sqB m) = (l.take k).map (sqB m) ++ [sqB m (l.getD k (0, 0))] := by
  rw [List.take_succ_eq_append_getElem h, List.map_append]
  simp [List.getD, List.getElem?_eq_getElem h]
end Go.Proofs.Ytdkpmaahinbhlaa
/- The specification's test of a matrix (spec.IsMatrix, l9Small). No condition. -/
namespace Go.Proofs.Ytdkpmaahinbhlaa
open Go.RowKit

theorem rows_fn {W : World} {lo hi : Nat} {A : Option Addr} {rs : List (List Int)} (h : RowsIn W lo hi A rs) (h0 : 0 < rs.length) : ∃ (b off : Nat) (S : Nat → Option Addr × Nat), A = some ⟨b, off, none⟩ ∧ b < W.heap.size ∧
    ∀ i, i < rs.length → W.cell? ⟨b, off + i, none⟩ = some (.slice (S i).1 (rs.getD i []).length (S i).2) ∧ IntsIn W lo hi (S i).1 (rs.getD i []) := by
  obtain ⟨b, off, e, h1, h2, hc⟩ := h.2 h0
  have key : ∀ i, ∃ s : Option Addr × Nat, i < rs.length → W.cell? ⟨b, off + i, none⟩ = some (.slice s.1 (rs.getD i []).length s.2) ∧ IntsIn W lo hi s.1 (rs.getD i []) := fun i => by
    by_cases hi : i < rs.length
    · obtain ⟨A', c', q⟩ := hc i hi
      exact ⟨(A', c'), fun _ => q⟩
    · exact ⟨(none, 0), fun hh => absurd hh hi⟩
  obtain ⟨S, hS⟩ := Classical.axiomOfChoice key
  exact ⟨b, off, S, e, Nat.lt_of_lt_of_le h2 h.1, hS⟩
/-- A row's cell, and one of its numbers, behind a call. -/
theorem rows_cell {W W' : World} {lo hi b off : Nat} {S : Nat → Option Addr × Nat} {rs : List (List Int)} (hb : b < W.heap.size)
    (hc : ∀ i, i < rs.length → W.cell? ⟨b, off + i, none⟩ = some (.slice (S i).1 (rs.getD i []).length (S i).2) ∧ IntsIn W lo hi (S i).1 (rs.getD i [])) (hB : Below W.heap.size W W') {i : Nat} (hi : i < rs.length) :
    W'.cell? ⟨b, off + i, none⟩ = some (.slice (S i).1 (rs.getD i []).length (S i).2) := (hB.cell (p := ⟨b, off + i, none⟩) hb).trans (hc i hi).1
theorem rows_num {W W' : World} {lo hi b off : Nat} {S : Nat → Option Addr × Nat} {rs : List (List Int)}
    (hc : ∀ i, i < rs.length → W.cell? ⟨b, off + i, none⟩ = some (.slice (S i).1 (rs.getD i []).length (S i).2) ∧ IntsIn W lo hi (S i).1 (rs.getD i [])) (hB : Below W.heap.size W W') {i j : Nat} (hi : i < rs.length) (hj : j < (rs.getD i []).length) :
    ∃ bi oi, (S i).1 = some ⟨bi, oi, none⟩ ∧ W'.cell? ⟨bi, oi + j, none⟩ = some (.int .i64 (atM rs i j)) := by
  have hI := (hc i hi).2
  obtain ⟨bi, oi, e, h1, h2, hq⟩ := hI.2 (by omega)
  exact ⟨bi, oi, e, (hB.cell (p := ⟨bi, oi + j, none⟩) (Nat.lt_of_lt_of_le h2 hI.1)).trans (hq j hj)⟩

noncomputable def sqOkB (m : List (List Int)) : Bool := decide (∀ i, i < m.length → sqsP (m.getD i []) (widM m) ≤ 64)
set_option maxHeartbeats 2000000 in
set_option maxRecDepth 100000 in
theorem specSmall (m : List (List Int)) (A : Option Addr) (cap lo hi : Nat) (w : World) (hl : RowsIn w lo hi A m) (h0 : 0 < m.length) (h9 : m.length ≤ 9) (h12 : widM m ≤ 12) (hr : RowsP1 m m.length) :
    Calls Try.prog 155 #[.slice A m.length cap] w fun e w' => e = .returned (.bool (sqOkB m)) ∧ Below w.heap.size w w' := by
  obtain ⟨b, off, S, rfl, hbw, hc⟩ := rows_fn hl h0
  have HC := Lib.hid hc
  have HR := Lib.hid hr
  clear hc hl hr
  go_enter Try.func155, Try.ntmps155
  go_wp2_with fail
  go_loopw [3, 4, 5] (fun i _ _ wr => ∃ k : Nat, k ≤ m.length ∧ i = .int .i64 k ∧ (∀ t, t < k → sqsP (m.getD t []) (widM m) ≤ 64) ∧ Below w.heap.size w wr) (fun i _ _ _ => m.length - (intOf i).toNat)
  case atStart => exact ⟨0, by omega, rfl, fun t ht => absurd ht (Nat.not_lt_zero t), Below.refl _ _⟩
  case round =>
    obtain ⟨k, hk, rfl, hs, hb⟩ := hrel
    have HS := Lib.hid hs
    have HB := Lib.hid hb
    clear hs hb
    by_cases hlt : k < m.length
    · have hki : (k : Int) < (m.length : Int) := by omega
      have hw := (HR.out k hlt).1
      have HRG := Lib.hid (HR.out k hlt).2
      obtain ⟨row, hrow⟩ : ∃ row, m.getD k [] = row := ⟨_, rfl⟩
      obtain ⟨⟨A', c'⟩, hSk⟩ : ∃ s, S k = s := ⟨_, rfl⟩
      rw [hrow] at hw HRG
      have hlen12 : row.length ≤ 12 := by omega
      have HW := Lib.hid hw
      have HROW := Lib.hid hrow
      have HSK := Lib.hid hSk
      clear hw hrow hSk
      obtain ⟨wq, hwq⟩ : ∃ x, x = wr := ⟨_, rfl⟩
      rw [← hwq] at HB ⊢
      clear hwq
      go_wp2_with fail
      go_loopw [4, 5] (fun n j wr2 => ∃ t : Nat, t ≤ row.length ∧ j = .int .i64 t ∧ n = .int .i64 (sqsP row t) ∧ Below w.heap.size w wr2) (fun _ j _ => row.length - (intOf j).toNat)
      case atStart => exact ⟨0, by omega, rfl, rfl, HB.out⟩
      case round =>
        obtain ⟨t, ht, rfl, rfl, hb2⟩ := hrel
        have HB2 := Lib.hid hb2
        clear hb2
        have c1 := rows_cell hbw HC.out HB2.out hlt
        rw [HROW.out, HSK.out] at c1
        dsimp only at c1
        by_cases htl : t < row.length
        · have hti : (t : Int) < (row.length : Int) := by omega
          obtain ⟨bi, oi, e1, c2⟩ := rows_num HC.out HB2.out hlt (show t < (m.getD k []).length by rw [HROW.out]; exact htl)
          rw [HSK.out] at e1
          dsimp only at e1
          subst e1
          have hrg := HRG.out t (by rw [← HW.out]; exact htl)
          have hv : atM m k t = row.getD t 0 := by unfold atM; rw [HROW.out]
          rw [hv] at c2
          have hsq := sq_bd hrg
          have hp := sqsP_pos row t
          have hq := sqsP_bd HRG.out t (by rw [← HW.out]; exact ht)
          have hsq0 := sq_pos (row.getD t 0)
          have hnx : sqsP row (t + 1) = sqsP row t + row.getD t 0 * row.getD t 0 := rfl
          have HNX := Lib.hid hnx
          clear hnx hv
          obtain ⟨x, hx⟩ : ∃ x, row.getD t 0 = x := ⟨_, rfl⟩
          obtain ⟨y, hy⟩ : ∃ y, sqsP row t = y := ⟨_, rfl⟩
          rw [hx] at hrg c2 hsq hsq0 HNX
          rw [hy] at hp hq HNX ⊢
          clear hx hy
          obtain ⟨z, hz⟩ : ∃ z, x * x = z := ⟨_, rfl⟩
          have hz1 : IntKind.i64.wrap (x * x) = z := by rw [hz]; exact IntWalk.i64_in _ (by omega)
          rw [hz] at hsq hsq0 HNX
          have HZ := Lib.hid hz
          clear hz
          go_wp2_with fail
          go_quiet (fail)
          go_wp2_with fail
          go_roundw
          case rel => exact ⟨t + 1, by omega, by go_num, by rw [HNX.out], HB2.out.trans (below_drewN _ _ _)⟩
          case measure => simp [intOf]; omega
        · obtain rfl : t = row.length := by omega
          have hq := sqsP_bd HRG.out row.length (by rw [← HW.out]; exact Nat.le_refl _)
          have hp := sqsP_pos row row.length
          by_cases h64 : sqsP row row.length ≤ 64
          · have h64' : decide (64 < sqsP row row.length) = false := by simpa using h64
            go_wp2_with fail
            go_roundw
            case rel => exact ⟨k + 1, by omega, by go_num, fun t ht => by
              by_cases e : t = k
              · subst e; rw [HROW.out, ← HW.out]; exact h64
              · exact HS.out t (by omega), HB2.out⟩
            case measure => simp [intOf]; omega
          · have h64' : decide (64 < sqsP row row.length) = true := by simp; omega
            have hno : sqOkB m = false := by
              unfold sqOkB
              apply decide_eq_false
              intro h
              have := h k hlt
              rw [HROW.out, ← HW.out] at this
              exact h64 this
            go_wp2_with fail
            go_ret
            exact ⟨rfl, HB2.out⟩
    · obtain rfl : k = m.length := by omega
      have hyes : sqOkB m = true := by unfold sqOkB; exact decide_eq_true HS.out
      go_wp2_with fail
      go_ret
      exact ⟨by rw [hyes]; rfl, HB.out⟩

set_option maxHeartbeats 4000000 in
set_option maxRecDepth 100000 in
theorem specMat (m : List (List Int)) (A : Option Addr) (cap lo hi : Nat) (w : World) (hl : RowsIn w lo hi A m) (hn : m.length ≤ 1048576) (hr : ∀ k, k < m.length → (m.getD k []).length ≤ 1048576) :
    Calls Try.prog 65 #[.slice A m.length cap] w fun e w' => e = .returned (.bool (isMatB m)) ∧ Below w.heap.size w w' := by
  by_cases h0 : m.length = 0
  · have hno : isMatB m = false := isMatB_no fun h => by have := h.h0; omega
    rw [hno, h0]
    go_enter Try.func65, Try.ntmps65
    go_wp2_with fail
    refine wp_loop_rounds 1 ?_
    rw [rounds_succ]
    go_wp2_with fail
    go_ret
    exact ⟨rfl, Below.refl _ _⟩
  · have HL := Lib.hid hl
    have HRR := Lib.hid hr
    obtain ⟨b, off, S, rfl, hbw, hc⟩ := rows_fn hl (by omega)
    have HC := Lib.hid hc
    clear hc hl hr
    obtain ⟨bm, hbm⟩ : ∃ bm, isMatB m = bm := ⟨_, rfl⟩
    rw [hbm]
    have HBM := Lib.hid hbm
    clear hbm
    go_enter Try.func65, Try.ntmps65
    go_wp2_with fail
    go_loopw [3, 4] (fun i _ wr => ∃ k : Nat, k ≤ m.length ∧ i = .int .i64 k ∧ RowsP1 m k ∧ Below w.heap.size w wr) (fun i _ _ => m.length - (intOf i).toNat)
    case atStart => exact ⟨0, by omega, rfl, fun t ht => absurd ht (Nat.not_lt_zero t), Below.refl _ _⟩
    case round =>
      obtain ⟨k, hk, rfl, hs, hb⟩ := hrel
      have HS := Lib.hid hs
      have HB := Lib.hid hb
      clear hs hb
      have c0 := rows_cell hbw HC.out HB.out (i := 0) (by omega)
      rw [Nat.add_zero] at c0
      have hr0 := HRR.out 0 (by omega)
      obtain ⟨W, hW⟩ : ∃ W, (m.getD 0 []).length = W := ⟨_, rfl⟩
      rw [hW] at c0 hr0
      have HWD := Lib.hid (show widM m = W from hW)
      clear hW
      obtain ⟨⟨A0, cz⟩, hS0⟩ : ∃ s, S 0 = s := ⟨_, rfl⟩
      rw [hS0] at c0
      dsimp only at c0
      clear hS0
      by_cases hlt : k < m.length
      · have hki : (k : Int) < (m.length : Int) := by omega
        have c1 := rows_cell hbw HC.out HB.out hlt
        have hrk := HRR.out k hlt
        obtain ⟨row, hrow⟩ : ∃ row, m.getD k [] = row := ⟨_, rfl⟩
        obtain ⟨⟨A', c'⟩, hSk⟩ : ∃ s, S k = s := ⟨_, rfl⟩
        rw [hrow] at c1 hrk
        rw [hSk] at c1
        dsimp only at c1
        have HROW := Lib.hid hrow
        have HSK := Lib.hid hSk
        clear hrow hSk
        by_cases hlw : row.length = W
        · have hne : ((row.length : Int) != (W : Int)) = false := by simp [hlw]
          have HLW := Lib.hid hlw
          clear hlw
          obtain ⟨wq, hwq⟩ : ∃ x, x = wr := ⟨_, rfl⟩
          rw [← hwq] at HB c0 c1 ⊢
          clear hwq
          go_wp2_with fail
          go_quiet (fail)
          clear c0 c1
          have HBQ := Lib.hid (HB.out.trans (below_drewN _ wq nq))
          go_wp2_with fail
          go_loopw [4] (fun j wr2 => ∃ t : Nat, t ≤ row.length ∧ j = .int .i64 t ∧ RngP row t ∧ Below w.heap.size w wr2) (fun j _ => row.length - (intOf j).toNat)
          case atStart => exact ⟨0, by omega, rfl, fun t ht => absurd ht (Nat.not_lt_zero t), HBQ.out⟩
          case round =>
            obtain ⟨t, ht, rfl, hg, hb2⟩ := hrel
            have HB2 := Lib.hid hb2
            have HG := Lib.hid hg
            clear hb2 hg
            have c1 := rows_cell hbw HC.out HB2.out hlt
            rw [HROW.out, HSK.out] at c1
            dsimp only at c1
            by_cases htl : t < row.length
            · have hti : (t : Int) < (row.length : Int) := by omega
              obtain ⟨bi, oi, e1, c2⟩ := rows_num HC.out HB2.out hlt (show t < (m.getD k []).length by rw [HROW.out]; exact htl)
              rw [HSK.out] at e1
              dsimp only at e1
              subst e1
              have hv : atM m k t = row.getD t 0 := by unfold atM; rw [HROW.out]
              rw [hv] at c2
              clear hv
              obtain ⟨x, hxv⟩ : ∃ x, row.getD t 0 = x := ⟨_, rfl⟩
              rw [hxv] at c2
              have HXV := Lib.hid hxv
              clear hxv
              by_cases hx : -8 ≤ x ∧ x ≤ 8
              · have HX := Lib.hid hx
                clear hx
                go_wp2_with fail
                refine (l1In_yes x (-8) 8 _ HX.out.1 HX.out.2).mono ?_
                rintro e w3 ⟨rfl, rfl⟩
                go_wp2_with fail
                go_roundw
                case rel => exact ⟨t + 1, by omega, by go_num, fun u hu => by
                  by_cases e : u = t
                  · subst e; rw [HXV.out]; exact HX.out
                  · exact HG.out u (by omega), HB2.out⟩
                case measure => simp [intOf]; omega
              · have HX := Lib.hid hx
                clear hx
                have hno : bm = false := by
                  rw [← HBM.out]
                  refine isMatB_no fun h => HX.out ?_
                  have := (h.row k hlt).2 t (by rw [HWD.out, ← HLW.out]; exact htl)
                  rw [HROW.out, HXV.out] at this
                  exact this
                go_wp2_with fail
                refine (l1In_no x (-8) 8 _ (by have := HX.out; omega)).mono ?_
                rintro e w3 ⟨rfl, rfl⟩
                go_wp2_with fail
                go_ret
                exact ⟨by rw [hno]; rfl, HB2.out⟩
            · obtain rfl : t = row.length := by omega
              go_wp2_with fail
              go_roundw
              case rel => exact ⟨k + 1, by omega, by go_num, fun u hu => by
                by_cases e : u = k
                · subst e; rw [HROW.out, HWD.out, ← HLW.out]; exact ⟨rfl, HG.out⟩
                · exact HS.out u (by omega), HB2.out⟩
              case measure => simp [intOf]; omega
        · have hne : ((row.length : Int) != (W : Int)) = true := by simp; omega
          have hno : bm = false := by
            rw [← HBM.out]
            refine isMatB_no fun h => hlw ?_
            have := (h.row k hlt).1
            rw [HROW.out, HWD.out] at this
            exact this
          go_wp2_with fail
          go_quiet (fail)
          go_wp2_with fail
          go_ret
          exact ⟨by rw [hno]; rfl, HB.out.trans (below_drewN _ _ _)⟩
      · obtain rfl : k = m.length := by omega
        have h0' : decide ((0 : Int) < (m.length : Int)) = true := by simp; omega
        have h0i : (0 : Int) < (m.length : Int) := by omega
        by_cases h9 : m.length ≤ 9
        · have h9' : decide ((m.length : Int) ≤ 9) = true := by simp; omega
          by_cases h12 : 1 ≤ W ∧ W ≤ 12
          · have hv : bm = sqOkB m := by
              rw [← HBM.out]
              by_cases hq : ∀ i, i < m.length → sqsP (m.getD i []) (widM m) ≤ 64
              · rw [isMatB_yes ⟨by omega, h9, by rw [HWD.out]; exact h12.1, by rw [HWD.out]; exact h12.2, HS.out, hq⟩]
                unfold sqOkB
                exact (decide_eq_true hq).symm
              · rw [isMatB_no fun h => hq h.sq]
                unfold sqOkB
                exact (decide_eq_false hq).symm
            have HSM := Lib.hid (fun (W' : World) (h : RowsIn W' lo hi (some ⟨b, off, none⟩) m) => specSmall m (some ⟨b, off, none⟩) cap lo hi W' h (by omega) h9 (by rw [HWD.out]; exact h12.2) HS.out)
            rw [← hv] at HSM
            clear hv
            go_wp2_with fail
            refine (l1In_yes (W : Int) 1 12 _ (by omega) (by omega)).mono ?_
            rintro e w3 ⟨rfl, rfl⟩
            go_wp2_with fail
            refine (HSM.out _ (HL.out.within (within_of HB.out) (.inr (Nat.zero_le _)))).mono ?_
            rintro e w3 ⟨rfl, hb3⟩
            have HB3 := Lib.hid (below_on HB.out hb3 HB.out.size)
            clear hb3
            go_wp2_with fail
            go_ret
            exact ⟨rfl, HB3.out⟩
          · have hno : bm = false := by
              rw [← HBM.out]
              refine isMatB_no fun h => h12 ?_
              have h1 := h.w1
              have h2 := h.w12
              rw [HWD.out] at h1 h2
              exact ⟨h1, h2⟩
            have H12 := Lib.hid h12
            clear h12
            go_wp2_with fail
            refine (l1In_no (W : Int) 1 12 _ (by have := H12.out; omega)).mono ?_
            rintro e w3 ⟨rfl, rfl⟩
            go_wp2_with fail
            go_ret
            exact ⟨by rw [hno]; rfl, HB.out⟩
        · have h9' : decide ((m.length : Int) ≤ 9) = false := by simp; omega
          have hno : bm = false := by
            rw [← HBM.out]
            exact isMatB_no fun h => h9 h.h9
          go_wp2_with fail
          go_ret
          exact ⟨by rw [hno]; rfl, HB.out⟩
end Go.Proofs.Ytdkpmaahinbhlaa
/- A row of ints that is collected: its range is the first one, or new; what else was there stands. No program's walk. No condition. -/
namespace Go.Proofs.Ytdkpmaahinbhlaa
open Go.RowKit

structure GrowP (a b : Nat) (V W : World) (ys : List Int) (A : Option Addr) (cap lo hi : Nat) : Prop where
  row : OwnR W lo hi A cap ys
  rng : (lo = a ∧ hi = b) ∨ V.heap.size ≤ lo
  le : lo ≤ W.heap.size
  wi : Within a b V W
theorem GrowP.push {a b : Nat} {V W W' : World} {ys : List Int} {y : Int} {A A' : Option Addr} {cap lo hi c' lo' hi' : Nat} (h : GrowP a b V W ys A cap lo hi) (hr : OwnR W' lo' hi' A' c' (ys ++ [y])) (hd : (lo' = lo ∧ hi' = hi) ∨ (W.heap.size ≤ lo' ∧ lo' ≤ W'.heap.size ∧ hi' ≤ W'.heap.size)) (hw : Within lo hi W W') : GrowP a b V W' (ys ++ [y]) A' c' lo' hi' := by
  obtain ⟨_, h2, h3, h4⟩ := h
  have s1 := h4.size
  have s2 := hw.size
  refine ⟨hr, ?_, ?_, ⟨hw.os.trans h4.os, hw.tape.trans h4.tape, hw.output.trans h4.output, Nat.le_trans s1 s2, fun i hi hd => (hw.block i (by omega) (by omega)).trans (h4.block i hi hd)⟩⟩
  · rcases hd with ⟨rfl, rfl⟩ | hd
    · exact h2
    · exact .inr (by omega)
  · rcases hd with ⟨rfl, rfl⟩ | hd
    · omega
    · exact hd.2.1
theorem GrowP.out {a b : Nat} {V W : World} {ys : List Int} {A : Option Addr} {cap lo hi : Nat} (h : GrowP a b V W ys A cap lo hi) {B : Nat} (h1 : B ≤ a) (h2 : B ≤ V.heap.size) : OwnInts W B W.heap.size A cap ys :=
  h.row.ints.widen (by have := h.rng; omega) h.row.1 (Nat.le_refl _)
end Go.Proofs.Ytdkpmaahinbhlaa
/- A state that is copied row by row in whatever order: what stands on the way. No program's walk. No condition. -/
namespace Go.Proofs.Ytdkpmaahinbhlaa
open Go.RowKit

theorem as_fun {R : Nat → Array Bool → Act → World → Prop} {n : Nat} {l : Array Bool} {a : Act} {w : World} (h : ∀ R' : Nat → Array Bool → Act → World → Prop, R' = R → R' n l a w) : R n l a w := h R rfl
theorem as_of {R R' : Nat → Array Bool → Act → World → Prop} (h : R = R') {n : Nat} {l : Array Bool} {a : Act} {w : World} (x : R n l a w) : R' n l a w := h ▸ x
theorem OwnInts.r {W : World} {lo hi : Nat} {A : Option Addr} {cap : Nat} {zs : List Int} (h : OwnInts W lo hi A cap zs) (hz : zs ≠ []) : OwnR W lo hi A cap zs :=
  ⟨h.1, .inr (h.2.resolve_left hz)⟩
theorem ownR_nil (W : World) (lo hi : Nat) (h : hi ≤ W.heap.size) : OwnR W lo hi none 0 [] := ⟨h, .inl ⟨rfl, rfl, rfl⟩⟩
theorem ownR_empty (W : World) : OwnR (W.alloc (.cells #[] 3)) W.heap.size (W.heap.size + 1) (some ⟨W.heap.size, 0, none⟩) 0 [] := by
  have hm := World.ownsRow_made (base := W.heap.size) (e := 3) (size := 1) W #[] 0 (Nat.le_refl _) (by unfold maxLen; omega) (by simp)
  refine ⟨by simp, .inr ⟨W.heap.size, rfl, Nat.le_refl _, Nat.lt_succ_self _, ?_⟩⟩
  simpa [intCells] using hm
/-- Three rows, each in its range from B on. -/
structure CpR (W : World) (B : Nat) (f t z : Nat × Nat) (AF : Option Addr) (cF : Nat) (AT : Option Addr) (cT : Nat) (AZ : Option Addr) (cZ : Nat) (F T Z : List Int) : Prop where
  own : OwnF W f t z AF cF AT cT AZ cZ F T Z
  lf : B ≤ f.1
  lt : B ≤ t.1
  lz : B ≤ z.1
  b : B ≤ W.heap.size
theorem CpR.nil (W : World) (B : Nat) (h : B ≤ W.heap.size) : CpR W B (B, B) (B, B) (B, B) none 0 none 0 none 0 [] [] [] :=
  ⟨⟨ownR_nil W B B h, ownR_nil W B B h, ownR_nil W B B h, .inl (Nat.le_refl _), .inl (Nat.le_refl _), .inl (Nat.le_refl _)⟩, Nat.le_refl _, Nat.le_refl _, Nat.le_refl _, h⟩
theorem CpR.newF {W W' : World} {B : Nat} {f t z f' : Nat × Nat} {AF AT AZ AF' : Option Addr} {cF cT cZ cF' : Nat} {F T Z F' : List Int} (h : CpR W B f t z AF cF AT cT AZ cZ F T Z) (hb : Below W.heap.size W W') (hn : OwnR W' f'.1 f'.2 AF' cF' F') (hl : f' = f ∨ W.heap.size ≤ f'.1) : CpR W' B f' t z AF' cF' AT cT AZ cZ F' T Z := by
  obtain ⟨⟨o1, o2, o3, d1, d2, d3⟩, lf, lt, lz, b⟩ := h
  have q2 := o2.within (within_of hb) (.inr (Nat.zero_le _))
  have q3 := o3.within (within_of hb) (.inr (Nat.zero_le _))
  have s2 := o2.1
  have s3 := o3.1
  have hs := hb.size
  rcases hl with rfl | hl
  · exact ⟨⟨hn, q2, q3, d1, d2, d3⟩, lf, lt, lz, by omega⟩
  · exact ⟨⟨hn, q2, q3, .inr (by omega), .inr (by omega), d3⟩, by omega, lt, lz, by omega⟩
theorem CpR.newT {W W' : World} {B : Nat} {f t z t' : Nat × Nat} {AF AT AZ AT' : Option Addr} {cF cT cZ cT' : Nat} {F T Z T' : List Int} (h : CpR W B f t z AF cF AT cT AZ cZ F T Z) (hb : Below W.heap.size W W') (hn : OwnR W' t'.1 t'.2 AT' cT' T') (hl : t' = t ∨ W.heap.size ≤ t'.1) : CpR W' B f t' z AF cF AT' cT' AZ cZ F T' Z := by
  obtain ⟨⟨o1, o2, o3, d1, d2, d3⟩, lf, lt, lz, b⟩ := h
  have q1 := o1.within (within_of hb) (.inr (Nat.zero_le _))
  have q3 := o3.within (within_of hb) (.inr (Nat.zero_le _))
  have s1 := o1.1
  have s3 := o3.1
  have hs := hb.size
  rcases hl with rfl | hl
  · exact ⟨⟨q1, hn, q3, d1, d2, d3⟩, lf, lt, lz, by omega⟩
  · exact ⟨⟨q1, hn, q3, .inl (by omega), d2, .inr (by omega)⟩, lf, by omega, lz, by omega⟩
theorem CpR.newZ {W W' : World} {B : Nat} {f t z z' : Nat × Nat} {AF AT AZ AZ' : Option Addr} {cF cT cZ cZ' : Nat} {F T Z Z' : List Int} (h : CpR W B f t z AF cF AT cT AZ cZ F T Z) (hb : Below W.heap.size W W') (hn : OwnR W' z'.1 z'.2 AZ' cZ' Z') (hl : z' = z ∨ W.heap.size ≤ z'.1) : CpR W' B f t z' AF cF AT cT AZ' cZ' F T Z' := by
  obtain ⟨⟨o1, o2, o3, d1, d2, d3⟩, lf, lt, lz, b⟩ := h
  have q1 := o1.within (within_of hb) (.inr (Nat.zero_le _))
  have q2 := o2.within (within_of hb) (.inr (Nat.zero_le _))
  have s1 := o1.1
  have s2 := o2.1
  have hs := hb.size
  rcases hl with rfl | hl
  · exact ⟨⟨q1, q2, hn, d1, d2, d3⟩, lf, lt, lz, by omega⟩
  · exact ⟨⟨q1, q2, hn, d1, .inl (by omega), .inl (by omega)⟩, lf, lt, by omega, by omega⟩
theorem OwnF.own3R {W : World} {f t z : Nat × Nat} {AF AT AZ : Option Addr} {cF cT cZ : Nat} {F T Z : List Int} (h : OwnF W f t z AF cF AT cT AZ cZ F T Z) {lo hi : Nat} (h1 : lo ≤ f.1 ∧ f.2 ≤ hi) (h2 : lo ≤ t.1 ∧ t.2 ≤ hi) (h3 : lo ≤ z.1 ∧ z.2 ≤ hi) (h4 : hi ≤ W.heap.size) : Own3R W lo hi AF cF AT cT AZ cZ F T Z :=
  ⟨f, t, z, h.1, h.2.1, h.2.2.1, h.2.2.2.1, h.2.2.2.2.1, h.2.2.2.2.2, h1, h2, h3, h4⟩
/-- An append of a row onto an empty row of the call's own. -/
theorem run_copyR (w : World) (ty : TypeId) (g l h : Nat) (A : Option Addr) (zs : List Int) (cap lo hi : Nat) (hg : OwnR w l h (some ⟨g, 0, none⟩) 0 []) (hz : IntsIn w lo hi A zs) (hn : zs.length ≤ 1048576) :
    ∃ A' c' w', ∃ r : Nat × Nat, (Builtin.append_ #[29, 29] ty #[.slice (some ⟨g, 0, none⟩) 0 0, .slice A zs.length cap]).run Try.prog w = .ok (.slice A' zs.length c') w' ∧ OwnR w' r.1 r.2 A' c' zs ∧ (r = (l, h) ∨ w.heap.size ≤ r.1) ∧ Below w.heap.size w w' := by
  by_cases e : zs = []
  · subst e
    obtain ⟨i0, hi0, hz0, hz1, hz2⟩ := info_parts infoInt
    refine ⟨some ⟨g, 0, none⟩, 0, w, (l, h), ?_, hg, .inl rfl, Below.refl _ _⟩
    cases A <;> simp [Builtin.append_, run_underlying Try.underlying29, sizeOf, typeInfo, hi0, Builtin.lenOf, Builtin.firstCells, loadCells, loadCellsFrom, storeCells]
  · obtain ⟨A', c', w', h1, h2, h3⟩ := run_copyI w ty g A zs cap lo hi hz hn
    exact ⟨A', c', w', (w.heap.size, w'.heap.size), h1, h2.r e, .inr (Nat.le_refl _), h3⟩
theorem step_copyR {w : World} {ops : Array Oper} {o : Oper} {a : Act} {K : Act → World → Prop} {Q : Exit → Act → World → Prop} {E : Prop} (hgd : o.guard = none) (s x : Operand) (ho : o.op = .call { callee := .builtin .append, args := #[s, x], argTypes := #[29, 29] })
    (g l h : Nat) (A : Option Addr) (zs : List Int) (cap lo hi : Nat) (hs : a.eval s = .slice (some ⟨g, 0, none⟩) 0 0) (hx : a.eval x = .slice A zs.length cap) (hg : OwnR w l h (some ⟨g, 0, none⟩) 0 []) (hz : IntsIn w lo hi A zs) (hn : zs.length ≤ 1048576)
    (hK : ∀ A' c' w' (r : Nat × Nat), OwnR w' r.1 r.2 A' c' zs → (r = (l, h) ∨ w.heap.size ≤ r.1) → Below w.heap.size w w' → K (a.put o.dst (.slice A' zs.length c')) w') : if Region.wanted o (yielded ops a.tmps) = true then Oper.wp Try.prog o a w K Q else E := by
  have hw : Region.wanted o (yielded ops a.tmps) = true := by simp [Region.wanted, hgd]
  rw [if_pos hw]
  obtain ⟨A', c', w', r, hr, h2, h3, h4⟩ := run_copyR w o.type g l h A zs cap lo hi hg hz hn
  unfold Oper.wp execOp
  simp only [ho, resolve, invoke, builtin, Sem.run_bind, Sem.run_pure, Result.andThen_ok, List.map_toArray, List.map_cons, List.map_nil, hs, hx, hr]
  exact hK A' c' w' r h2 h3 h4
end Go.Proofs.Ytdkpmaahinbhlaa
/- What spec.TransposeMatrix answers. No condition. -/
namespace Go.Proofs.Ytdkpmaahinbhlaa
open Go.RowKit

/-- The first k columns. -/
def trK (m : List (List Int)) (k : Nat) : List (List Int) := (List.range k).map fun j => rowF m.length fun i => atM m i j
theorem trK_succ (m : List (List Int)) (k : Nat) : trK m (k + 1) = trK m k ++ [rowF m.length fun i => atM m i k] := by unfold trK; rw [List.range_succ, List.map_append]; rfl
theorem trK_len (m : List (List Int)) (k : Nat) : (trK m k).length = k := by unfold trK; rw [List.length_map, List.length_range]
theorem trV_len (m : List (List Int)) : (trV m).length ≤ 12 := by
  unfold trV
  split
  · rename_i h
    have := (isMatB_iff.1 h).w12
    unfold trL
    rw [List.length_map, List.length_range]; exact this
  · simp
theorem trV_row (m : List (List Int)) (k : Nat) : ((trV m).getD k []).length ≤ 9 := by
  unfold trV
  split
  · rename_i h
    have := (isMatB_iff.1 h).h9
    by_cases hk : k < widM m
    · have : (trL m).getD k [] = rowF m.length fun i => atM m i k := by unfold trL; simp [List.getD, hk]
      rw [this, rowF_len]; assumption
    · have : (trL m).getD k [] = [] := by unfold trL; simp [List.getD, hk]
      rw [this]; simp
  · simp
theorem rowsIn_widen {W : World} {lo hi lo' hi' : Nat} {A : Option Addr} {rs : List (List Int)} (h : RowsIn W lo hi A rs) (h1 : lo' ≤ lo) (h2 : hi ≤ hi') (h3 : hi' ≤ W.heap.size) : RowsIn W lo' hi' A rs :=
  ⟨h3, fun hl => by
    obtain ⟨b, off, e, q1, q2, hc⟩ := h.2 hl
    exact ⟨b, off, e, by omega, by omega, fun k hk => by
      obtain ⟨A', c', p1, p2⟩ := hc k hk
      exact ⟨A', c', p1, p2.widen h1 h2 h3⟩⟩⟩
theorem rowsIn_below {W W' : World} {lo hi : Nat} {A : Option Addr} {rs : List (List Int)} (h : RowsIn W lo hi A rs) (hb : Below W.heap.size W W') : RowsIn W' lo hi A rs := h.within (within_of hb) (.inr (Nat.zero_le _))

set_option maxHeartbeats 4000000 in
set_option maxRecDepth 100000 in
theorem specTr (m : List (List Int)) (A : Option Addr) (cap lo hi : Nat) (w : World) (hl : RowsIn w lo hi A m) (hn : m.length ≤ 1048576) (hr : ∀ k, k < m.length → (m.getD k []).length ≤ 1048576) :
    Calls Try.prog 67 #[.slice A m.length cap] w fun e w' => ∃ A' c', e = .returned (.slice A' (trV m).length c') ∧ RowsIn w' w.heap.size w'.heap.size A' (trV m) ∧ Below w.heap.size w w' := by
  have HL := Lib.hid hl
  have HMAT := Lib.hid (fun (W : World) (h : RowsIn W lo hi A m) => specMat m A cap lo hi W h hn hr)
  have HAL := Lib.hid (new_below w (.cells #[] 29))
  have HG0 := Lib.hid (RowsG.made w)
  have HSZ := Lib.hid (show (w.alloc (.cells #[] 29)).heap.size = w.heap.size + 1 by simp)
  by_cases hM : MatP m
  · rw [isMatB_yes hM] at HMAT
    have HTV := Lib.hid (show trV m = trK m (widM m) by unfold trV; rw [if_pos (isMatB_yes hM)]; rfl)
    obtain ⟨b, off, S, rfl, hbw, hc⟩ := rows_fn hl hM.h0
    have HC := Lib.hid hc
    have h0 := hM.h0
    have h9 := hM.h9
    have HROW := Lib.hid hM.row
    have hw0 := (hM.row 0 h0).1
    have h12 := hM.w12
    have h1 := hM.w1
    clear hc hl hr hM
    obtain ⟨n, hn'⟩ : ∃ n, widM m = n := ⟨_, rfl⟩
    rw [hn'] at HTV hw0 h12 h1
    have HWID := Lib.hid hn'
    clear hn'
    go_enter Try.func67, Try.ntmps67
    go_wp2_with fail
    generalize w.alloc (.cells #[] 29) = wA at *
    go_loopw [3, 4] (fun o i w' => ∃ (k T lo2 hi2 : Nat) (A' : Option Addr) (c' : Nat), k ≤ n ∧ i = .int .i64 k ∧ o = .slice A' k c' ∧ RowsG w' w.heap.size T lo2 hi2 A' c' (trK m k) ∧ Below w.heap.size w w') (fun _ i _ => n - (intOf i).toNat)
    case atStart => exact ⟨0, _, _, _, _, _, Nat.zero_le _, rfl, rfl, HG0.out, HAL.out⟩
    case round =>
      obtain ⟨k, T, lo2, hi2, A2, c2, hk, rfl, rfl, hrg, hb⟩ := hrel
      have HRG := Lib.hid hrg
      have HB := Lib.hid hb
      clear hrg hb
      have hsl : (0 : Int) < (m.length : Int) := by omega
      go_wp2_with fail
      refine (HMAT.out _ (rowsIn_below HL.out HB.out)).mono ?_
      rintro e wz ⟨rfl, hbz⟩
      have HRGZ := Lib.hid (HRG.out.below hbz)
      have HBZ := Lib.hid (below_on HB.out hbz HB.out.size)
      clear hbz
      have c0 := rows_cell hbw HC.out HBZ.out (i := 0) h0
      rw [Nat.add_zero, hw0] at c0
      obtain ⟨⟨A0, cz⟩, hS0⟩ : ∃ s, S 0 = s := ⟨_, rfl⟩
      rw [hS0] at c0
      dsimp only at c0
      by_cases hkn : k < n
      · have hki : (k : Int) < (n : Int) := by omega
        clear hS0
        obtain ⟨wy, rfl⟩ : ∃ x, x = wz := ⟨wz, rfl⟩
        have hal := new_below wy (.cells #[] 3)
        have HAL2 := Lib.hid hal
        have HOE := Lib.hid (ownR_empty wy)
        have HSZ2 := Lib.hid (show (wy.alloc (.cells #[] 3)).heap.size = wy.heap.size + 1 by simp)
        have HB3 := Lib.hid (below_on HBZ.out hal HBZ.out.size)
        have HG3 := Lib.hid (show GrowP wy.heap.size (wy.heap.size + 1) (wy.alloc (.cells #[] 3)) (wy.alloc (.cells #[] 3)) (rowF 0 fun i => atM m i k) (some ⟨wy.heap.size, 0, none⟩) 0 wy.heap.size (wy.heap.size + 1) from ⟨HOE.out, .inl ⟨rfl, rfl⟩, (by have := HSZ2.out; omega), Within.refl _ _ _⟩)
        clear hal
        go_wp2_with fail
        clear c0
        generalize wy.alloc (.cells #[] 3) = wV at *
        go_loopw [5, 6] (fun o i w' => ∃ (x : Nat) (Ar : Option Addr) (cr lo3 hi3 : Nat), x ≤ m.length ∧ i = .int .i64 x ∧ o = .slice Ar (rowF x fun i => atM m i k).length cr ∧ GrowP wy.heap.size (wy.heap.size + 1) wV w' (rowF x fun i => atM m i k) Ar cr lo3 hi3) (fun _ i _ => m.length - (intOf i).toNat)
        case atStart => exact ⟨0, _, 0, _, _, Nat.zero_le _, rfl, rfl, HG3.out⟩
        case round =>
          obtain ⟨x, Ar, cr, lo3, hi3, hx, rfl, rfl, hg⟩ := hrel
          have HG := Lib.hid hg
          have hbw2 := within_on HB3.out hg.wi HB3.out.size (.inl HBZ.out.size)
          have HBX := Lib.hid hbw2
          have HBL := Lib.hid (within_on HAL2.out hg.wi HAL2.out.size (.inl (Nat.le_refl _)))
          clear hg hbw2
          have hl9 : (rowF x fun i => atM m i k).length ≤ 9 := by rw [rowF_len]; omega
          have HSTEP := Lib.hid (rowF_succ x fun i => atM m i k)
          have HLX := Lib.hid (rowF_len x fun i => atM m i k)
          have HEQ := Lib.hid (fun h : x = m.length => (show (rowF x fun i => atM m i k) = rowF m.length fun i => atM m i k by rw [h]))
          obtain ⟨ys, hys⟩ : ∃ ys, (rowF x fun i => atM m i k) = ys := ⟨_, rfl⟩
          rw [hys] at HG hl9 HSTEP HEQ HLX ⊢
          clear hys
          by_cases hxn : x < m.length
          · have hxi : (x : Int) < (m.length : Int) := by omega
            have hrl := (HROW.out x hxn).1
            have c1 := rows_cell hbw HC.out HBX.out hxn
            obtain ⟨bi, oi, e1, c2'⟩ := rows_num HC.out HBX.out hxn (show k < (m.getD x []).length by rw [hrl, HWID.out]; exact hkn)
            rw [e1, hrl, HWID.out] at c1
            obtain ⟨y, hy⟩ : ∃ y, atM m x k = y := ⟨_, rfl⟩
            rw [hy] at c2' HSTEP
            clear hy e1 hrl
            go_wp2_with (at_builtin; refine wpList_pushR _ rfl _ _ rfl lo3 hi3 Ar cr ys y rfl HG.out.row _ (by first | rfl | (simp only [World.size_setCell]; rfl)) (by omega) HG.out.le ?_; intro A6 c6 w16 lo6 hi6 hr6 hor6 hw6; have HG6 := Lib.hid (HG.out.push hr6 hor6 hw6); clear hr6 hor6 hw6)
            go_roundw
            case rel => exact ⟨x + 1, A6, c6, lo6, hi6, by omega, by go_num, by rw [HSTEP.out, List.length_append]; rfl, by rw [HSTEP.out]; exact HG6.out⟩
            case measure => simp [intOf]; omega
          · have hxe : x = m.length := by omega
            have HY := Lib.hid (HEQ.out hxe)
            have HRG5 := Lib.hid (HRGZ.out.below HBL.out)
            have HOX := Lib.hid (HG.out.row.ints)
            have HTOP := Lib.hid (show T ≤ lo3 by have := HG.out.rng; have := HRGZ.out.top; have := HSZ2.out; omega)
            obtain ⟨zs, r, S', z1, z2, z3, z4⟩ := HRG5.out.rows
            rw [trK_len] at z1
            have HZ1 := Lib.hid z1
            have HZ2 := Lib.hid z2
            have HZ3 := Lib.hid (show RowsP _ w.heap.size T lo2 hi2 zs (trK m k) from ⟨r, S', z3, z4⟩)
            have HLO := Lib.hid (show lo2 ≤ _ from Nat.le_trans HRG5.out.out.2.1 HRG5.out.top)
            have HOB := Lib.hid (HRG5.out.out.1)
            clear z1 z2 z3 z4 hxe
            go_wp2_with (at_builtin; refine wpList_pushS _ rfl _ _ rfl lo2 hi2 A2 c2 zs (.slice Ar ys.length cr) rfl (by rw [HZ1.out]; rfl) HZ2.out _ rfl (by have := HZ1.out; omega) HLO.out ?_; intro A7 c7 w7 lo7 hi7 ho7 hd7 hw7; have HO7 := Lib.hid ho7; have HD7 := Lib.hid hd7; have HW7 := Lib.hid hw7; clear ho7 hd7 hw7)
            have HRG7 := Lib.hid (HRG5.out.push (q := (lo3, hi3)) HOX.out HTOP.out (HZ1.out.trans (trK_len _ _).symm) HZ3.out HO7.out HD7.out HW7.out)
            go_roundw
            case rel => exact ⟨k + 1, _, _, _, _, _, by omega, by go_num, by rw [HZ1.out], by rw [trK_succ, ← HY.out]; exact HRG7.out, within_on HBX.out HW7.out HBX.out.size (.inl HOB.out)⟩
            case measure => simp [intOf]; omega
      · obtain rfl : k = n := by omega
        clear hS0
        go_wp2_with fail
        go_ret
        have ht := HRGZ.out.top
        refine ⟨A2, c2, by rw [HTV.out, trK_len]; rfl, ?_, HBZ.out⟩
        rw [HTV.out]
        exact rowsIn_widen HRGZ.out.cells.reads (Nat.le_refl _) ht (Nat.le_refl _)
  · rw [isMatB_no hM] at HMAT
    have HTV := Lib.hid (show trV m = [] by unfold trV; rw [isMatB_no hM]; rfl)
    clear hl hr hM
    go_enter Try.func67, Try.ntmps67
    go_wp2_with fail
    generalize w.alloc (.cells #[] 29) = wA at *
    refine wp_loop_rounds 1 ?_
    rw [rounds_succ]
    go_wp2_with fail
    refine (HMAT.out _ (rowsIn_below HL.out HAL.out)).mono ?_
    rintro e wz ⟨rfl, hbz⟩
    have HBZ := Lib.hid (below_on HAL.out hbz HAL.out.size)
    clear hbz
    go_wp2_with fail
    go_ret
    exact ⟨_, _, by rw [HTV.out]; rfl, by rw [HTV.out]; exact ⟨Nat.le_refl _, fun h => absurd h (by simp)⟩, HBZ.out⟩
end Go.Proofs.Ytdkpmaahinbhlaa
/- What spec.RigidityMatrix answers. No condition. -/
namespace Go.Proofs.Ytdkpmaahinbhlaa
open Go.RowKit

/-- The rows of the first k bars. -/
def rigK (p : Int) (l m : List (Int × Int)) (k : Nat) : List (List Int) := (l.take k).map (rigR m (2 * p.toNat))
theorem rigK_succ (p : Int) (l m : List (Int × Int)) (k : Nat) (h : k < l.length) : rigK p l m (k + 1) = rigK p l m k ++ [rigR m (2 * p.toNat) (l.getD k (0, 0))] := by
  unfold rigK
  rw [List.take_succ_eq_append_getElem h, List.map_append]
  simp [List.getD, List.getElem?_eq_getElem h]
theorem rigK_len (p : Int) (l m : List (Int × Int)) (k : Nat) (h : k ≤ l.length) : (rigK p l m k).length = k := by unfold rigK; simp; omega
theorem rigK_all (p : Int) (l m : List (Int × Int)) : rigK p l m l.length = rigL p l m := by unfold rigK rigL; rw [List.take_length]
theorem rigV_len (p : Int) (l m : List (Int × Int)) : (rigV p l m).length ≤ 15 := by
  by_cases h : isFB p l m = true
  · rw [rigV_yes h, rigL_len]; exact (isFB_iff.1 h).bars
  · rw [rigV_no (by simpa using h)]; simp
theorem rigV_row (p : Int) (l m : List (Int × Int)) (k : Nat) : ((rigV p l m).getD k []).length ≤ 12 := by
  by_cases h : isFB p l m = true
  · rw [rigV_yes h]
    by_cases hk : k < l.length
    · rw [rigL_get hk]
      have := (isFB_iff.1 h).six
      unfold rigR
      rw [rowF_len]; omega
    · rw [List.getD_eq_getElem?_getD, List.getElem?_eq_none (by rw [rigL_len]; omega)]; simp
  · rw [rigV_no (by simpa using h)]; simp
/-- A number stored in a block of numbers. -/
theorem flat_put {W : World} {g N : Nat} {f : Nat → Int} (r : FlatAt W g N f) {t : Nat} (ht : t < N) (x : Int) :
    FlatAt (W.setCell ⟨g, t, none⟩ (.int .i64 x)) g N (fun s => if s = t then x else f s) ∧ Within g (g + 1) W (W.setCell ⟨g, t, none⟩ (.int .i64 x)) := by
  have hst := World.ownsRow.stored r t (.int .i64 x)
  refine ⟨?_, ⟨hst.2.os, hst.2.tape, hst.2.output, hst.2.size, fun i hi' hd' => hst.2.block i hi' (by simp; omega)⟩⟩
  have := hst.1
  rw [rowF_set ht] at this
  exact this

set_option maxHeartbeats 8000000 in
set_option maxRecDepth 100000 in
theorem specRgm (p : Int) (l m : List (Int × Int)) (A : Option Addr) (ca : Nat) (B : Option Addr) (cb : Nat) (lo hi : Nat) (w : World) (hl : FwIn w lo hi A l B m) (hn : l.length + m.length ≤ 1048576) :
    Calls Try.prog 87 #[.agg #[.int .i64 p, .slice A l.length ca, .slice B m.length cb]] w fun e w' => ∃ A' c', e = .returned (.slice A' (rigV p l m).length c') ∧ RowsIn w' w.heap.size w'.heap.size A' (rigV p l m) ∧ Below w.heap.size w w' := by
  have hhi := hl.b.1
  have HC := Lib.hid fun (W : World) (h : FwIn W lo hi A l B m) => specIsF p l m A ca B cb lo hi W h hn
  have hf := FbI.new (p := p) (ca := ca) (cb := cb) hl 97
  have hs1 : (w.alloc (.cells #[.int .i64 p, .slice A l.length ca, .slice B m.length cb] 97)).heap.size = w.heap.size + 1 := by simp
  clear hl
  go_enter Try.func87, Try.ntmps87
  go_wp2_with fail
  generalize (w.alloc (.cells #[.int .i64 p, .slice A l.length ca, .slice B m.length cb] 97)) = w1 at *
  have HG0 := Lib.hid (RowsG.made w1)
  have HF := Lib.hid (hf.below (new_below w1 (.cells #[] 29)))
  have HW1 := Lib.hid hs1
  rw [hs1] at HG0
  clear hf hs1
  generalize (w1.alloc (.cells #[] 29)) = w2 at *
  by_cases hg : isFB p l m = true
  · rw [hg] at HC
    have HS := Lib.hid ((rigV_yes hg).trans (rigK_all p l m).symm)
    have HI := Lib.hid (isFB_iff.1 hg)
    have h15 := HI.out.bars
    have hp6 := HI.out.six
    have hp1 := HI.out.g.1.1
    have HML := Lib.hid HI.out.len
    clear hg
    obtain ⟨P, hP⟩ : ∃ P : Nat, p = P := ⟨p.toNat, by omega⟩
    obtain ⟨n, hn2⟩ : ∃ n, 2 * P = n := ⟨_, rfl⟩
    have HN2 := Lib.hid (show 2 * p.toNat = n by omega)
    have H2P := Lib.hid (show 2 * p = (n : Int) by omega)
    have hn12 : n ≤ 12 := by omega
    have HMN := Lib.hid (show n = 2 * m.length by have := HML.out; omega)
    have HPP := Lib.hid hP
    clear hP hn2
    go_loopw [3, 4] (fun o i wr => ∃ (k T lo2 hi2 : Nat) (A' : Option Addr) (c' : Nat), k ≤ l.length ∧ i = .int .i64 k ∧ o = .slice A' k c' ∧ RowsG wr (w.heap.size + 1) T lo2 hi2 A' c' (rigK p l m k) ∧ FbI w wr lo hi p A ca l B cb m) (fun _ i _ => l.length - (intOf i).toNat)
    case atStart => exact ⟨0, _, _, _, _, _, Nat.zero_le _, rfl, rfl, HG0.out, HF.out⟩
    case round =>
      clear HF HG0
      obtain ⟨k, T, lo2, hi2, A2, c2, hk, rfl, rfl, hrg, hf⟩ := hrel
      have HF := Lib.hid hf
      have HRG := Lib.hid hrg
      clear hf hrg
      obtain ⟨_, x0, x1, x2⟩ := HF.out.x
      by_cases hlt : k < l.length
      · have hki : (k : Int) < (l.length : Int) := by omega
        go_wp2_with fail
        refine (HC.out _ HF.out.f).mono ?_
        rintro e w3 ⟨rfl, hb⟩
        have HF3 := Lib.hid (HF.out.below hb)
        have HRG3 := Lib.hid (HRG.out.below hb)
        clear hb HF HRG x0 x1 x2
        obtain ⟨ba, oa, rfl, hba, hca⟩ := HF3.out.bar hlt
        obtain ⟨bb, ob, rfl, hbb, hcb⟩ := HF3.out.place (k := 0) (by have := HML.out; omega)
        obtain ⟨e1, e2, e3⟩ := HI.out.ends hlt
        have hbar := hca k hlt
        have hpl1 := hcb (l.getD k (0, 0)).1.toNat (by have := HML.out; omega)
        have hpl2 := hcb (l.getD k (0, 0)).2.toNat (by have := HML.out; omega)
        have hon1 := HI.out.on e1 (by omega)
        have hon2 := HI.out.on (v := (l.getD k (0, 0)).2) (by omega) e3
        have hnx := rigK_succ p l m k hlt
        unfold rigR dxB dyB plc at hnx
        unfold plc at hon1 hon2
        obtain ⟨x, hx⟩ : ∃ x, l.getD k (0, 0) = x := ⟨_, rfl⟩
        rw [hx] at hbar hpl1 hpl2 e1 e2 e3 hon1 hon2 hnx
        clear hx hca hcb
        obtain ⟨xa, xb⟩ := x
        obtain ⟨a, rfl⟩ : ∃ a : Nat, xa = a := ⟨xa.toNat, by simp only at e1; omega⟩
        obtain ⟨b, rfl⟩ : ∃ b : Nat, xb = b := ⟨xb.toNat, by simp only at e1 e2; omega⟩
        simp only [Int.toNat_natCast] at e1 e2 e3 hbar hpl1 hpl2 hon1 hon2 hnx
        have hai : (a : Int) < (m.length : Int) := by have := HML.out; omega
        have hbi : (b : Int) < (m.length : Int) := by have := HML.out; omega
        have hab : a < b := by omega
        have hbn : b < m.length := by omega
        obtain ⟨P', hP'⟩ : ∃ P', m.getD a (0, 0) = P' := ⟨_, rfl⟩
        obtain ⟨Q, hQ⟩ : ∃ Q, m.getD b (0, 0) = Q := ⟨_, rfl⟩
        rw [hP'] at hpl1 hon1 hnx
        rw [hQ] at hpl2 hon2 hnx
        rw [HN2.out] at hnx
        have HNX := Lib.hid hnx
        clear hP' hQ e1 e2 e3 hnx
        obtain ⟨P1, P2⟩ := P'
        obtain ⟨Q1, Q2⟩ := Q
        obtain ⟨⟨o1, o2⟩, o3, o4⟩ := hon1
        obtain ⟨⟨n1, n2⟩, n3, n4⟩ := hon2
        simp only at o1 o2 o3 o4 n1 n2 n3 n4
        obtain ⟨hb1, hb2⟩ := hbar
        obtain ⟨hp1', hp2'⟩ := hpl1
        obtain ⟨hq1', hq2'⟩ := hpl2
        obtain ⟨ka, hka⟩ : ∃ ka, 2 * a = ka := ⟨_, rfl⟩
        obtain ⟨kb, hkb⟩ : ∃ kb, 2 * b = kb := ⟨_, rfl⟩
        have HKA := Lib.hid hka
        have HKB := Lib.hid hkb
        have hkab : ka + 1 < kb := by omega
        have hkbn : kb + 1 < n := by have := HMN.out; omega
        have H2A := Lib.hid (show 2 * (a : Int) = (ka : Int) by omega)
        have H2B := Lib.hid (show 2 * (b : Int) = (kb : Int) by omega)
        have hal := new_below w3 (.cells #[.int .i64 (a : Int), .int .i64 (b : Int)] 108)
        have HNB := Lib.hid hal
        have hX := box_new w3 (a : Int) (.int .i64 (b : Int)) 108
        have hs4 : (w3.alloc (.cells #[.int .i64 (a : Int), .int .i64 (b : Int)] 108)).heap.size = w3.heap.size + 1 := by simp
        have HF4 := Lib.hid (HF3.out.below hal)
        have HRG4 := Lib.hid (HRG3.out.below hal)
        have HX4 := Lib.hid hX
        have HS4 := Lib.hid hs4
        have HBA4 := Lib.hid (show w.heap.size ≤ w3.heap.size ∧ bb < w3.heap.size from ⟨HF3.out.b.size, hbb⟩)
        clear hal hX hs4
        obtain ⟨_, x0, x1, x2⟩ := HF3.out.x
        clear hka hkb
        go_wp2_with (at_make; refine wpList_mkn _ rfl _ _ 29 rfl (w3.alloc (.cells #[.int .i64 (a : Int), .int .i64 (b : Int)] 108)).heap.size 3 (.int .i64 0) 8 Try.underlying29 infoInt rfl _ _ _ _ n rfl rfl (by first | rfl | exact H2P.out) (by first | rfl | exact H2P.out) (by omega) (by unfold maxLen; omega) (Nat.le_refl _) ?_; intro w6 hown6 hb6)
        rw [rowF_zero, HS4.out] at hown6
        have hF6 : FlatAt w6 (w3.heap.size + 1) n (fun _ => 0) := hown6
        have HF6 := Lib.hid (HF4.out.below hb6)
        have HX6 := Lib.hid (HX4.out.kept hb6)
        have HB6 := Lib.hid hb6
        have HFL := Lib.hid hF6
        have hbb6 : bb < w6.heap.size := by have h1 := hb6.size; have h2 := HBA4.out.2; rw [HS4.out] at h1; omega
        have hplc : w6.cell? ⟨bb, ob + a * 2, none⟩ = some (.int .i64 P1) ∧ w6.cell? ⟨bb, ob + a * 2 + 1, none⟩ = some (.int .i64 P2) ∧ w6.cell? ⟨bb, ob + b * 2, none⟩ = some (.int .i64 Q1) ∧ w6.cell? ⟨bb, ob + b * 2 + 1, none⟩ = some (.int .i64 Q2) := by
          have hbel : Below w3.heap.size w3 w6 := below_on HNB.out hb6 HNB.out.size
          exact ⟨(hbel.cell (p := ⟨bb, ob + a * 2, none⟩) hbb).trans hp1', (hbel.cell (p := ⟨bb, ob + a * 2 + 1, none⟩) hbb).trans hp2', (hbel.cell (p := ⟨bb, ob + b * 2, none⟩) hbb).trans hq1', (hbel.cell (p := ⟨bb, ob + b * 2 + 1, none⟩) hbb).trans hq2'⟩
        have HPL := Lib.hid hplc
        clear x0 x1 x2 hb1 hb2 hp1' hp2' hq1' hq2' hown6 hb6 hF6 hplc
        have HDR := Lib.hid (show Below w6.heap.size w6 w6.drew from (Below.refl _ _).drew)
        have K1 := Lib.hid (show w6.drew.cell? ⟨w.heap.size, 2, none⟩ = some (.slice (some ⟨bb, ob, none⟩) m.length cb) ∧ w6.drew.cell? ⟨w3.heap.size, 0, none⟩ = some (.int .i64 (a : Int)) ∧ w6.drew.cell? ⟨w3.heap.size, 1, none⟩ = some (.int .i64 (b : Int)) ∧ w6.drew.cell? ⟨bb, ob + a * 2, none⟩ = some (.int .i64 P1) ∧ w6.drew.cell? ⟨bb, ob + b * 2, none⟩ = some (.int .i64 Q1) from ⟨(HF6.out.below HDR.out).x.2.2.2, (HX6.out.kept HDR.out).2.1, (HX6.out.kept HDR.out).2.2, (HDR.out.cell (p := ⟨bb, ob + a * 2, none⟩) hbb6).trans HPL.out.1, (HDR.out.cell (p := ⟨bb, ob + b * 2, none⟩) hbb6).trans HPL.out.2.2.1⟩)
        go_region_held3 (fun W' => W'.cell? ⟨w.heap.size, 2, none⟩ = some (.slice (some ⟨bb, ob, none⟩) m.length cb) ∧ W'.cell? ⟨w3.heap.size, 0, none⟩ = some (.int .i64 (a : Int)) ∧ W'.cell? ⟨w3.heap.size, 1, none⟩ = some (.int .i64 (b : Int)) ∧ W'.cell? ⟨bb, ob + a * 2, none⟩ = some (.int .i64 P1) ∧ W'.cell? ⟨bb, ob + b * 2, none⟩ = some (.int .i64 Q1))
          (first | exact K1.out | fail)
          (fail)
        go_wp2_with fail
        have HDD := Lib.hid (show Below w6.heap.size w6 w6.drew.drew from (Below.refl _ _).drew.drew)
        have K2 := Lib.hid (show w6.drew.drew.cell? ⟨w.heap.size, 2, none⟩ = some (.slice (some ⟨bb, ob, none⟩) m.length cb) ∧ w6.drew.drew.cell? ⟨w3.heap.size, 0, none⟩ = some (.int .i64 (a : Int)) ∧ w6.drew.drew.cell? ⟨w3.heap.size, 1, none⟩ = some (.int .i64 (b : Int)) ∧ w6.drew.drew.cell? ⟨bb, ob + a * 2 + 1, none⟩ = some (.int .i64 P2) ∧ w6.drew.drew.cell? ⟨bb, ob + b * 2 + 1, none⟩ = some (.int .i64 Q2) from ⟨(HF6.out.below HDD.out).x.2.2.2, (HX6.out.kept HDD.out).2.1, (HX6.out.kept HDD.out).2.2, (HDD.out.cell (p := ⟨bb, ob + a * 2 + 1, none⟩) hbb6).trans HPL.out.2.1, (HDD.out.cell (p := ⟨bb, ob + b * 2 + 1, none⟩) hbb6).trans HPL.out.2.2.2⟩)
        go_region_held3 (fun W' => W'.cell? ⟨w.heap.size, 2, none⟩ = some (.slice (some ⟨bb, ob, none⟩) m.length cb) ∧ W'.cell? ⟨w3.heap.size, 0, none⟩ = some (.int .i64 (a : Int)) ∧ W'.cell? ⟨w3.heap.size, 1, none⟩ = some (.int .i64 (b : Int)) ∧ W'.cell? ⟨bb, ob + a * 2 + 1, none⟩ = some (.int .i64 P2) ∧ W'.cell? ⟨bb, ob + b * 2 + 1, none⟩ = some (.int .i64 Q2))
          (first | exact K2.out | fail)
          (fail)
        have HF8 := Lib.hid (HF6.out.below HDD.out)
        have HX8 := Lib.hid (HX6.out.kept HDD.out)
        have HB8 := Lib.hid (below_on HB6.out HDD.out HB6.out.size)
        have HL8 := Lib.hid (HFL.out.within (within_of HDD.out) (.inr (Nat.zero_le _)))
        clear K1 K2 HDR HDD HPL HX6 HF6 HFL HB6
        generalize w6.drew.drew = w8 at *
        obtain ⟨dx, hdx⟩ : ∃ dx, P1 - Q1 = dx := ⟨_, rfl⟩
        obtain ⟨dy, hdy⟩ : ∃ dy, P2 - Q2 = dy := ⟨_, rfl⟩
        rw [hdx, hdy] at HNX
        have hdx4 : -4 ≤ dx ∧ dx ≤ 4 := by omega
        have hdy4 : -4 ≤ dy ∧ dy ≤ 4 := by omega
        rw [show IntKind.i64.wrap (P1 - Q1) = dx from (IntWalk.i64_in _ (by omega)).trans hdx, show IntKind.i64.wrap (P2 - Q2) = dy from (IntWalk.i64_in _ (by omega)).trans hdy]
        clear hdx hdy o1 o2 o3 o4 n1 n2 n3 n4
        obtain ⟨g, hg⟩ : ∃ g, w3.heap.size + 1 = g := ⟨_, rfl⟩
        have HGE := Lib.hid hg
        rw [hg] at HL8 ⊢
        have hbg : w3.heap.size < g := by omega
        clear hg
        obtain ⟨_, y0, y1⟩ := HX8.out
        have s1 := flat_put HL8.out (t := ka) (by omega) dx
        have s2 := flat_put s1.1 (t := ka + 1) (by omega) dy
        have s3 := flat_put s2.1 (t := kb) (by omega) (-dx)
        have s4 := flat_put s3.1 (t := kb + 1) (by omega) (-dy)
        have X1 := HX8.out.within s1.2 (.inl hbg)
        have X2 := X1.within s2.2 (.inl hbg)
        have X3 := X2.within s3.2 (.inl hbg)
        obtain ⟨_, y2, y3⟩ := X1
        obtain ⟨_, y4, y5⟩ := X2
        obtain ⟨_, y6, y7⟩ := X3
        obtain ⟨v1, q1⟩ : ∃ v, _ = some (Value.int .i64 v) := ⟨_, HL8.out.cell (i := ka) (by omega)⟩
        obtain ⟨v2, q2⟩ : ∃ v, _ = some (Value.int .i64 v) := ⟨_, s1.1.cell (i := ka + 1) (by omega)⟩
        obtain ⟨v3, q3⟩ : ∃ v, _ = some (Value.int .i64 v) := ⟨_, s2.1.cell (i := kb) (by omega)⟩
        obtain ⟨v4, q4⟩ : ∃ v, _ = some (Value.int .i64 v) := ⟨_, s3.1.cell (i := kb + 1) (by omega)⟩
        have hwa : IntKind.i64.wrap (2 * (a : Int)) = (ka : Int) := by rw [H2A.out]; exact IntWalk.i64_in _ (by omega)
        have hwb : IntKind.i64.wrap (2 * (b : Int)) = (kb : Int) := by rw [H2B.out]; exact IntWalk.i64_in _ (by omega)
        have hka0 : (ka : Int) < (n : Int) := by omega
        have hka1 : (ka : Int) + 1 < (n : Int) := by omega
        have hkb0 : (kb : Int) < (n : Int) := by omega
        have hkb1 : (kb : Int) + 1 < (n : Int) := by omega
        clear hai hbi hbn hab
        have z1 := World.ownsRow.frozenAt HL8.out ka
        have z2 := World.ownsRow.frozenAt s1.1 (ka + 1)
        have z3 := World.ownsRow.frozenAt s2.1 kb
        have z4 := World.ownsRow.frozenAt s3.1 (kb + 1)
        have HL12 := Lib.hid s4.1
        have HW12 := Lib.hid (((s1.2.trans s2.2).trans s3.2).trans s4.2)
        clear s1 s2 s3 s4
        have HBW := Lib.hid (show Below (w3.heap.size + 1) (w3.alloc (.cells #[.int .i64 (a : Int), .int .i64 (b : Int)] 108)) _ from within_on (HB8.out.mono (by rw [HS4.out]; exact Nat.le_refl _)) HW12.out (by have := HB8.out.size; omega) (.inl (by have := HGE.out; omega)))
        have HF12 := Lib.hid (HF4.out.below (HBW.out.mono (by rw [HS4.out]; exact Nat.le_refl _)))
        have HRG12 := Lib.hid (HRG4.out.below (HBW.out.mono (by rw [HS4.out]; exact Nat.le_refl _)))
        have HEQ := Lib.hid (HL12.out.congr (f' := rigF dx dy a b) fun j hj => by
          have h1 := HKA.out
          have h2 := HKB.out
          unfold rigF
          by_cases e1 : j = kb + 1
          · rw [if_pos e1, if_neg (by omega), if_neg (by omega), if_neg (by omega), if_pos (by omega)]
          · rw [if_neg e1]
            by_cases e2 : j = kb
            · rw [if_pos e2, if_neg (by omega), if_neg (by omega), if_pos (by omega)]
            · rw [if_neg e2]
              by_cases e3 : j = ka + 1
              · rw [if_pos e3, if_neg (by omega), if_pos (by omega)]
              · rw [if_neg e3]
                by_cases e4 : j = ka
                · rw [if_pos e4, if_pos (by omega)]
                · rw [if_neg e4, if_neg (by omega), if_neg (by omega), if_neg (by omega), if_neg (by omega)])
        have HOX := Lib.hid (own_ints' (zs := rowF n (rigF dx dy a b)) (A := some ⟨g, 0, none⟩) (cap := n) (base := g) (by rw [rowF_len]; exact HEQ.out))
        obtain ⟨zs, r, S', z1, z2, z3, z4⟩ := HRG12.out.rows
        rw [rigK_len p l m k hk] at z1
        have HZ1 := Lib.hid z1
        have HZ2 := Lib.hid z2
        have HZ3 := Lib.hid (show RowsP _ (w.heap.size + 1) T lo2 hi2 zs (rigK p l m k) from ⟨r, S', z3, z4⟩)
        have HLO := Lib.hid (show lo2 ≤ _ from Nat.le_trans HRG12.out.out.2.1 HRG12.out.top)
        have HOB := Lib.hid (HRG12.out.out.1)
        have HTOP := Lib.hid (show T ≤ g from by have := HRG3.out.top; have := HGE.out; omega)
        clear z1 z2 z3 z4
        go_wp2_with (at_builtin; refine wpList_pushS _ rfl _ _ rfl lo2 hi2 A2 c2 zs (.slice (some ⟨g, 0, none⟩) n n) rfl (by rw [HZ1.out]; rfl) HZ2.out _ (by first | rfl | (simp only [World.size_setCell]; rfl)) (by have := HZ1.out; omega) HLO.out ?_; intro A7 c7 w7 lo7 hi7 ho7 hd7 hw7; have HO7 := Lib.hid ho7; have HD7 := Lib.hid hd7; have HW7 := Lib.hid hw7; clear ho7 hd7 hw7)
        have HRG7 := Lib.hid (HRG12.out.push (q := (g, _)) HOX.out HTOP.out (HZ1.out.trans (rigK_len p l m k hk).symm) HZ3.out (by rw [rowF_len]; exact HO7.out) HD7.out HW7.out)
        go_roundw
        case rel => exact ⟨k + 1, _, _, _, _, _, by omega, by go_num, by rw [HZ1.out], by rw [HNX.out]; exact HRG7.out, HF12.out.on HW7.out HOB.out hhi⟩
        case measure => simp [intOf]; omega
      · obtain rfl : k = l.length := by omega
        go_wp2_with fail
        go_ret
        have ht := HRG.out.top
        refine ⟨A2, c2, ?_, ?_, HF.out.b⟩
        · rw [HS.out, rigK_len p l m _ (Nat.le_refl _)]; rfl
        · rw [HS.out]
          exact rowsIn_widen HRG.out.cells.reads (Nat.le_succ _) ht (Nat.le_refl _)
  · have hgf : isFB p l m = false := by simpa using hg
    rw [hgf] at HC
    have HS := Lib.hid (rigV_no hgf)
    clear hg hgf
    go_loopw [3, 4] (fun o i wr => i = .int .i64 0 ∧ (∃ A' c', o = .slice A' 0 c') ∧ FbI w wr lo hi p A ca l B cb m) (fun _ _ _ => 0)
    case atStart => exact ⟨rfl, ⟨_, _, rfl⟩, HF.out⟩
    case round =>
      clear HF HG0
      obtain ⟨rfl, ⟨A2, c2, rfl⟩, hf⟩ := hrel
      have HF := Lib.hid hf
      clear hf
      obtain ⟨_, x0, x1, x2⟩ := HF.out.x
      by_cases h0 : 0 < l.length
      · go_wp2_with fail
        refine (HC.out _ HF.out.f).mono ?_
        rintro e w3 ⟨rfl, hb⟩
        have HF3 := Lib.hid (HF.out.below hb)
        clear hb
        go_wp2_with fail
        go_ret
        exact ⟨A2, c2, by rw [HS.out]; rfl, by rw [HS.out]; exact ⟨Nat.le_refl _, fun h => absurd h (by simp)⟩, HF3.out.b⟩
      · go_wp2_with fail
        go_ret
        exact ⟨A2, c2, by rw [HS.out]; rfl, by rw [HS.out]; exact ⟨Nat.le_refl _, fun h => absurd h (by simp)⟩, HF.out.b⟩
end Go.Proofs.Ytdkpmaahinbhlaa
/- What the program's IsFramework answers: the same as the specification's. No condition. -/
namespace Go.Proofs.Ytdkpmaahinbhlaa
open Go.RowKit
attribute [local go_sem ↓] eqlBar eqlPl eqlOff guardBar guardPl

theorem guardOff (op : BinOp) (a b : Operand) (x y u v : Int) (w : World) : (eqGuard op 202 a b (.agg #[.int .i64 x, .int .i64 y]) (.agg #[.int .i64 u, .int .i64 v])).run Try.prog w = .ok () w :=
  run_eqGuard_agg w op 202 a b _ _ (by kernel_rfl)
attribute [local go_sem ↓] guardOff

/-- Two equal bars lie side by side. -/
def Twice (l : List (Int × Int)) : Prop := ∃ i, 0 < i ∧ i < l.length ∧ l.getD (i - 1) (0, 0) = l.getD i (0, 0)
open Classical in
noncomputable def twB (l : List (Int × Int)) : Bool := if Twice l then true else false
theorem twB_yes {l : List (Int × Int)} (h : Twice l) : twB l = true := by unfold twB; rw [if_pos h]
theorem twB_no {l : List (Int × Int)} (h : ¬ Twice l) : twB l = false := by unfold twB; rw [if_neg h]

set_option maxHeartbeats 2000000 in
set_option maxRecDepth 100000 in
theorem twice_c (p : Int) (l : List (Int × Int)) (A : Option Addr) (cap : Nat) (w : World) (hl : BarsAt w w.heap.size A l) (hn : l.length ≤ 1048576) :
    Calls Try.prog 215 #[.agg #[.int .i64 p, .slice A l.length cap]] w fun e w' => e = .returned (.bool (twB l)) ∧ Below w.heap.size w w' := by
  have hA := new_below w (.cells #[.int .i64 p, .slice A l.length cap] 26)
  have HA := Lib.hid hA
  have HX := Lib.hid (box_new w p (.slice A l.length cap) 26)
  have HL := Lib.hid (bars_in (hl.on hA))
  clear hl hA
  go_enter Try.func215, Try.ntmps215
  go_wp2_with fail
  generalize (w.alloc (.cells #[.int .i64 p, .slice A l.length cap] 26)) = w1 at *
  go_loopw [3] (fun i wr => ∃ k : Nat, 1 ≤ k ∧ (k ≤ l.length ∨ k = 1) ∧ i = .int .i64 k ∧ (∀ j, 0 < j → j < k → j < l.length → l.getD (j - 1) (0, 0) ≠ l.getD j (0, 0)) ∧ Below w.heap.size w wr ∧ Box wr w.heap.size p (.slice A l.length cap) ∧ BarsIn wr 0 w1.heap.size A l) (fun i _ => l.length - (intOf i).toNat)
  case atStart => exact ⟨1, by omega, .inr rfl, rfl, fun j h0 h1 _ => absurd h1 (by omega), HA.out, HX.out, HL.out⟩
  case round =>
    clear HA HX HL
    obtain ⟨k, h1, hk, rfl, hall, hb, hx, hl⟩ := hrel
    have HALL := Lib.hid hall
    have HB := Lib.hid hb
    have HX := Lib.hid hx
    have HL := Lib.hid hl
    clear hall hb hx hl
    obtain ⟨_, x0, x1⟩ := HX.out
    by_cases hlt : k < l.length
    · have hi : (k : Int) < (l.length : Int) := by omega
      obtain ⟨b, off, rfl, _, hbB, hcell⟩ := HL.out.2 (by omega)
      obtain ⟨hc1, hc2⟩ := hcell k hlt
      obtain ⟨hz1, hz2⟩ := hcell (k - 1) (by omega)
      clear hcell
      have HQ := Lib.hid (show l.getD (k - 1) (0, 0) = l.getD k (0, 0) → twB l = true from fun h => twB_yes ⟨k, by omega, hlt, h⟩)
      have HS := Lib.hid (show l.getD (k - 1) (0, 0) ≠ l.getD k (0, 0) → ∀ j, 0 < j → j < k + 1 → j < l.length → l.getD (j - 1) (0, 0) ≠ l.getD j (0, 0) from fun h j h0 hj hjl => by
        by_cases e : j = k
        · subst e; exact h
        · exact HALL.out j h0 (by omega) hjl)
      obtain ⟨x, hx⟩ : ∃ x, l.getD k (0, 0) = x := ⟨_, rfl⟩
      obtain ⟨z, hz⟩ : ∃ z, l.getD (k - 1) (0, 0) = z := ⟨_, rfl⟩
      rw [hx] at hc1 hc2 HQ HS
      rw [hz] at hz1 hz2 HQ HS
      clear hx hz HALL hk
      have htn : ((k : Int) - 1).toNat = k - 1 := by omega
      have hwr : IntKind.i64.wrap ((k : Int) - 1) = (k : Int) - 1 := IntWalk.i64_in _ (by omega)
      have hk1 : 0 ≤ (k : Int) - 1 := by omega
      have hk3 : (1 : Int) ≤ (k : Int) := by omega
      have hk2 : (k : Int) - 1 < (l.length : Int) := by omega
      by_cases he : x = z
      · have hne := neB_no he
        have HQQ := Lib.hid (HQ.out he.symm)
        clear HQ HS he
        obtain ⟨x, x'⟩ := x
        obtain ⟨z, z'⟩ := z
        go_wp2_with fail
        go_quiet (fail)
        go_wp2_with fail
        go_ret
        exact ⟨by rw [HQQ.out]; rfl, HB.out.trans (below_drewN _ _ _)⟩
      · have hne := neB_yes he
        have HSS := Lib.hid (HS.out fun h => he h.symm)
        clear HQ HS he
        obtain ⟨x, x'⟩ := x
        obtain ⟨z, z'⟩ := z
        go_wp2_with fail
        go_quiet (fail)
        go_wp2_with fail
        go_roundw
        case rel => exact ⟨k + 1, by omega, .inl (by omega), by go_num, HSS.out, HB.out.trans (below_drewN _ _ _), HX.out.kept (below_drewN _ _ _), HL.out.within (within_of (below_drewN _ _ _)) (.inr (Nat.zero_le _))⟩
        case measure => simp [intOf]; omega
    · have HQ := Lib.hid (twB_no (l := l) fun ⟨i, h0, hi, e⟩ => HALL.out i h0 (by omega) hi e)
      clear hk
      go_wp2_with fail
      go_ret
      exact ⟨by rw [HQ.out]; rfl, HB.out⟩

set_option maxHeartbeats 2000000 in
set_option maxRecDepth 100000 in
/-- The way between the ends of a bar of which both are joints of the grid. -/
theorem offOf_c (p : Int) (l m : List (Int × Int)) (A : Option Addr) (ca : Nat) (B : Option Addr) (cb : Nat) (lo hi : Nat) (a b : Nat) (w : World) (hl : FwIn w lo hi A l B m) (ha : a < m.length) (hb : b < m.length) (hga : OnG (m.getD a (0, 0))) (hgb : OnG (m.getD b (0, 0))) :
    Calls Try.prog 217 #[.agg #[.int .i64 p, .slice A l.length ca, .slice B m.length cb], .agg #[.int .i64 (a : Int), .int .i64 (b : Int)]] w fun e w' => e = .returned (.agg #[.int .i64 ((m.getD a (0, 0)).1 - (m.getD b (0, 0)).1), .int .i64 ((m.getD a (0, 0)).2 - (m.getD b (0, 0)).2)]) ∧ Below w.heap.size w w' := by
  have hf := FbI.new (p := p) (ca := ca) (cb := cb) hl 97
  have hs1 : (w.alloc (.cells #[.int .i64 p, .slice A l.length ca, .slice B m.length cb] 97)).heap.size = w.heap.size + 1 := by simp
  clear hl
  obtain ⟨P, hP⟩ : ∃ P, m.getD a (0, 0) = P := ⟨_, rfl⟩
  obtain ⟨Q, hQ⟩ : ∃ Q, m.getD b (0, 0) = Q := ⟨_, rfl⟩
  rw [hP] at hga ⊢
  rw [hQ] at hgb ⊢
  have HP := Lib.hid hP
  have HQ := Lib.hid hQ
  clear hP hQ
  obtain ⟨P1, P2⟩ := P
  obtain ⟨Q1, Q2⟩ := Q
  go_enter Try.func217, Try.ntmps217
  go_wp2_with fail
  generalize (w.alloc (.cells #[.int .i64 p, .slice A l.length ca, .slice B m.length cb] 97)) = w1 at *
  have hy := new_below w1 (.cells #[.int .i64 (a : Int), .int .i64 (b : Int)] 108)
  have hY := box_new w1 (a : Int) (.int .i64 (b : Int)) 108
  have hs2 : (w1.alloc (.cells #[.int .i64 (a : Int), .int .i64 (b : Int)] 108)).heap.size = w1.heap.size + 1 := by simp
  generalize (w1.alloc (.cells #[.int .i64 (a : Int), .int .i64 (b : Int)] 108)) = w2 at *
  have hz := new_below w2 (.cells #[.int .i64 0, .int .i64 0] 202)
  have hZ := box_new w2 0 (.int .i64 0) 202
  have hF : (w2.alloc (.cells #[.int .i64 0, .int .i64 0] 202)).frozen? ⟨w2.heap.size, 0, none⟩ = false ∧ (w2.alloc (.cells #[.int .i64 0, .int .i64 0] 202)).frozen? ⟨w2.heap.size, 1, none⟩ = false := ⟨World.frozen?_alloc_at _ _ _ _ rfl, World.frozen?_alloc_at _ _ _ _ rfl⟩
  generalize (w2.alloc (.cells #[.int .i64 0, .int .i64 0] 202)) = w3 at *
  have hY3 := hY.kept hz
  have hf3 := (hf.below hy).below hz
  rw [hs2, hs1] at hZ hF
  rw [hs1] at hY3
  have hdr : Below w3.heap.size w3 w3.drew := (Below.refl _ _).drew
  obtain ⟨blk, off, rfl, hblk, hcell⟩ := hf3.place ha
  obtain ⟨p1, p2⟩ := hcell a ha
  obtain ⟨q1, q2⟩ := hcell b hb
  have hai : (a : Int) < (m.length : Int) := by omega
  have hbi : (b : Int) < (m.length : Int) := by omega
  obtain ⟨_, x0, x1, x2⟩ := hf3.x
  obtain ⟨_, y0, y1⟩ := hY3
  have HFD := Lib.hid (hf3.below hdr)
  have HZD := Lib.hid (hZ.kept hdr)
  have HFR := Lib.hid (show w3.drew.frozen? ⟨w.heap.size + 1 + 1, 0, none⟩ = false ∧ w3.drew.frozen? ⟨w.heap.size + 1 + 1, 1, none⟩ = false from hF)
  clear hf hf3 hy hz hY hZ hF hdr hcell hs1 hs2
  rw [HP.out] at p1 p2
  rw [HQ.out] at q1 q2
  go_still_tail 12, (by kernel_rfl)
  change wpList _ _ _ _ _ w3.drew
  go_wp2_with fail
  refine (minus_c (P1, P2) (Q1, Q2) _ hga hgb).mono ?_
  rintro e w4 ⟨rfl, hb4⟩
  obtain ⟨_, z0, z1⟩ := HZD.out.kept hb4
  have f0 := (hb4.frozen (p := ⟨w.heap.size + 1 + 1, 0, none⟩) HZD.out.1).trans HFR.out.1
  have f1 := (hb4.frozen (p := ⟨w.heap.size + 1 + 1, 1, none⟩) HZD.out.1).trans HFR.out.2
  have HB4 := Lib.hid (HFD.out.below hb4).b
  have HZZ := Lib.hid (And.intro z0 z1)
  clear hb4
  go_wp2_with fail
  obtain ⟨s0, s1⟩ := ret_cells (p := P1 - Q1) (v := .int .i64 (P2 - Q2)) HZZ.out.1 HZZ.out.2
  have hW := (within_set w4 (w.heap.size + 1 + 1) 0 (.int .i64 (P1 - Q1))).trans (within_set _ (w.heap.size + 1 + 1) 1 (.int .i64 (P2 - Q2)))
  refine bodyPost_ret (v := .agg #[.int .i64 (P1 - Q1), .int .i64 (P2 - Q2)]) ?_ rfl ⟨rfl, within_on HB4.out hW HB4.out.size (.inl (by omega))⟩
  simp [results, Try.results217, go_sem, s0, s1]

/-- What the program's walk over a framework carries: the framework's box and its graph's. -/
structure FcI (w wr : World) (lo hi : Nat) (p : Int) (A : Option Addr) (ca : Nat) (l : List (Int × Int)) (B : Option Addr) (cb : Nat) (m : List (Int × Int)) : Prop where
  f : FbI w wr lo hi p A ca l B cb m
  g : Box wr (w.heap.size + 1) p (.slice A l.length ca)
theorem FcI.below {w a b : World} {lo hi : Nat} {p : Int} {A B : Option Addr} {ca cb : Nat} {l m : List (Int × Int)} (h : FcI w a lo hi p A ca l B cb m) (hb : Below a.heap.size a b) : FcI w b lo hi p A ca l B cb m :=
  ⟨h.f.below hb, h.g.kept hb⟩

set_option maxHeartbeats 4000000 in
set_option maxRecDepth 100000 in
theorem implIsF (p : Int) (l m : List (Int × Int)) (A : Option Addr) (ca : Nat) (B : Option Addr) (cb : Nat) (lo hi : Nat) (w : World) (hl : FwIn w lo hi A l B m) (hn : l.length + m.length ≤ 1048576) :
    Calls Try.prog 175 #[.agg #[.int .i64 p, .slice A l.length ca, .slice B m.length cb]] w fun e w' => e = .returned (.bool (isFB p l m)) ∧ Below w.heap.size w w' := by
  have hf := FbI.new (p := p) (ca := ca) (cb := cb) hl 97
  have hs1 : (w.alloc (.cells #[.int .i64 p, .slice A l.length ca, .slice B m.length cb] 97)).heap.size = w.heap.size + 1 := by simp
  have hy := new_below (w.alloc (.cells #[.int .i64 p, .slice A l.length ca, .slice B m.length cb] 97)) (.cells #[.int .i64 p, .slice A l.length ca] 26)
  have hY := box_new (w.alloc (.cells #[.int .i64 p, .slice A l.length ca, .slice B m.length cb] 97)) p (.slice A l.length ca) 26
  rw [hs1] at hY
  have HF := Lib.hid (show FcI w _ lo hi p A ca l B cb m from ⟨hf.below hy, hY⟩)
  clear hl hf hy hY hs1
  have HC := Lib.hid fun (W : World) (h : BarsAt W W.heap.size A l) => implIsGraph p l A ca W h (by omega)
  have HT := Lib.hid fun (W : World) (h : BarsAt W W.heap.size A l) => twice_c p l A ca W h (by omega)
  go_enter Try.func175, Try.ntmps175
  go_wp2_with fail
  generalize ((w.alloc (.cells #[.int .i64 p, .slice A l.length ca, .slice B m.length cb] 97)).alloc (.cells #[.int .i64 p, .slice A l.length ca] 26)) = w1 at *
  by_cases hg : isGB p l = true
  · have hgg : IsG p l := Classical.byContradiction fun h => by rw [isGB_no h] at hg; cases hg
    have HGG := Lib.hid hgg
    have hp1 := hgg.1.1
    have hp8 := hgg.1.2
    rw [hg] at HC
    clear hgg hg
    refine (HC.out _ HF.out.f.f.b.at).mono ?_
    rintro e w2 ⟨rfl, hb⟩
    have HF2 := Lib.hid (HF.out.below hb)
    obtain ⟨_, x0, x1⟩ := HF2.out.g
    clear hb HF HC
    by_cases h6 : p ≤ 6
    · by_cases h15 : l.length ≤ 15
      · go_wp2_with fail
        clear x0 x1
        by_cases ht : Twice l
        · have HQ := Lib.hid (isFB_no (p := p) (l := l) (m := m) fun h => by
            obtain ⟨i, h0, hi, e⟩ := ht
            exact (h.ok i hi).2 h0 e)
          rw [twB_yes ht] at HT
          clear ht
          refine (HT.out _ HF2.out.f.f.b.at).mono ?_
          rintro e w3 ⟨rfl, hb⟩
          have HF3 := Lib.hid (HF2.out.below hb)
          clear hb
          go_wp2_with fail
          go_ret
          exact ⟨by rw [HQ.out]; rfl, HF3.out.f.b⟩
        · have HTW := Lib.hid ht
          rw [twB_no ht] at HT
          clear ht
          refine (HT.out _ HF2.out.f.f.b.at).mono ?_
          rintro e w3 ⟨rfl, hb⟩
          have HF3 := Lib.hid (HF2.out.below hb)
          obtain ⟨_, x0, x1, x2⟩ := HF3.out.f.x
          obtain ⟨_, y0, y1⟩ := HF3.out.g
          clear hb HF2 HT
          by_cases hm : (m.length : Int) = p
          · have hmp : ((m.length : Int) != p) = false := by simpa using hm
            have HM := Lib.hid hm
            have hm6 : m.length ≤ 6 := by omega
            clear hm
            go_wp2_with fail
            clear x0 x1 x2 y0 y1
            go_loopw [37] (fun i wr => ∃ k : Nat, k ≤ m.length ∧ i = .int .i64 k ∧ (∀ j, j < k → OnG (m.getD j (0, 0))) ∧ FcI w wr lo hi p A ca l B cb m) (fun i _ => m.length - (intOf i).toNat)
            case atStart => exact ⟨0, by omega, rfl, fun j hj => absurd hj (by omega), HF3.out⟩
            case round =>
              clear HF3
              obtain ⟨k, hk, rfl, hok, hf⟩ := hrel
              have HK := Lib.hid hok
              have HF := Lib.hid hf
              clear hok hf
              by_cases hlt : k < m.length
              · have hi : (k : Int) < (m.length : Int) := by omega
                obtain ⟨b, off, rfl, hbB, hcell⟩ := HF.out.f.place hlt
                obtain ⟨hc1, hc2⟩ := hcell k hlt
                clear hcell
                have HS := Lib.hid (show OnG (m.getD k (0, 0)) → ∀ j, j < k + 1 → OnG (m.getD j (0, 0)) from fun h j hj => by
                  by_cases e : j = k
                  · subst e; exact h
                  · exact HK.out j (by omega))
                have HQ := Lib.hid (show ¬ OnG (m.getD k (0, 0)) → isFB p l m = false from fun h => isFB_no fun hF => h (hF.grid k hlt))
                obtain ⟨x, hx⟩ : ∃ x, m.getD k (0, 0) = x := ⟨_, rfl⟩
                rw [hx] at hc1 hc2 HS HQ
                clear hx HK
                go_wp2_with fail
                have hal := new_below wr (.cells #[.int .i64 x.1, .int .i64 x.2] 167)
                have HF1 := Lib.hid (HF.out.below hal)
                clear hal hc1 hc2
                generalize (wr.alloc (.cells #[.int .i64 x.1, .int .i64 x.2] 167)) = w4 at *
                by_cases ho : OnG x
                · have HO := Lib.hid (HS.out ho)
                  have hoc := onGrid_c x w4
                  rw [decide_eq_true ho] at hoc
                  clear ho HS HQ
                  refine hoc.mono ?_
                  clear hoc
                  rintro e w5 ⟨rfl, hb⟩
                  have HF5 := Lib.hid (HF1.out.below hb)
                  clear hb
                  go_wp2_with fail
                  go_roundw
                  case rel => exact ⟨k + 1, by omega, by go_num, HO.out, HF5.out⟩
                  case measure => simp [intOf]; omega
                · have HQQ := Lib.hid (HQ.out ho)
                  have hoc := onGrid_c x w4
                  rw [decide_eq_false ho] at hoc
                  clear ho HS HQ
                  refine hoc.mono ?_
                  clear hoc
                  rintro e w5 ⟨rfl, hb⟩
                  have HF5 := Lib.hid (HF1.out.below hb)
                  clear hb
                  go_wp2_with fail
                  go_ret
                  exact ⟨by rw [HQQ.out]; rfl, HF5.out.f.b⟩
              · obtain rfl : k = m.length := by omega
                have HGR := Lib.hid HK.out
                obtain ⟨_, y0, y1⟩ := HF.out.g
                clear HK
                go_wp2_with fail
                clear y0 y1
                go_loopw [48] (fun i wr => ∃ k : Nat, k ≤ l.length ∧ i = .int .i64 k ∧ (∀ j, j < k → plc m (l.getD j (0, 0)).1 ≠ plc m (l.getD j (0, 0)).2) ∧ FcI w wr lo hi p A ca l B cb m) (fun i _ => l.length - (intOf i).toNat)
                case atStart => exact ⟨0, by omega, rfl, fun j hj => absurd hj (by omega), HF.out⟩
                case round =>
                  clear HF
                  obtain ⟨k, hk, rfl, hok, hf⟩ := hrel
                  have HK := Lib.hid hok
                  have HF := Lib.hid hf
                  clear hok hf
                  by_cases hlt : k < l.length
                  · have hki : (k : Int) < (l.length : Int) := by omega
                    obtain ⟨ba, oa, rfl, hba, hca⟩ := HF.out.f.bar hlt
                    have hend := HGG.out.2.2 k hlt
                    have HS := Lib.hid (show plc m (l.getD k (0, 0)).1 ≠ plc m (l.getD k (0, 0)).2 → ∀ j, j < k + 1 → plc m (l.getD j (0, 0)).1 ≠ plc m (l.getD j (0, 0)).2 from fun h j hj => by
                      by_cases e : j = k
                      · subst e; exact h
                      · exact HK.out j (by omega))
                    have HQ := Lib.hid (show plc m (l.getD k (0, 0)).1 = plc m (l.getD k (0, 0)).2 → isFB p l m = false from fun h => isFB_no fun hF => (hF.ok k hlt).1 h)
                    unfold plc at HS HQ
                    obtain ⟨hb1, hb2⟩ := hca k hlt
                    obtain ⟨e1, e2, e3, _⟩ := hend
                    obtain ⟨x, hx⟩ : ∃ x, l.getD k (0, 0) = x := ⟨_, rfl⟩
                    rw [hx] at hb1 hb2 e1 e2 e3 HS HQ
                    clear hx hca HK
                    obtain ⟨xa, xb⟩ := x
                    obtain ⟨a, rfl⟩ : ∃ a : Nat, xa = a := ⟨xa.toNat, by simp only at e1; omega⟩
                    obtain ⟨b, rfl⟩ : ∃ b : Nat, xb = b := ⟨xb.toNat, by simp only at e1 e2; omega⟩
                    simp only [Int.toNat_natCast] at e1 e2 e3 hb1 hb2 HS HQ
                    have ha : a < m.length := by have := HM.out; omega
                    have hb' : b < m.length := by have := HM.out; omega
                    have hga := HGR.out a ha
                    have hgb := HGR.out b hb'
                    have HOF := Lib.hid fun (W : World) (h : FwIn W lo hi (some ⟨ba, oa, none⟩) l B m) => offOf_c p l m (some ⟨ba, oa, none⟩) ca B cb lo hi a b W h ha hb' hga hgb
                    clear hga hgb ha hb' e1 e2 e3
                    obtain ⟨P, hP⟩ : ∃ P, m.getD a (0, 0) = P := ⟨_, rfl⟩
                    obtain ⟨Q, hQ⟩ : ∃ Q, m.getD b (0, 0) = Q := ⟨_, rfl⟩
                    rw [hP, hQ] at HS HQ HOF
                    clear hP hQ
                    obtain ⟨_, x0, x1, x2⟩ := HF.out.f.x
                    go_wp2_with fail
                    clear x0 x1 x2 hb1 hb2
                    have hal := new_below wr (.cells #[.int .i64 (a : Int), .int .i64 (b : Int)] 108)
                    have HF1 := Lib.hid (HF.out.below hal)
                    clear hal HF
                    generalize (wr.alloc (.cells #[.int .i64 (a : Int), .int .i64 (b : Int)] 108)) = w4 at *
                    refine (HOF.out _ HF1.out.f.f).mono ?_
                    rintro e w5 ⟨rfl, hb⟩
                    have HF5 := Lib.hid (HF1.out.below hb)
                    clear hb HF1 HOF
                    obtain ⟨P1, P2⟩ := P
                    obtain ⟨Q1, Q2⟩ := Q
                    by_cases he : ((P1, P2) : Int × Int) = (Q1, Q2)
                    · have HQQ := Lib.hid (HQ.out he)
                      have hne : neB (P1 - Q1) (P2 - Q2) 0 0 = false := by
                        have h1 := congrArg Prod.fst he
                        have h2 := congrArg Prod.snd he
                        simp only at h1 h2
                        exact neB_no (a := (P1 - Q1, P2 - Q2)) (b := (0, 0)) (by rw [Prod.mk.injEq]; omega)
                      clear he HS HQ
                      go_wp2_with fail
                      go_ret
                      exact ⟨by rw [HQQ.out]; rfl, HF5.out.f.b⟩
                    · have HSS := Lib.hid (HS.out he)
                      have hne : neB (P1 - Q1) (P2 - Q2) 0 0 = true :=
                        neB_yes (a := (P1 - Q1, P2 - Q2)) (b := (0, 0)) (by
                          intro h
                          apply he
                          rw [Prod.mk.injEq] at h ⊢
                          omega)
                      clear he HS HQ
                      go_wp2_with fail
                      go_roundw
                      case rel => exact ⟨k + 1, by omega, by go_num, HSS.out, HF5.out⟩
                      case measure => simp [intOf]; omega
                  · obtain rfl : k = l.length := by omega
                    have HQ := Lib.hid (isFB_yes (p := p) (l := l) (m := m) ⟨HGG.out, h6, HM.out, h15, HGR.out, fun i hi => ⟨HK.out i hi, fun h0 e => HTW.out ⟨i, h0, hi, e⟩⟩⟩)
                    go_wp2_with fail
                    go_ret
                    exact ⟨by rw [HQ.out]; rfl, HF.out.f.b⟩
          · have hmp : ((m.length : Int) != p) = true := by simpa using hm
            have HQ := Lib.hid (isFB_no (p := p) (l := l) (m := m) fun h => hm h.len)
            clear hm
            go_wp2_with fail
            go_ret
            exact ⟨by rw [HQ.out]; rfl, HF3.out.f.b⟩
      · have h15' : (15 : Int) < (l.length : Int) := by omega
        have HQ := Lib.hid (isFB_no (p := p) (l := l) (m := m) fun h => h15 h.bars)
        go_wp2_with fail
        go_ret
        exact ⟨by rw [HQ.out]; rfl, HF2.out.f.b⟩
    · have h6' : 6 < p := by omega
      have HQ := Lib.hid (isFB_no (p := p) (l := l) (m := m) fun h => h6 h.six)
      go_wp2_with fail
      go_ret
      exact ⟨by rw [HQ.out]; rfl, HF2.out.f.b⟩
  · have hgf : isGB p l = false := by simpa using hg
    rw [hgf] at HC
    have HQ := Lib.hid (isFB_no (p := p) (l := l) (m := m) fun h => hg (isGB_yes h.g))
    clear hg
    refine (HC.out _ HF.out.f.f.b.at).mono ?_
    rintro e w2 ⟨rfl, hb⟩
    have HF2 := Lib.hid (HF.out.below hb)
    clear hb
    go_wp2_with fail
    go_ret
    exact ⟨by rw [HQ.out]; rfl, HF2.out.f.b⟩
end Go.Proofs.Ytdkpmaahinbhlaa
/- An answer of rows that is wholly the call's own: each row in a block of its own, or all side by side in one (laws.markIntSS). No condition. -/
namespace Go.Proofs.Ytdkpmaahinbhlaa
open Go.RowKit

def RowsX (W : World) (lo hi : Nat) (A : Option Addr) (rs : List (List Int)) : Prop :=
  RowsOwn W lo hi A rs ∨ ∃ gh g h n f, A = some ⟨gh, 0, none⟩ ∧ rs = rowsV h n id f ∧ h ≤ 1000 ∧ n ≤ 1000 ∧ RowsF W lo hi gh g h n id f
theorem RowsX.within {W W' : World} {lo hi lo' hi' : Nat} {A : Option Addr} {rs : List (List Int)} (h : RowsX W lo hi A rs) (hw : Within lo' hi' W W') (hd : hi ≤ lo' ∨ hi' ≤ lo) : RowsX W' lo hi A rs := by
  rcases h with h | ⟨gh, g, h1, n, f, e1, e2, e3, e4, r⟩
  · exact .inl (h.within hw hd)
  · exact .inr ⟨gh, g, h1, n, f, e1, e2, e3, e4, r.within hw hd⟩
theorem RowsX.reads {W : World} {lo hi : Nat} {A : Option Addr} {rs : List (List Int)} (h : RowsX W lo hi A rs) : RowsIn W lo hi A rs := by
  rcases h with h | ⟨gh, g, h1, n, f, rfl, rfl, e3, e4, r⟩
  · exact h.reads
  · exact r.reads
theorem rowsV_tot (h n : Nat) (p : Nat → Nat) (f : Nat → Int) : ∀ j, j ≤ h → tot (rowsV h n p f) j = j * n := by
  intro j
  induction j with
  | zero => intro _; simp [tot]
  | succ j ih =>
    intro hj
    rw [tot, ih (by omega), rowsV_get (by omega), rowF_len, Nat.add_mul, Nat.one_mul]
theorem rowsV_marks (k0 : Int) (h n : Nat) (f : Nat → Int) : marksR k0 (rowsV h n id f) = rowsV h n id (fun i => k0 + (i : Int)) := by
  unfold marksR
  rw [rowsV_len]
  apply List.map_congr_left
  intro j hj
  have hj' := List.mem_range.1 hj
  rw [rowsV_tot h n id f j (by omega), rowsV_get hj', rowF_len]
  unfold marksI rowF
  apply List.map_congr_left
  intro i _
  show k0 + ((j * n : Nat) : Int) + (i : Int) = k0 + ((id j * n + i : Nat) : Int)
  simp only [id]
  omega
theorem markRowsX_c (rs : List (List Int)) (A : Option Addr) (cap lo hi : Nat) (k0 : Int) (w : World) (h : RowsX w lo hi A rs) (hn : rs.length ≤ 1048576) (hr : ∀ k, k < rs.length → (rs.getD k []).length ≤ 1048576) (hk0 : 0 ≤ k0) (hk1 : k0 + (tot rs rs.length : Int) ≤ 10000000) :
    Calls Try.prog 93 #[.slice A rs.length cap, .int .i64 k0] w fun e w' => e = .returned (.int .i64 (k0 + (tot rs rs.length : Int))) ∧ Within lo hi w w' ∧ RowsX w' lo hi A (marksR k0 rs) := by
  rcases h with h | ⟨gh, g, h1, n, f, rfl, rfl, e3, e4, r⟩
  · refine (markRows_c rs A cap lo hi k0 w h hn hr hk0 hk1).mono ?_
    rintro e w1 ⟨rfl, q1, q2⟩
    exact ⟨rfl, q1, .inl q2⟩
  · rw [rowsV_len] at hk1 ⊢
    rw [rowsV_tot h1 n id f h1 (Nat.le_refl _)] at hk1 ⊢
    refine (markRowsF_c h1 n gh g lo hi cap f k0 w r e3 e4 hk0 hk1).mono ?_
    rintro e w1 ⟨rfl, q1, q2⟩
    exact ⟨rfl, q1, .inr ⟨gh, g, h1, n, _, rfl, rowsV_marks k0 h1 n f, e3, e4, q2⟩⟩
end Go.Proofs.Ytdkpmaahinbhlaa
/- What impl.RigidityMatrix answers: the generic function for rows, and the method that it is handed as a value. No condition. -/
namespace Go.Proofs.Ytdkpmaahinbhlaa
open Go.RowKit

/-- Numbers stored in the rows' block. -/
theorem RowsF.putR {W W' : World} {lo hi gh g h n : Nat} {p : Nat → Nat} {f f' : Nat → Int} (r : RowsF W lo hi gh g h n p f) (hw : Within g (g + 1) W W') (hf : FlatAt W' g (h * n) f') : RowsF W' lo hi gh g h n p f' := by
  refine ⟨Nat.le_trans r.top hw.size, r.hd, r.nm, r.ne, r.per, ?_, hf⟩
  obtain ⟨l1, l2⟩ := r.row
  refine ⟨l1, ?_⟩
  have h1 := r.hd
  have ht := r.top
  have hne := r.ne
  rcases l2 with l2 | ⟨g2, c2, cur, e1, e2, e3, e4⟩
  · cases l2.1
  · cases e1
    exact .inr ⟨gh, h, cur, rfl, Nat.le_refl _, (hw.block gh (by omega) (by omega)).trans e3, e4⟩
/-- What one bar writes into its row, which begins at q. -/
def putF (f : Nat → Int) (q : Nat) (dx dy : Int) (a b : Nat) : Nat → Int := fun s => if s = q + (2 * b + 1) then -dy else if s = q + (2 * a + 1) then dy else if s = q + 2 * b then -dx else if s = q + 2 * a then dx else f s

theorem putF_lo {f : Nat → Int} {q a b s : Nat} {dx dy : Int} (h : s < q) : putF f q dx dy a b s = f s := by
  unfold putF
  rw [if_neg (by omega), if_neg (by omega), if_neg (by omega), if_neg (by omega)]
theorem putF_hi {f : Nat → Int} {q a b s : Nat} {dx dy : Int} (hab : a < b) (h : q + (2 * b + 1) < s) : putF f q dx dy a b s = f s := by
  unfold putF
  rw [if_neg (by omega), if_neg (by omega), if_neg (by omega), if_neg (by omega)]
theorem putF_row {f : Nat → Int} {q a b j : Nat} {dx dy : Int} (hab : a < b) (h : f (q + j) = 0) : putF f q dx dy a b (q + j) = rigF dx dy a b j := by
  unfold putF rigF
  by_cases e1 : j = 2 * b + 1
  · rw [if_pos (by omega), if_neg (by omega), if_neg (by omega), if_neg (by omega), if_pos e1]
  · rw [if_neg (by omega)]
    by_cases e2 : j = 2 * a + 1
    · rw [if_pos (by omega), if_neg (by omega), if_pos e2]
    · rw [if_neg (by omega)]
      by_cases e3 : j = 2 * b
      · rw [if_pos (by omega), if_neg (by omega), if_neg (by omega), if_pos e3]
      · rw [if_neg (by omega)]
        by_cases e4 : j = 2 * a
        · rw [if_pos (by omega), if_pos e4]
        · rw [if_neg (by omega), if_neg e4, if_neg e2, if_neg e3, if_neg e1, h]
theorem idx_off0 (x y : Int) (w : World) : (Instr.index 202 (.agg #[.int .i64 x, .int .i64 y]) (.int .i64 0)).run Try.prog w = .ok (.int .i64 x) w := by kernel_rfl
theorem idx_off1 (x y : Int) (w : World) : (Instr.index 202 (.agg #[.int .i64 x, .int .i64 y]) (.int .i64 1)).run Try.prog w = .ok (.int .i64 y) w := by kernel_rfl
set_option maxHeartbeats 8000000 in
set_option maxRecDepth 100000 in
theorem putBar_c (p : Int) (l m : List (Int × Int)) (A : Option Addr) (ca : Nat) (B : Option Addr) (cb : Nat) (lo hi : Nat) (a b g q n N : Nat) (f : Nat → Int) (w : World) (hl : FwIn w lo hi A l B m) (ha : a < m.length) (hb : b < m.length) (hab : a < b) (hga : OnG (m.getD a (0, 0))) (hgb : OnG (m.getD b (0, 0)))
    (hF : FlatAt w g N f) (hq : q + n ≤ N) (hbn : 2 * b + 1 < n) (hn : n ≤ 1000) :
    Calls Try.prog 177 #[.agg #[.int .i64 p, .slice A l.length ca, .slice B m.length cb], .slice (some ⟨g, q, none⟩) n n, .agg #[.int .i64 (a : Int), .int .i64 (b : Int)]] w fun e w' => e = .returned (.tuple #[]) ∧
      FlatAt w' g N (putF f q ((m.getD a (0, 0)).1 - (m.getD b (0, 0)).1) ((m.getD a (0, 0)).2 - (m.getD b (0, 0)).2) a b) ∧ Within g (g + 1) w w' := by
  have hgl := hF.lt
  have HOF := Lib.hid fun (W : World) (h : FwIn W lo hi A l B m) => offOf_c p l m A ca B cb lo hi a b W h ha hb hga hgb
  have hpo := hga
  obtain ⟨dx, hdx⟩ : ∃ dx, (m.getD a (0, 0)).1 - (m.getD b (0, 0)).1 = dx := ⟨_, rfl⟩
  obtain ⟨dy, hdy⟩ : ∃ dy, (m.getD a (0, 0)).2 - (m.getD b (0, 0)).2 = dy := ⟨_, rfl⟩
  have hd4 : (-4 ≤ dx ∧ dx ≤ 4) ∧ -4 ≤ dy ∧ dy ≤ 4 := by
    unfold OnG at hga hgb
    omega
  rw [hdx, hdy] at HOF ⊢
  clear hga hgb hpo ha hb hdx hdy
  obtain ⟨⟨d1, d2⟩, d3, d4⟩ := hd4
  have hf := FbI.new (p := p) (ca := ca) (cb := cb) hl 97
  have hs1 : (w.alloc (.cells #[.int .i64 p, .slice A l.length ca, .slice B m.length cb] 97)).heap.size = w.heap.size + 1 := by simp
  clear hl
  obtain ⟨ka, hka⟩ : ∃ ka, 2 * a = ka := ⟨_, rfl⟩
  obtain ⟨kb, hkb⟩ : ∃ kb, 2 * b = kb := ⟨_, rfl⟩
  have hwa : IntKind.i64.wrap (2 * (a : Int)) = (ka : Int) := by rw [show 2 * (a : Int) = (ka : Int) by omega]; exact IntWalk.i64_in _ (by omega)
  have hwb : IntKind.i64.wrap (2 * (b : Int)) = (kb : Int) := by rw [show 2 * (b : Int) = (kb : Int) by omega]; exact IntWalk.i64_in _ (by omega)
  have hkab : ka + 1 < kb := by omega
  have hkbn : kb + 1 < n := by omega
  have HPF := Lib.hid (show putF f q dx dy a b = (fun s => if s = q + (kb + 1) then -dy else if s = q + (ka + 1) then dy else if s = q + kb then -dx else if s = q + ka then dx else f s) by unfold putF; rw [hka, hkb])
  clear hka hkb hab hbn
  have hka0 : (ka : Int) < (n : Int) := by omega
  have hka1 : (ka : Int) + 1 < (n : Int) := by omega
  have hkb0 : (kb : Int) < (n : Int) := by omega
  have hkb1 : (kb : Int) + 1 < (n : Int) := by omega
  go_enter Try.func177, Try.ntmps177
  go_wp2_with fail
  generalize (w.alloc (.cells #[.int .i64 p, .slice A l.length ca, .slice B m.length cb] 97)) = w1 at *
  have hy := new_below w1 (.cells #[.int .i64 (a : Int), .int .i64 (b : Int)] 108)
  have hY := box_new w1 (a : Int) (.int .i64 (b : Int)) 108
  have HF2 := Lib.hid (hf.below hy)
  rw [hs1] at hY
  generalize (w1.alloc (.cells #[.int .i64 (a : Int), .int .i64 (b : Int)] 108)) = w2 at *
  have HY2 := Lib.hid hY
  clear hf hy hY hs1
  refine (HOF.out _ HF2.out.f).mono ?_
  rintro e w3 ⟨rfl, hb3⟩
  have HF3 := Lib.hid (HF2.out.below hb3)
  have HY3 := Lib.hid (HY2.out.kept hb3)
  have HL3 := Lib.hid (hF.within (within_of HF3.out.b) (.inr (Nat.zero_le _)))
  clear hb3 HF2 HY2 hF
  obtain ⟨_, y0, y1⟩ := HY3.out
  have hbg : w.heap.size + 1 < g ∨ g + 1 ≤ w.heap.size + 1 := .inr (by omega)
  have s1 := flat_put HL3.out (t := q + ka) (by omega) dx
  have s2 := flat_put s1.1 (t := q + kb) (by omega) (-dx)
  have s3 := flat_put s2.1 (t := q + (ka + 1)) (by omega) dy
  have s4 := flat_put s3.1 (t := q + (kb + 1)) (by omega) (-dy)
  have X1 := HY3.out.within s1.2 hbg
  have X2 := X1.within s2.2 hbg
  have X3 := X2.within s3.2 hbg
  obtain ⟨_, y2, y3⟩ := X1
  obtain ⟨_, y4, y5⟩ := X2
  obtain ⟨_, y6, y7⟩ := X3
  obtain ⟨v1, q1⟩ : ∃ v, _ = some (Value.int .i64 v) := ⟨_, HL3.out.cell (i := q + ka) (by omega)⟩
  obtain ⟨v2, q2⟩ : ∃ v, _ = some (Value.int .i64 v) := ⟨_, s1.1.cell (i := q + kb) (by omega)⟩
  obtain ⟨v3, q3⟩ : ∃ v, _ = some (Value.int .i64 v) := ⟨_, s2.1.cell (i := q + (ka + 1)) (by omega)⟩
  obtain ⟨v4, q4⟩ : ∃ v, _ = some (Value.int .i64 v) := ⟨_, s3.1.cell (i := q + (kb + 1)) (by omega)⟩
  have z1 := World.ownsRow.frozenAt HL3.out (q + ka)
  have z2 := World.ownsRow.frozenAt s1.1 (q + kb)
  have z3 := World.ownsRow.frozenAt s2.1 (q + (ka + 1))
  have z4 := World.ownsRow.frozenAt s3.1 (q + (kb + 1))
  have HL7 := Lib.hid s4.1
  have HW7 := Lib.hid (((s1.2.trans s2.2).trans s3.2).trans s4.2)
  clear s1 s2 s3 s4
  have i0 := idx_off0 dx dy
  have i1 := idx_off1 dx dy
  go_wp2_with fail
  refine wp_loop_rounds 3 ?_
  rw [rounds_succ]
  go_wp2_with fail
  rw [rounds_succ]
  go_wp2_with fail
  rw [rounds_succ]
  go_wp2_with fail
  first | go_end0 | refine bodyPost_ret (results_none rfl _ _ _) rfl ?_
  refine ⟨rfl, ?_, ?_⟩
  · rw [HPF.out]; exact HL7.out
  · have hb := HF3.out.b
    have hw := HW7.out
    exact ⟨hw.os.trans hb.os, hw.tape.trans hb.tape, hw.output.trans hb.output, Nat.le_trans hb.size hw.size, fun i h1 h2 => (hw.block i (by have := hb.size; omega) h2).trans (hb.block i h1)⟩

set_option maxHeartbeats 8000000 in
set_option maxRecDepth 100000 in
/-- The rows of the bars, made by the generic function with the method of a framework. -/
theorem rows_c (p : Int) (l m : List (Int × Int)) (A : Option Addr) (ca : Nat) (B : Option Addr) (cb : Nat) (lo hi : Nat) (n : Nat) (w : World) (hl : FwIn w lo hi A l B m) (hI : IsF p l m) (hn : (n : Int) = 2 * p) :
    Calls Try.prog 176 #[.slice A l.length ca, .int .i64 (n : Int), .func (.func 177) #[.agg #[.int .i64 p, .slice A l.length ca, .slice B m.length cb]] #[]] w fun e w' => ∃ gh g f,
      e = .returned (.slice (some ⟨gh, 0, none⟩) l.length l.length) ∧ RowsF w' w.heap.size w'.heap.size gh g l.length n id f ∧ (∀ i, i < l.length → ∀ j, j < n → f (i * n + j) = atM (rigL p l m) i j) ∧ Below w.heap.size w w' := by
  have h15 := hI.bars
  have hp6 := hI.six
  have hp1 := hI.g.1.1
  have HI := Lib.hid hI
  have HML := Lib.hid hI.len
  have hn12 : n ≤ 12 := by omega
  have hn0 : 0 < n := by omega
  have HN := Lib.hid hn
  have HB0 := Lib.hid hl
  clear hI hl hn
  go_enter Try.func176, Try.ntmps176
  go_wp2_with fail
  refine (newRows_c l.length n w (by omega) (by omega) hn0).mono ?_
  rintro e w1 ⟨gh, g, rfl, hr, hb⟩
  have HR1 := Lib.hid hr
  have HB1 := Lib.hid hb
  clear hr hb
  go_wp2_with fail
  go_loopw [16] (fun i wr => ∃ (k : Nat) (f : Nat → Int), k ≤ l.length ∧ i = .int .i64 k ∧ RowsF wr w.heap.size w1.heap.size gh g l.length n id f ∧ (∀ i, i < k → ∀ j, j < n → f (i * n + j) = atM (rigL p l m) i j) ∧ (∀ i, k ≤ i → i < l.length → ∀ j, j < n → f (i * n + j) = 0) ∧ Below w.heap.size w wr) (fun i _ => l.length - (intOf i).toNat)
  case atStart => exact ⟨0, _, by omega, rfl, HR1.out, fun i hi => absurd hi (Nat.not_lt_zero i), fun _ _ _ _ _ => rfl, HB1.out⟩
  case round =>
    clear HR1 HB1
    obtain ⟨k, f, hk, rfl, hr, hv, hz, hb⟩ := hrel
    have HR := Lib.hid hr
    have HV := Lib.hid hv
    have HZ := Lib.hid hz
    have HB := Lib.hid hb
    clear hr hv hz hb
    by_cases hlt : k < l.length
    · have hki : (k : Int) < (l.length : Int) := by omega
      have hfw := HB0.out.within (within_of HB.out) (.inr (Nat.zero_le _))
      have HFW := Lib.hid hfw
      obtain ⟨ba, oa, rfl, _, hba, hca⟩ := hfw.b.2 (by omega)
      clear hfw
      obtain ⟨e1, e2, e3⟩ := HI.out.ends hlt
      obtain ⟨hb1, hb2⟩ := hca k hlt
      have hon1 := HI.out.on e1 (by omega)
      have hon2 := HI.out.on (v := (l.getD k (0, 0)).2) (by omega) e3
      have HAT := Lib.hid (fun (j : Nat) (hj : j < n) => (rigL_at (p := p) (m := m) hlt (by have := HN.out; omega : j < 2 * p.toNat)))
      unfold dxB dyB plc at HAT
      unfold plc at hon1 hon2
      obtain ⟨x, hx⟩ : ∃ x, l.getD k (0, 0) = x := ⟨_, rfl⟩
      rw [hx] at hb1 hb2 e1 e2 e3 hon1 hon2 HAT
      clear hx hca
      obtain ⟨xa, xb⟩ := x
      obtain ⟨a, rfl⟩ : ∃ a : Nat, xa = a := ⟨xa.toNat, by simp only at e1; omega⟩
      obtain ⟨b, rfl⟩ : ∃ b : Nat, xb = b := ⟨xb.toNat, by simp only at e1 e2; omega⟩
      simp only [Int.toNat_natCast] at e1 e2 e3 hb1 hb2 hon1 hon2 HAT
      have hab : a < b := by omega
      have hbm : b < m.length := by have := HML.out; omega
      have hbn : 2 * b + 1 < n := by have := HN.out; omega
      have hkn := at_row (n := n) hlt (show n - 1 < n by omega)
      have HPB := Lib.hid (fun (W : World) (h : FwIn W lo hi (some ⟨ba, oa, none⟩) l B m) (h2 : FlatAt W g (l.length * n) f) => putBar_c p l m (some ⟨ba, oa, none⟩) ca B cb lo hi a b g (k * n) n (l.length * n) f W h (by omega) hbm hab hon1 hon2 h2 (by omega) hbn (by omega))
      obtain ⟨dx, hdx⟩ : ∃ dx, (m.getD a (0, 0)).1 - (m.getD b (0, 0)).1 = dx := ⟨_, rfl⟩
      obtain ⟨dy, hdy⟩ : ∃ dy, (m.getD a (0, 0)).2 - (m.getD b (0, 0)).2 = dy := ⟨_, rfl⟩
      rw [hdx, hdy] at HPB HAT
      have HVN := Lib.hid (show ∀ i, i < k + 1 → ∀ j, j < n → putF f (k * n) dx dy a b (i * n + j) = atM (rigL p l m) i j from fun i hi j hj => by
        by_cases e : i = k
        · subst e
          rw [putF_row hab (HZ.out i (Nat.le_refl _) hlt j hj), HAT.out j hj]
        · rw [putF_lo (at_row (by omega) hj)]
          exact HV.out i (by omega) j hj)
      have HZN := Lib.hid (show ∀ i, k + 1 ≤ i → i < l.length → ∀ j, j < n → putF f (k * n) dx dy a b (i * n + j) = 0 from fun i h1 h2 j hj => by
        have h3 := Nat.mul_le_mul_right n h1
        rw [Nat.add_mul, Nat.one_mul] at h3
        rw [putF_hi hab (by omega)]
        exact HZ.out i (by omega) h2 j hj)
      clear hdx hdy hon1 hon2 e1 e2 e3 hab hbm hbn hkn HAT HV HZ
      obtain ⟨q, hq⟩ : ∃ q, k * n = q := ⟨_, rfl⟩
      have hd := HR.out.head hlt
      have hid : id k * n = q := hq
      rw [hid] at hd
      rw [hq] at HPB HVN HZN
      have HQ := Lib.hid hq
      clear hq hid
      have hgh := HR.out.hd
      have hgg := HR.out.nm
      have hne := HR.out.ne
      have htop := HR.out.top
      go_wp2_with fail
      have hal := new_below wr (.cells #[.int .i64 (a : Int), .int .i64 (b : Int)] 108)
      have hX := box_new wr (a : Int) (.int .i64 (b : Int)) 108
      have HR5 := Lib.hid (HR.out.within (within_of hal) (.inr (Nat.zero_le _)))
      have HB5 := Lib.hid (below_on HB.out hal HB.out.size)
      have HF5 := Lib.hid (HFW.out.within (within_of hal) (.inr (Nat.zero_le _)))
      have HX5 := Lib.hid hX
      clear hal hX HR HB HFW hd hb1 hb2
      obtain ⟨bx, hbx⟩ : ∃ x, wr.heap.size = x := ⟨_, rfl⟩
      rw [hbx] at HX5 htop ⊢
      generalize (wr.alloc (.cells #[.int .i64 (a : Int), .int .i64 (b : Int)] 108)) = w5 at *
      clear hbx
      have HD5 := Lib.hid (show Below w5.heap.size w5 w5.drew from (Below.refl _ _).drew)
      have HRD := Lib.hid (HR5.out.within (within_of HD5.out) (.inr (Nat.zero_le _)))
      have HXD := Lib.hid (HX5.out.kept HD5.out)
      have HC := Lib.hid (HPB.out _ (HF5.out.within (within_of HD5.out) (.inr (Nat.zero_le _))) HRD.out.num)
      have hhead := HRD.out.head hlt
      have hid2 : id k * n = q := HQ.out
      rw [hid2] at hhead
      have HID2 := Lib.hid hid2
      have K0 := Lib.hid (show w5.drew.cell? ⟨gh, k, none⟩ = some (.slice (some ⟨g, q, none⟩) n n) ∧ w5.drew.cell? ⟨bx, 0, none⟩ = some (.int .i64 (a : Int)) ∧ w5.drew.cell? ⟨bx, 1, none⟩ = some (.int .i64 (b : Int)) from ⟨hhead, HXD.out.2.1, HXD.out.2.2⟩)
      clear hhead hid2
      go_region_held3 (fun W' => W'.cell? ⟨gh, k, none⟩ = some (.slice (some ⟨g, q, none⟩) n n) ∧ W'.cell? ⟨bx, 0, none⟩ = some (.int .i64 (a : Int)) ∧ W'.cell? ⟨bx, 1, none⟩ = some (.int .i64 (b : Int)))
        (first | exact K0.out | exact K1.out | fail)
        (first
          | (go_at_call 177; refine HC.out.mono ?_; rintro e w6 ⟨rfl, hf6, hw6⟩; have HR6 := Lib.hid (HRD.out.putR hw6 hf6); have HB6 := Lib.hid (within_on (HB5.out.drew) hw6 HB5.out.size (.inl hgg.1)); have K1 := Lib.hid (show w6.cell? ⟨gh, k, none⟩ = some (.slice (some ⟨g, q, none⟩) n n) ∧ w6.cell? ⟨bx, 0, none⟩ = some (.int .i64 (a : Int)) ∧ w6.cell? ⟨bx, 1, none⟩ = some (.int .i64 (b : Int)) from ⟨by have h := HR6.out.head hlt; rw [HID2.out] at h; exact h, (HXD.out.within hw6 (.inr (by omega))).2.1, (HXD.out.within hw6 (.inr (by omega))).2.2⟩); clear hf6 hw6)
          | fail)
      go_wp2_with fail
      go_roundw
      case rel => exact ⟨k + 1, _, by omega, by go_num, HR6.out, HVN.out, HZN.out, HB6.out⟩
      case measure => simp [intOf]; omega
    · obtain rfl : k = l.length := by omega
      go_wp2_with fail
      go_ret
      exact ⟨gh, g, f, rfl, HR.out.widen (Nat.le_refl _) (HR.out.top) (Nat.le_refl _), HV.out, HB.out⟩

set_option maxHeartbeats 4000000 in
set_option maxRecDepth 100000 in
theorem implRgm (p : Int) (l m : List (Int × Int)) (A : Option Addr) (ca : Nat) (B : Option Addr) (cb : Nat) (lo hi : Nat) (w : World) (hl : FwIn w lo hi A l B m) (hn : l.length + m.length ≤ 1048576) :
    Calls Try.prog 89 #[.agg #[.int .i64 p, .slice A l.length ca, .slice B m.length cb]] w fun e w' => ∃ A' c', e = .returned (.slice A' (rigV p l m).length c') ∧ RowsX w' w.heap.size w'.heap.size A' (rigV p l m) ∧ Below w.heap.size w w' := by
  have HC := Lib.hid (fun (W : World) (h : FwIn W lo hi A l B m) => implIsF p l m A ca B cb lo hi W h hn)
  by_cases hg : isFB p l m = true
  · rw [hg] at HC
    have HI := Lib.hid (isFB_iff.1 hg)
    have HV := Lib.hid (rigV_yes hg)
    have h15 := HI.out.bars
    have hp6 := HI.out.six
    have hp1 := HI.out.g.1.1
    clear hg
    obtain ⟨n, hn2⟩ : ∃ n : Nat, (n : Int) = 2 * p := ⟨(2 * p).toNat, by omega⟩
    have HN := Lib.hid hn2
    have HRO := Lib.hid (fun (W : World) (h : FwIn W lo hi A l B m) => rows_c p l m A ca B cb lo hi n W h HI.out hn2)
    rw [hn2] at HRO
    have hn12 : n ≤ 12 := by omega
    clear hn2
    have HF := Lib.hid (FbI.new (p := p) (ca := ca) (cb := cb) hl 97)
    clear hl
    go_enter Try.func89, Try.ntmps89
    go_wp2_with fail
    generalize (w.alloc (.cells #[.int .i64 p, .slice A l.length ca, .slice B m.length cb] 97)) = w1 at *
    refine (HC.out _ HF.out.f).mono ?_
    rintro e w2 ⟨rfl, hb⟩
    have HF2 := Lib.hid (HF.out.below hb)
    obtain ⟨_, x0, x1, x2⟩ := HF2.out.x
    clear hb HF
    go_wp2_with fail
    refine (HRO.out _ HF2.out.f).mono ?_
    rintro e w3 ⟨gh, g, f, rfl, hr, hv, hb⟩
    have HF3 := Lib.hid (HF2.out.below hb)
    have HR3 := Lib.hid (hr.widen (lo' := w.heap.size) (by have := HF2.out.b.size; omega) (Nat.le_refl _) (Nat.le_refl _))
    have HVV := Lib.hid hv
    clear hr hv hb x0 x1 x2
    go_wp2_with fail
    go_ret
    have hEQ : rigV p l m = rowsV l.length n id f := by
      rw [HV.out]
      have h1 := HN.out
      have h2 : 2 * p.toNat = n := by omega
      unfold rowsV
      apply List.ext_getElem (by rw [rigL_len]; simp)
      intro i i1 i2
      have hil : i < l.length := by rw [rigL_len] at i1; exact i1
      rw [List.getElem_map, List.getElem_range]
      have e1 : (rigL p l m)[i] = (rigL p l m).getD i [] := by rw [List.getD_eq_getElem?_getD, List.getElem?_eq_getElem i1, Option.getD_some]
      rw [e1, rigL_get hil]
      unfold rigR
      rw [h2]
      apply rowF_congr
      intro j hj
      have := HVV.out i hil j hj
      rw [show id i * n = i * n from rfl, this, rigL_at hil (by omega)]
    exact ⟨some ⟨gh, 0, none⟩, l.length, by rw [HV.out, rigL_len]; rfl, .inr ⟨gh, g, l.length, n, f, rfl, hEQ, by omega, by omega, HR3.out⟩, HF3.out.b⟩
  · have hgf : isFB p l m = false := by simpa using hg
    rw [hgf] at HC
    have HV := Lib.hid (rigV_no hgf)
    clear hg hgf
    have HF := Lib.hid (FbI.new (p := p) (ca := ca) (cb := cb) hl 97)
    clear hl
    go_enter Try.func89, Try.ntmps89
    go_wp2_with fail
    generalize (w.alloc (.cells #[.int .i64 p, .slice A l.length ca, .slice B m.length cb] 97)) = w1 at *
    refine (HC.out _ HF.out.f).mono ?_
    rintro e w2 ⟨rfl, hb⟩
    have HF2 := Lib.hid (HF.out.below hb)
    clear hb HF
    go_wp2_with fail
    go_ret
    exact ⟨none, 0, by rw [HV.out]; rfl, .inl (by rw [HV.out]; exact ⟨Nat.le_refl _, fun h => absurd h (by simp)⟩), HF2.out.b⟩
end Go.Proofs.Ytdkpmaahinbhlaa
