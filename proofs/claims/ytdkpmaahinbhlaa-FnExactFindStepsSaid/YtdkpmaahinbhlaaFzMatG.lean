/- The pebble game leaves a greatest part that the counts allow, so its rank asks not for the order of the bars. Words on lists, of no program. No condition. -/
import Derived.Test.YtdkpmaahinbhlaaFzMatL
namespace Go.Proofs.Ytdkpmaahinbhlaa

theorem PebS.push {P : Nat} {k : Int} {E : List (Int × Int)} {F T : List Int} (h : PebS P k E F T) {y : Int × Int} (hy : 0 ≤ y.1 ∧ y.1 < y.2 ∧ y.2 < (P : Int)) {t : Int} (ht : isEnd y t) (hf : 0 < F.getD t.toNat 0) :
    PebS P k (E ++ [y]) (F.set t.toNat (F.getD t.toNat 0 - 1)) (T ++ [t]) := by
  obtain ⟨h1, ⟨h2, h3, h4⟩, h5⟩ := h
  have htr : 0 ≤ t ∧ t < (P : Int) := by unfold isEnd at ht; omega
  have eE : (E ++ [y]).getD E.length (0, 0) = y := by simp [List.getD]
  have eT : (T ++ [t]).getD E.length 0 = t := by rw [← h2]; simp [List.getD]
  have lE : ∀ i, i < E.length → (E ++ [y]).getD i (0, 0) = E.getD i (0, 0) := fun i hi => by simp only [List.getD]; rw [List.getElem?_append_left hi]
  have lT : ∀ i, i < E.length → (T ++ [t]).getD i 0 = T.getD i 0 := fun i hi => by simp only [List.getD]; rw [List.getElem?_append_left (by omega)]
  refine ⟨by rw [List.length_set]; exact h1, ⟨by simp [h2], fun i hi => ?_, fun i hi => ?_⟩, fun v hv => ?_⟩
  · rw [List.length_append, List.length_cons, List.length_nil] at hi
    by_cases e : i = E.length
    · subst e
      rw [eE]
      exact hy
    · rw [lE i (by omega)]
      exact h3 i (by omega)
  · rw [List.length_append, List.length_cons, List.length_nil] at hi
    by_cases e : i = E.length
    · subst e
      rw [eE, eT]
      exact ht
    · rw [lE i (by omega), lT i (by omega)]
      exact h4 i (by omega)
  · have hc := h5 v hv
    rw [List.count_append, List.count_singleton]
    by_cases e : v = t.toNat
    · subst e
      have e1 : ((t.toNat : Nat) : Int) = t := by omega
      rw [set_getD_eq _ _ _ _ (by omega)]
      rw [e1] at hc ⊢
      have e4 : (t == t) = true := by simp
      rw [if_pos e4]
      constructor
      · omega
      · rw [Int.natCast_add]
        omega
    · rw [set_getD_ne _ _ _ _ _ e]
      have e4 : ¬ ((t == (v : Int)) = true) := by simp; omega
      rw [if_neg e4]
      exact hc
/-- The bar y between a and b. -/
def Between (y : Int × Int) (a b : Int) : Prop := (y.1 = a ∧ y.2 = b) ∨ (y.1 = b ∧ y.2 = a)
theorem PebS.barsE {P : Nat} {k : Int} {E : List (Int × Int)} {F T : List Int} (h : PebS P k E F T) : ∀ x ∈ E, 0 ≤ x.1 ∧ x.1 < x.2 ∧ x.2 < (P : Int) := by
  intro x hx
  obtain ⟨i, hi, rfl⟩ := List.getElem_of_mem hx
  have h1 := h.ends.bar i hi
  have e : E.getD i (0, 0) = E[i] := by simp [List.getD, List.getElem?_eq_getElem hi]
  rwa [e] at h1
theorem gathE_no {P : Nat} {k c : Int} {E : List (Int × Int)} {F T : List Int} (h : PebS P k E F T) (hP : P ≤ 8) {a b : Int} {y : Int × Int} (hy : 0 ≤ y.1 ∧ y.1 < y.2 ∧ y.2 < (P : Int)) (hab : Between y a b) (e : gathR E a b (c + 1) (F, T) = none) : ∃ m, badS (E ++ [y]) k c P m = true := by
  have hbars := h.barsE
  unfold Between at hab
  unfold gathR at e
  obtain ⟨s', q1, q2, q3, q4⟩ := gath_no (P := P) (k := k) (E := E) (a := a) (b := b) (want := c + 1) (by omega) (by omega) (by omega) _ (F, T) h (by omega) e
  obtain ⟨S, sa, sb, hk⟩ := full_span (F := s'.1) (T := s'.2) q1 hP (a := a) (b := b) (by omega) (by omega) (by omega) q3 q4
  obtain ⟨m, hm, hmS⟩ := mask_of S P
  refine ⟨m, badS_iff.2 ?_⟩
  rw [cntS_snoc]
  have hx : bothB m y = true := by
    unfold bothB
    rw [hmS _ (by omega), hmS _ (by omega)]
    rcases hab with ⟨u1, u2⟩ | ⟨u1, u2⟩
    · rw [u1, u2, sa, sb]; rfl
    · rw [u1, u2, sa, sb]; rfl
  rw [hx, if_pos rfl]
  rw [spanC_mask hmS hbars, outF_mask hmS] at hk
  omega
theorem gathE_yes {P : Nat} {k c : Int} {E : List (Int × Int)} {F T : List Int} (h : PebS P k E F T) {a b : Int} {y : Int × Int} (hy : 0 ≤ y.1 ∧ y.1 < y.2 ∧ y.2 < (P : Int)) (hab : Between y a b) {s : List Int × List Int} (e : gathR E a b (c + 1) (F, T) = some s)
    (hsp : IndL P k c E) : IndL P k c (E ++ [y]) := by
  unfold Between at hab
  obtain ⟨g1, g2⟩ := gathR_ok (P := P) (k := k) (by omega) (by omega) (by omega) h e
  intro m
  have hm := hsp m
  rw [badS_not] at hm ⊢
  rw [cntS_snoc]
  cases hx : bothB m y
  · simpa [hx] using hm
  · have hx' : m.testBit y.1.toNat = true ∧ m.testBit y.2.toNat = true := by
      unfold bothB at hx
      rwa [Bool.and_eq_true] at hx
    have hsum := g1.sum (fun v => m.testBit v)
    have hle := span_le (fun v => m.testBit v) E s.2 g1.ends.len g1.ends.tail
    have h2 := sumS_two (fun v => m.testBit v) (fun v => s.1.getD v 0) P y.1.toNat y.2.toNat (fun v hv => (g1.free v hv).1) (by omega) (by omega) (by omega) hx'.1 hx'.2
    have hc : E.countP (spanC fun v => m.testBit v) = cntS E m := rfl
    have ho : outF P (fun v => m.testBit v) = setL P m := rfl
    rw [hc] at hle
    rw [ho] at hsum
    have h3 : c + 1 ≤ s.1.getD y.1.toNat 0 + s.1.getD y.2.toNat 0 := by
      rcases hab with ⟨u1, u2⟩ | ⟨u1, u2⟩
      · rw [u1, u2]; exact g2
      · rw [u1, u2]; omega
    simp only [if_true]
    omega
/-- The state of a game after n bars, of a list that may be of any length. -/
structure GmI (P : Nat) (k c : Int) (l : List (Int × Int)) (n : Nat) (s : List Int × List Int × List Int) : Prop where
  st : PebS P k (plE l s.2.2) s.1 s.2.1
  zs : ∀ z ∈ s.2.2, 0 ≤ z ∧ z < (n : Int)
  only : onlyK l (inS s.2.2) n = plE l s.2.2
  ind : IndL P k c (plE l s.2.2)
  rest : ∀ i, i < n → inS s.2.2 i = false → ∃ m, badS (plE l s.2.2 ++ [l.getD i (0, 0)]) k c P m = true
theorem bad_more {P : Nat} {k c : Int} {E : List (Int × Int)} {x y : Int × Int} (h : ∃ m, badS (E ++ [x]) k c P m = true) : ∃ m, badS (E ++ [y] ++ [x]) k c P m = true := by
  obtain ⟨m, hm⟩ := h
  exact ⟨m, bad_sup ((List.sublist_append_left E [y]).append (List.Sublist.refl [x])) hm⟩
/-- A bar that is placed. -/
theorem plaE_push {P : Nat} {k c : Int} {l : List (Int × Int)} {F T Z : List Int} (h : PebS P k (plE l Z) F T) (hc : 0 ≤ c) {n : Nat} (hy : 0 ≤ (l.getD n (0, 0)).1 ∧ (l.getD n (0, 0)).1 < (l.getD n (0, 0)).2 ∧ (l.getD n (0, 0)).2 < (P : Int)) {s : List Int × List Int × List Int} (e : plaR l c F T Z (n : Int) = some s) :
    s.2.2 = Z ++ [(n : Int)] ∧ PebS P k (plE l Z ++ [l.getD n (0, 0)]) s.1 s.2.1 ∧ ∃ s1, gathR (plE l Z) (l.getD n (0, 0)).1 (l.getD n (0, 0)).2 (c + 1) (F, T) = some s1 := by
  unfold plaR at e
  rw [Int.toNat_natCast] at e
  obtain ⟨s1, h1, rfl⟩ := Option.map_eq_some_iff.1 e
  obtain ⟨g1, g2⟩ := gathR_ok (P := P) (k := k) (by omega) (by omega) (by omega) h h1
  split
  · exact ⟨rfl, g1.push hy (.inr rfl) (by omega), s1, h1⟩
  · rename_i h0
    have := g1.small (v := (l.getD n (0, 0)).1) (by omega)
    exact ⟨rfl, g1.push hy (.inl rfl) (by omega), s1, h1⟩
theorem runN_gm {P : Nat} {k c : Int} {l : List (Int × Int)} (hb : Bars P l) (hP : 1 ≤ P ∧ P ≤ 8) (hk : 1 ≤ k) (hc : 0 ≤ c) : ∀ n, n ≤ l.length → GmI P k c l n (runN P k c l n) := by
  intro n
  induction n with
  | zero =>
    intro _
    refine ⟨⟨by simp [runN], ⟨rfl, fun i hi => absurd hi (by simp [runN, plE]), fun i hi => absurd hi (by simp [runN, plE])⟩, fun v hv => ?_⟩, fun z hz => absurd hz (by simp [runN]), rfl, fun m => by rw [badS_not]; simp [runN, plE, cntS], fun i hi => by omega⟩
    simp [runN, List.getD, hv]
    omega
  | succ n ih =>
    intro hn
    have hi := ih (by omega)
    have hy := hb.bar n (by omega)
    unfold runN
    generalize runN P k c l n = s0 at *
    have hni : inS s0.2.2 n = false := decide_eq_false fun hm => by have := hi.zs _ hm; omega
    cases e : plaR l c s0.1 s0.2.1 s0.2.2 (n : Int) with
    | none =>
      simp only [Option.getD_none]
      have e2 : gathR (plE l s0.2.2) (l.getD n (0, 0)).1 (l.getD n (0, 0)).2 (c + 1) (s0.1, s0.2.1) = none := by
        unfold plaR at e
        rw [Int.toNat_natCast, Option.map_eq_none_iff] at e
        exact e
      refine ⟨hi.st, fun z hz => by have := hi.zs z hz; omega, ?_, hi.ind, fun i hin hiS => ?_⟩
      · unfold onlyK
        rw [hni, hi.only]
        simp
      · by_cases c1 : i = n
        · subst c1
          exact gathE_no hi.st hP.2 hy (.inl ⟨rfl, rfl⟩) e2
        · exact hi.rest i (by omega) hiS
    | some s =>
      simp only [Option.getD_some]
      obtain ⟨g1, g2, s1, g3⟩ := plaE_push hi.st hc hy e
      have hag : ∀ i, i < n → inS (s0.2.2 ++ [(n : Int)]) i = inS s0.2.2 i := fun i hi => by
        unfold inS
        have : ¬ (i : Int) = (n : Int) := by omega
        simp [this]
      have hin : inS (s0.2.2 ++ [(n : Int)]) n = true := decide_eq_true (by simp)
      have hE : plE l s.2.2 = plE l s0.2.2 ++ [l.getD n (0, 0)] := by rw [g1, plE_snoc, Int.toNat_natCast]
      refine ⟨by rw [hE]; exact g2, fun z hz => ?_, ?_, by rw [hE]; exact gathE_yes hi.st hy (.inl ⟨rfl, rfl⟩) g3 hi.ind, fun i hin' hiS => ?_⟩
      · rw [g1] at hz
        rcases List.mem_append.1 hz with h | h
        · have := hi.zs z h; omega
        · rw [List.mem_singleton] at h; omega
      · rw [hE, g1]
        unfold onlyK
        rw [hin, if_pos rfl, onlyK_agree l _ _ n hag, hi.only]
      · rw [hE]
        rw [g1] at hiS
        by_cases c1 : i = n
        · subst c1
          rw [hin] at hiS
          cases hiS
        · rw [hag i (by omega)] at hiS
          exact bad_more (hi.rest i (by omega) hiS)
/-- The rank of a list of bars. -/
def rk (P : Nat) (k c : Int) (l : List (Int × Int)) : Nat := (runN P k c l l.length).2.2.length
theorem rk_greedy {P : Nat} {k c : Int} {l : List (Int × Int)} (hb : Bars P l) (hP : 1 ≤ P ∧ P ≤ 8) (hk : 1 ≤ k) (hc : 0 ≤ c) : Greedy P k c l (plE l (runN P k c l l.length).2.2) (inS (runN P k c l l.length).2.2) := by
  have h := runN_gm hb hP hk hc l.length (Nat.le_refl _)
  exact ⟨h.only, h.ind, h.rest⟩
end Go.Proofs.Ytdkpmaahinbhlaa
