/- The whole game on lists: what is placed is sparse, and all is placed exactly if the bars are sparse. No program. No condition. -/
import Derived.Test.YtdkpmaahinbhlaaFzB1
import Derived.Test.YtdkpmaahinbhlaaFzB3
namespace Go.Proofs.Ytdkpmaahinbhlaa

theorem sumS_two (S : Nat → Bool) (f : Nat → Int) (P a b : Nat) (hf : ∀ v, v < P → 0 ≤ f v) (ha : a < P) (hb : b < P) (hab : a ≠ b) (sa : S a = true) (sb : S b = true) : f a + f b ≤ sumS S f P := by
  have e : sumS S f P = sumS S (fun v => (if v = a then f a else 0) + (if v = b then f b else 0)) P + sumS S (fun v => f v - ((if v = a then f a else 0) + (if v = b then f b else 0))) P := by
    rw [← sumS_add]
    exact sumS_congr S _ _ P fun v _ _ => by omega
  have h0 := sumS_nonneg S (fun v => f v - ((if v = a then f a else 0) + (if v = b then f b else 0))) P fun v hv => by
    have h1 := hf v hv
    by_cases c1 : v = a
    · subst c1
      rw [if_pos rfl, if_neg hab]
      omega
    · by_cases c2 : v = b
      · subst c2
        rw [if_neg c1, if_pos rfl]
        omega
      · rw [if_neg c1, if_neg c2]
        omega
  rw [sumS_add, sumS_one S _ a P ha, sumS_one S _ b P hb, sa, sb, if_pos rfl, if_pos rfl] at e
  omega
theorem plE_snoc (l : List (Int × Int)) (Z : List Int) (n : Int) : plE l (Z ++ [n]) = plE l Z ++ [l.getD n.toNat (0, 0)] := by simp [plE]
theorem cntS_snoc (E : List (Int × Int)) (x : Int × Int) (m : Nat) : cntS (E ++ [x]) m = cntS E m + if bothB m x then 1 else 0 := by
  unfold cntS
  rw [List.countP_append, List.countP_cons, List.countP_nil, Nat.zero_add]
theorem plE_bars {P : Nat} {k : Int} {l : List (Int × Int)} {F T Z : List Int} (h : IsPeb (P : Int) k l F T Z) : ∀ x ∈ plE l Z, 0 ≤ x.1 ∧ x.1 < x.2 ∧ x.2 < (P : Int) := by
  intro x hx
  obtain ⟨i, hi, rfl⟩ := List.getElem_of_mem hx
  have h1 := h.state.ends.bar i hi
  have e : (plE l Z).getD i (0, 0) = (plE l Z)[i] := by simp [List.getD, List.getElem?_eq_getElem hi]
  rw [e] at h1
  have := h.2.2.1
  omega
theorem badS_iff {l : List (Int × Int)} {k c : Int} {P m : Nat} : badS l k c P m = true ↔ 0 < cntS l m ∧ k * ((setL P m).length : Int) - c < (cntS l m : Int) := by
  unfold badS
  rw [Bool.and_eq_true, decide_eq_true_eq, decide_eq_true_eq]
theorem badS_not {l : List (Int × Int)} {k c : Int} {P m : Nat} : badS l k c P m = false ↔ ¬ (0 < cntS l m ∧ k * ((setL P m).length : Int) - c < (cntS l m : Int)) := by
  rw [← badS_iff]
  simp
theorem bad_sup {l l' : List (Int × Int)} {k c : Int} {P m : Nat} (hs : l'.Sublist l) (h : badS l' k c P m = true) : badS l k c P m = true := by
  cases e : badS l k c P m with
  | true => rfl
  | false => rw [bad_sub hs e] at h; cases h
/-- A bar that is placed leaves the state sparse. -/
theorem place_sparse {P : Nat} {k c : Int} {l : List (Int × Int)} {F T Z : List Int} (h : IsPeb (P : Int) k l F T Z) {n : Int} (hn : 0 ≤ n ∧ n < (l.length : Int)) {s : List Int × List Int × List Int} (e : plaR l c F T Z n = some s)
    (hsp : ∀ m, badS (plE l Z) k c P m = false) : ∀ m, badS (plE l s.2.2) k c P m = false := by
  unfold plaR at e
  obtain ⟨s1, h1, rfl⟩ := Option.map_eq_some_iff.1 e
  have hb := h.1.2.2 n.toNat (by omega)
  have hp := h.2.2.1
  have hPF : F.length = P := by omega
  unfold OkBar at hb
  obtain ⟨g1, g2⟩ := gathR_ok (P := F.length) (k := k) (by omega) (by omega) (by omega) (by exact h.state) h1
  have ez : (if s1.1.getD (l.getD n.toNat (0, 0)).1.toNat 0 = 0 then (s1.1.set (l.getD n.toNat (0, 0)).2.toNat (s1.1.getD (l.getD n.toNat (0, 0)).2.toNat 0 - 1), s1.2 ++ [(l.getD n.toNat (0, 0)).2], Z ++ [n])
    else (s1.1.set (l.getD n.toNat (0, 0)).1.toNat (s1.1.getD (l.getD n.toNat (0, 0)).1.toNat 0 - 1), s1.2 ++ [(l.getD n.toNat (0, 0)).1], Z ++ [n])).2.2 = Z ++ [n] := by split <;> rfl
  intro m
  rw [ez, plE_snoc]
  rw [hPF] at g1
  generalize l.getD n.toNat (0, 0) = x at *
  have hm := hsp m
  rw [badS_not] at hm ⊢
  rw [cntS_snoc]
  cases hx : bothB m x
  · simpa [hx] using hm
  · have hx' : m.testBit x.1.toNat = true ∧ m.testBit x.2.toNat = true := by
      unfold bothB at hx
      rwa [Bool.and_eq_true] at hx
    have hsum := g1.sum (fun v => m.testBit v)
    have hle := span_le (fun v => m.testBit v) (plE l Z) s1.2 g1.ends.len g1.ends.tail
    have h2 := sumS_two (fun v => m.testBit v) (fun v => s1.1.getD v 0) P x.1.toNat x.2.toNat (fun v hv => (g1.free v hv).1) (by omega) (by omega) (by omega) hx'.1 hx'.2
    have hc : (plE l Z).countP (spanC fun v => m.testBit v) = cntS (plE l Z) m := rfl
    have ho : outF P (fun v => m.testBit v) = setL P m := rfl
    rw [hc] at hle
    rw [ho] at hsum
    simp only [if_true]
    omega
/-- A bar that can't be placed is one too many. -/
theorem place_no {P : Nat} {k c : Int} {l : List (Int × Int)} {F T Z : List Int} (h : IsPeb (P : Int) k l F T Z) {n : Int} (hn : 0 ≤ n ∧ n < (l.length : Int)) (e : plaR l c F T Z n = none) : ∃ m, m < 2 ^ P ∧ badS (plE l Z ++ [l.getD n.toNat (0, 0)]) k c P m = true := by
  unfold plaR at e
  rw [Option.map_eq_none_iff] at e
  have hb := h.1.2.2 n.toNat (by omega)
  have hp := h.2.2.1
  have hPF : F.length = P := by omega
  have hP8 := h.1.1
  have hbars := plE_bars h
  unfold OkBar at hb
  have hst := h.state
  rw [hPF] at hst
  generalize l.getD n.toNat (0, 0) = x at *
  unfold gathR at e
  obtain ⟨s', q1, q2, q3, q4⟩ := gath_no (P := P) (k := k) (E := plE l Z) (a := x.1) (b := x.2) (want := c + 1) (by omega) (by omega) (by omega) _ (F, T) hst (by omega) e
  obtain ⟨S, sa, sb, hk⟩ := full_span (F := s'.1) (T := s'.2) q1 (by omega) (a := x.1) (b := x.2) (by omega) (by omega) (by omega) q3 q4
  obtain ⟨m, hm, hmS⟩ := mask_of S P
  refine ⟨m, hm, badS_iff.2 ?_⟩
  rw [cntS_snoc]
  have hx : bothB m x = true := by
    unfold bothB
    rw [hmS _ (by omega), hmS _ (by omega), sa, sb]
    rfl
  rw [hx, if_pos rfl]
  rw [spanC_mask hmS hbars, outF_mask hmS] at hk
  omega
theorem onlyK_agree (l : List (Int × Int)) (S S' : Nat → Bool) : ∀ k, (∀ i, i < k → S i = S' i) → onlyK l S k = onlyK l S' k := by
  intro k
  induction k with
  | zero => intro _; rfl
  | succ k ih =>
    intro h
    unfold onlyK
    rw [ih fun i hi => h i (by omega), h k (by omega)]
theorem outF_len_agree (k : Nat) (S S' : Nat → Bool) (h : ∀ i, i < k → S i = S' i) : (outF k S).length = (outF k S').length := by rw [outF_agree k S S' h]
/-- All that the law on pebbles asks of the whole game. -/
structure GameR (P : Nat) (k c : Int) (l : List (Int × Int)) (n : Nat) (Z : List Int) : Prop where
  sparse : ∀ m, badS (plE l Z) k c P m = false
  full : Z.length = n ∨ ∃ m, m < 2 ^ P ∧ badS (l.take n) k c P m = true
  sub : (plE l Z).Sublist (l.take n)
  only : onlyK l (inS Z) n = plE l Z
  rest : (outF n (fun i => !inS Z i)).length + Z.length = n
theorem mem_lt {P : Nat} {k : Int} {l : List (Int × Int)} {F T Z : List Int} (h : IsPeb (P : Int) k l F T Z) {n : Nat} (hl : Z ≠ [] → Z.getD (Z.length - 1) 0 < (n : Int)) : ∀ z ∈ Z, z < (n : Int) := by
  intro z hz
  obtain ⟨i, hi, rfl⟩ := List.getElem_of_mem hz
  have h1 := h.last i (Z.length - 1) (by omega) (by omega)
  have h2 := hl (fun e => by rw [e] at hi; simp at hi)
  have e : Z.getD i 0 = Z[i] := by simp [List.getD, List.getElem?_eq_getElem hi]
  rw [e] at h1
  omega
theorem runN_game {P : Nat} {k c : Int} {l : List (Int × Int)} (hG : IsG (P : Int) l) (hk : 1 ≤ k ∧ k ≤ 3) (hc : 0 ≤ c) : ∀ n, n ≤ l.length → GameR P k c l n (runN P k c l n).2.2 := by
  intro n
  induction n with
  | zero =>
    intro _
    exact ⟨fun m => by rw [badS_not]; simp [runN, plE, cntS], .inl rfl, by simp [runN, plE], rfl, rfl⟩
  | succ n ih =>
    intro hn
    have hi := ih (by omega)
    obtain ⟨h1, _, h3⟩ := runN_ok hG hk hc n (by omega)
    have hlt := mem_lt h1 h3
    have ht : l.take (n + 1) = l.take n ++ [l.getD n (0, 0)] := take_getD l (0, 0) n (by omega)
    have htn : ((n : Int)).toNat = n := by omega
    unfold runN
    generalize runN P k c l n = s0 at *
    have hni : inS s0.2.2 n = false := decide_eq_false fun hm => by have := hlt _ hm; omega
    cases e : plaR l c s0.1 s0.2.1 s0.2.2 (n : Int) with
    | none =>
      simp only [Option.getD_none]
      obtain ⟨m, hm, hb⟩ := place_no h1 (n := (n : Int)) (by omega) e
      rw [htn] at hb
      refine ⟨hi.sparse, .inr ⟨m, hm, bad_sup ?_ hb⟩, ?_, ?_, ?_⟩
      · rw [ht]
        exact hi.sub.append (List.Sublist.refl _)
      · rw [ht]
        exact hi.sub.trans (List.sublist_append_left _ _)
      · unfold onlyK
        rw [hni, hi.only]
        simp
      · rw [outF_succ, hni]
        have := hi.rest
        simp
        omega
    | some s =>
      simp only [Option.getD_some]
      have hsp := place_sparse h1 (n := (n : Int)) (by omega) e hi.sparse
      have g2 := (plaR_ok h1 hc (n := (n : Int)) (by omega) h3 e).2
      rw [g2] at hsp ⊢
      have hin : inS (s0.2.2 ++ [(n : Int)]) n = true := decide_eq_true (by simp)
      have hag : ∀ i, i < n → inS (s0.2.2 ++ [(n : Int)]) i = inS s0.2.2 i := fun i hi => by
        unfold inS
        have : ¬ (i : Int) = (n : Int) := by omega
        simp [this]
      refine ⟨hsp, ?_, ?_, ?_, ?_⟩
      · rcases hi.full with hf | ⟨m, hm, hb⟩
        · exact .inl (by simp [hf])
        · exact .inr ⟨m, hm, bad_sup (by rw [ht]; exact List.sublist_append_left _ _) hb⟩
      · rw [ht, plE_snoc, htn]
        exact hi.sub.append (List.Sublist.refl _)
      · unfold onlyK
        rw [hin, if_pos rfl, onlyK_agree l _ _ n hag, hi.only, plE_snoc, htn]
      · rw [outF_succ, hin]
        have := hi.rest
        have e2 := outF_len_agree n (fun i => !inS (s0.2.2 ++ [(n : Int)]) i) (fun i => !inS s0.2.2 i) fun i hi => by simp only [hag i hi]
        simp
        omega
end Go.Proofs.Ytdkpmaahinbhlaa
