/- What a game leaves of a list of bars has the same length whatever their order, and no more if there are fewer bars. Words on lists, of no program. No condition. -/
import Derived.Test.YtdkpmaahinbhlaaFzB1
import Derived.Test.YtdkpmaahinbhlaaFzPebG
namespace Go.Proofs.Ytdkpmaahinbhlaa

/-- No set spans too many. -/
def IndL (P : Nat) (k c : Int) (E : List (Int × Int)) : Prop := ∀ m, badS E k c P m = false
theorem onlyK_cI (l : List (Int × Int)) (S : Nat → Bool) (m : Nat) : ∀ n, cntS (onlyK l S n) m = cI n (fun i => l.getD i (0, 0)) S m := by
  intro n
  induction n with
  | zero => rfl
  | succ n ih =>
    unfold onlyK cI
    rw [List.range_succ, List.countP_append, List.countP_cons, List.countP_nil]
    unfold cI at ih
    rw [← ih]
    cases S n
    · simp
    · simp only [if_true, Bool.true_and]
      rw [cntS_snoc]
      omega
theorem onlyK_size (l : List (Int × Int)) (S : Nat → Bool) : ∀ n, (onlyK l S n).length = szI n S := by
  intro n
  induction n with
  | zero => rfl
  | succ n ih =>
    unfold onlyK szI
    rw [List.range_succ, List.countP_append, List.countP_cons, List.countP_nil, List.length_append, ih]
    unfold szI
    cases S n <;> simp
theorem onlyK_cons (y : Int × Int) (l : List (Int × Int)) (S : Nat → Bool) : ∀ n, onlyK (y :: l) S (n + 1) = (if S 0 then [y] else []) ++ onlyK l (fun i => S (i + 1)) n := by
  intro n
  induction n with
  | zero => simp [onlyK]
  | succ n ih =>
    rw [onlyK, ih, List.append_assoc]
    congr 1
theorem sub_mask {E l : List (Int × Int)} (h : E.Sublist l) : ∃ S, onlyK l S l.length = E := by
  induction h with
  | slnil => exact ⟨fun _ => false, rfl⟩
  | cons y _ ih =>
    obtain ⟨S, hS⟩ := ih
    refine ⟨fun i => match i with | 0 => false | i + 1 => S i, ?_⟩
    rw [List.length_cons, onlyK_cons, hS]
    rfl
  | cons_cons y _ ih =>
    obtain ⟨S, hS⟩ := ih
    refine ⟨fun i => match i with | 0 => true | i + 1 => S i, ?_⟩
    rw [List.length_cons, onlyK_cons, hS]
    rfl
theorem onlyK_sub (l : List (Int × Int)) (S : Nat → Bool) : ∀ n, n ≤ l.length → (onlyK l S n).Sublist (l.take n) := by
  intro n
  induction n with
  | zero => intro _; exact List.nil_sublist _
  | succ n ih =>
    intro hn
    have e : l.take (n + 1) = l.take n ++ [l.getD n (0, 0)] := by
      rw [List.take_succ_eq_append_getElem (by omega)]
      simp [List.getD, List.getElem?_eq_getElem (show n < l.length by omega)]
    rw [onlyK, e]
    refine (ih (by omega)).append ?_
    cases S n
    · exact List.nil_sublist _
    · exact List.Sublist.refl _
theorem indL_I {P : Nat} {k c : Int} {l : List (Int × Int)} {S : Nat → Bool} {n : Nat} : IndL P k c (onlyK l S n) ↔ IndI P k c n (fun i => l.getD i (0, 0)) S := by
  constructor
  · intro h m hm
    have := h m
    rw [badS_not, onlyK_cI, wid_set] at this
    omega
  · intro h m
    rw [badS_not, onlyK_cI, wid_set]
    rintro ⟨h1, h2⟩
    have := h m h1
    omega
/-- What a game leaves: bars that are independent, and each other bar is one too many. -/
structure Greedy (P : Nat) (k c : Int) (l E : List (Int × Int)) (S : Nat → Bool) : Prop where
  only : onlyK l S l.length = E
  ind : IndL P k c E
  rest : ∀ i, i < l.length → S i = false → ∃ m, badS (E ++ [l.getD i (0, 0)]) k c P m = true
structure Bars (P : Nat) (l : List (Int × Int)) : Prop where
  bar : ∀ i, i < l.length → 0 ≤ (l.getD i (0, 0)).1 ∧ (l.getD i (0, 0)).1 < (l.getD i (0, 0)).2 ∧ (l.getD i (0, 0)).2 < (P : Int)
/-- No independent part is greater. -/
theorem Greedy.most {P : Nat} {k c : Int} {l E : List (Int × Int)} {S : Nat → Bool} (h : Greedy P k c l E S) (hb : Bars P l) (hk : 1 ≤ k) (hc : 0 ≤ c) (hc2 : c < 2 * k) {E' : List (Int × Int)} (hs : E'.Sublist l) (hi : IndL P k c E') : E'.length ≤ E.length := by
  obtain ⟨J, rfl⟩ := sub_mask hs
  have g : Grd P k c l.length (fun i => l.getD i (0, 0)) := ⟨hb.bar, hk, hc, hc2⟩
  rw [onlyK_size, ← h.only, onlyK_size]
  have hI : IndI P k c l.length (fun i => l.getD i (0, 0)) S := indL_I.1 (by rw [h.only]; exact h.ind)
  refine block_le g (indL_I.1 hi) _ S rfl hI fun j hj _ => ?_
  cases e : S j with
  | true => exact .inl e
  | false =>
    right
    obtain ⟨m, hm⟩ := h.rest j hj e
    have h0 := h.ind m
    rw [badS_iff, cntS_snoc, wid_set] at hm
    rw [badS_not, wid_set] at h0
    rw [← h.only, onlyK_cI] at hm h0
    cases b : bothB m (l.getD j (0, 0)) with
    | false =>
      rw [b] at hm
      simp only [Bool.false_eq_true, if_false, Nat.add_zero] at hm
      exact absurd hm h0
    | true =>
      refine ⟨m, ?_, b⟩
      rw [b, if_pos rfl] at hm
      have hw := kw_pos g.k1 g.c2 (g.two hj b)
      have hIm := hI m
      unfold TightI
      by_cases z : 0 < cI l.length (fun i => l.getD i (0, 0)) S m
      · have := hIm z
        omega
      · omega
theorem Greedy.sub {P : Nat} {k c : Int} {l E : List (Int × Int)} {S : Nat → Bool} (h : Greedy P k c l E S) : E.Sublist l := by
  have := onlyK_sub l S l.length (Nat.le_refl _)
  rwa [List.take_length, h.only] at this
theorem Greedy.mono {P : Nat} {k c : Int} {l l' E E' : List (Int × Int)} {S S' : Nat → Bool} (h : Greedy P k c l E S) (h' : Greedy P k c l' E' S') (hb : Bars P l) (hk : 1 ≤ k) (hc : 0 ≤ c) (hc2 : c < 2 * k) (hs : l'.Sublist l) : E'.length ≤ E.length :=
  h.most hb hk hc hc2 (h'.sub.trans hs) h'.ind
end Go.Proofs.Ytdkpmaahinbhlaa
