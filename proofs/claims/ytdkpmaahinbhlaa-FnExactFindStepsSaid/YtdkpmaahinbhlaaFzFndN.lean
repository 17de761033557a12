/- The count test as Henneberg's theorem has it; the first step that can be taken back. No program's walk. No condition. -/
import Derived.Test.YtdkpmaahinbhlaaFzFndM
import Derived.Test.YtdkpmaahinbhlaaFzB1
import Derived.Test.YtdkpmaahinbhlaaFzStepM
import Derived.Test.YtdkpmaahinbhlaaFzTight
namespace Go.Proofs.Ytdkpmaahinbhlaa
open Go.RowKit

theorem okB_of {P : Nat} {l : List (Int × Int)} (h : IsG (P : Int) l) : ∀ x ∈ l, OkB P x := fun x hx => by
  obtain ⟨j, hj, e⟩ := List.getElem_of_mem hx
  have h2 := h.2.2 j hj
  unfold OkBar at h2
  rw [show l.getD j (0, 0) = l[j] by simp [List.getD, List.getElem?_eq_getElem hj], e] at h2
  exact ⟨h2.1, h2.2.1, h2.2.2.1⟩
theorem cnt_mod {P m : Nat} {l : List (Int × Int)} (hl : ∀ x ∈ l, OkB P x) : cntS l (m % 2 ^ P) = cntS l m ∧ wid P (m % 2 ^ P) = wid P m := by
  constructor
  · unfold cntS
    refine List.countP_congr fun x hx => ?_
    have h := hl x hx
    unfold OkB at h
    unfold bothB
    rw [Nat.testBit_mod_two_pow, Nat.testBit_mod_two_pow, decide_eq_true (show x.1.toNat < P by omega), decide_eq_true (show x.2.toNat < P by omega), Bool.true_and, Bool.true_and]
  · unfold wid
    refine List.countP_congr fun v hv => ?_
    rw [Nat.testBit_mod_two_pow, decide_eq_true (List.mem_range.1 hv), Bool.true_and]
theorem sparse_ind {P : Nat} {l : List (Int × Int)} (hg : isGB (P : Int) l = true) (hl : ∀ x ∈ l, OkB P x) : sparseB (P : Int) 2 3 l = true ↔ IndS P l := by
  have hr : rangeB 2 3 = true := by decide
  rw [sparse_iff, over_false hg hr, Int.toNat_natCast]
  constructor
  · rintro ⟨_, _, h⟩
    refine indS_iff.1 fun m => ?_
    have h1 := h (m % 2 ^ P) (Nat.mod_lt _ (Nat.two_pow_pos P))
    obtain ⟨e1, e2⟩ := cnt_mod (m := m) hl
    unfold badS at h1 ⊢
    rw [wid_set] at h1 ⊢
    rw [e1, e2] at h1
    exact h1
  · intro h
    exact ⟨hg, hr, fun m _ => indS_iff.2 h m⟩
theorem insU_perm (x : Int × Int) : ∀ l : List (Int × Int), (insU x l).Perm (l ++ [x]) := by
  intro l
  induction l with
  | nil => exact List.Perm.refl _
  | cons y l ih =>
    unfold insU
    split
    · exact (List.Perm.cons y ih)
    · exact (List.perm_append_singleton x (y :: l)).symm
/-- The first of n tries that succeeds. -/
def fstN {α : Type} (f : Nat → Option α) : Nat → Option α
  | 0 => none
  | n + 1 => match fstN f n with | some x => some x | none => f n
theorem fstN_none {α : Type} {f : Nat → Option α} : ∀ n, fstN f n = none → ∀ i, i < n → f i = none := by
  intro n
  induction n with
  | zero => intro _ i hi; omega
  | succ n ih =>
    intro h i hi
    unfold fstN at h
    cases e : fstN f n with
    | some x => rw [e] at h; cases h
    | none =>
      rw [e] at h
      by_cases c : i = n
      · subst c; exact h
      · exact ih e i (by omega)
theorem fstN_some {α : Type} {f : Nat → Option α} {x : α} : ∀ n, fstN f n = some x → ∃ i, i < n ∧ f i = some x := by
  intro n
  induction n with
  | zero => intro h; cases h
  | succ n ih =>
    intro h
    unfold fstN at h
    cases e : fstN f n with
    | some y =>
      rw [e] at h
      obtain ⟨i, hi, q⟩ := ih (e.trans h)
      exact ⟨i, by omega, q⟩
    | none =>
      rw [e] at h
      exact ⟨n, by omega, h⟩
def undo2 (v : Int) (l : List (Int × Int)) : Option (Stp × List (Int × Int)) := if (nearL v l).length = 2 then some ((1, v, (nearL v l).getD 0 0, (nearL v l).getD 1 0, 0), offI v l) else none
/-- The neighbours i and i + 1 joined behind v's going. -/
def join3 (v : Int) (l : List (Int × Int)) (i : Nat) : List (Int × Int) := insU (brS ((nearL v l).getD i 0) ((nearL v l).getD ((i + 1) % 3) 0)) (offI v l)
noncomputable def undo3i (p v : Int) (l : List (Int × Int)) (i : Nat) : Option (Stp × List (Int × Int)) := if sparseB p 2 3 (join3 v l i) = true then some ((2, v, min ((nearL v l).getD i 0) ((nearL v l).getD ((i + 1) % 3) 0), max ((nearL v l).getD i 0) ((nearL v l).getD ((i + 1) % 3) 0), (nearL v l).getD ((i + 2) % 3) 0), join3 v l i) else none
noncomputable def undo3 (p v : Int) (l : List (Int × Int)) : Option (Stp × List (Int × Int)) := if (nearL v l).length = 3 then fstN (undo3i p v l) 3 else none
/-- The first step that can be taken back, and the graph before it. -/
noncomputable def undoF (p : Int) (l : List (Int × Int)) : Option (Stp × List (Int × Int)) :=
  match fstN (fun v => undo2 (v : Int) l) p.toNat with
  | some x => some x
  | none => fstN (fun v => undo3 p (v : Int) l) p.toNat
theorem isG_off {p v : Int} {l : List (Int × Int)} (h : IsG p l) : IsG p (offI v l) := by
  obtain ⟨h1, h2, h3, h4⟩ := isG_iff.1 h
  refine isG_iff.2 ⟨h1, Nat.le_trans (offI_len v l) h2, fun x hx => h3 x ((List.mem_filter.1 hx).1), ?_⟩
  unfold OrdB at h4 ⊢
  exact h4.sublist List.filter_sublist
theorem brS_eq (a b : Nat) : brS (a : Int) (b : Int) = brS' a b := by
  unfold brS brS'
  simp only [Prod.mk.injEq]
  omega
theorem near_nat {P v : Nat} {l : List (Int × Int)} (hl : ∀ x ∈ l, OkB P x) {i : Nat} (hi : i < (nearL (v : Int) l).length) : ∃ s : Nat, (nearL (v : Int) l).getD i 0 = (s : Int) ∧ (s : Int) ∈ nearL (v : Int) l := by
  have hm : (nearL (v : Int) l).getD i 0 ∈ nearL (v : Int) l := by
    rw [show (nearL (v : Int) l).getD i 0 = (nearL (v : Int) l)[i] by simp [List.getD, List.getElem?_eq_getElem hi]]
    exact List.getElem_mem hi
  have h2 := hm
  rw [near_oth hl] at h2
  obtain ⟨x, _, e⟩ := List.mem_map.1 h2
  rw [← near_oth hl] at e
  exact ⟨othV v x, e.symm, by rw [e]; exact hm⟩
theorem isG_yes {p : Int} {l : List (Int × Int)} (h : isGB p l = true) : IsG p l := Classical.byContradiction fun g => by rw [isGB_no g] at h; cases h
theorem join_ok {P n v i : Nat} {l : List (Int × Int)} (h : HenS P (n + 1) l) (hv : v < P) (h3 : (nearL (v : Int) l).length = 3) (hi : i < 3) (hs : sparseB (P : Int) 2 3 (join3 (v : Int) l i) = true) : HenS P n (join3 (v : Int) l i) ∧ IsG (P : Int) (join3 (v : Int) l i) := by
  have hgb := (sparse_iff.1 hs).1
  have hg := isG_yes hgb
  have hok := okB_of hg
  have hind := (sparse_ind hgb hok).1 hs
  refine ⟨?_, hg⟩
  obtain ⟨s, es, ms⟩ := near_nat (v := v) h.1 (i := i) (by omega)
  obtain ⟨t, et, mt⟩ := near_nat (v := v) h.1 (i := (i + 1) % 3) (by omega)
  unfold join3 at hok hind ⊢
  rw [es, et, brS_eq] at hok hind ⊢
  have hp := insU_perm (brS' s t) (offI (v : Int) l)
  have hst : s ≠ t := by
    intro e
    have h1 := hok (brS' s t) (hp.symm.subset (List.mem_append_right _ (List.mem_singleton.2 rfl)))
    unfold OkB brS' at h1
    simp only at h1
    omega
  exact (h.back3 hv h3 ms mt hst (indS_perm hp.symm hind)).perm hp
/-- With three used points and more there is a step, and what is left is as it was, one point less. -/
theorem undo_some {P n : Nat} {l : List (Int × Int)} (hg : IsG (P : Int) l) (h : HenS P (n + 1) l) (h3 : 2 ≤ n) : ∃ x, undoF (P : Int) l = some x ∧ HenS P n x.2 ∧ IsG (P : Int) x.2 := by
  unfold undoF
  rw [Int.toNat_natCast]
  cases e : fstN (fun v => undo2 (v : Int) l) P with
  | some x =>
    obtain ⟨v, hv, hx⟩ := fstN_some P e
    unfold undo2 at hx
    by_cases c : (nearL (v : Int) l).length = 2
    · rw [if_pos c] at hx
      injection hx with hx
      subst hx
      exact ⟨_, rfl, h.back2 hv c, isG_off hg⟩
    · rw [if_neg c] at hx
      cases hx
  | none =>
    dsimp only
    cases e3 : fstN (fun v => undo3 (P : Int) (v : Int) l) P with
    | some x =>
      obtain ⟨v, hv, hx⟩ := fstN_some P e3
      unfold undo3 at hx
      by_cases c : (nearL (v : Int) l).length = 3
      · rw [if_pos c] at hx
        obtain ⟨i, hi, hy⟩ := fstN_some 3 hx
        unfold undo3i at hy
        by_cases d : sparseB (P : Int) 2 3 (join3 (v : Int) l i) = true
        · rw [if_pos d] at hy
          injection hy with hy
          subst hy
          obtain ⟨k1, k2⟩ := join_ok h hv c hi d
          exact ⟨_, rfl, k1, k2⟩
        · rw [if_neg d] at hy
          cases hy
      · rw [if_neg c] at hx
        cases hx
    | none =>
      exfalso
      rcases h.undo (by omega) with ⟨v, hv, hl⟩ | ⟨v, a, b, c, hv, hn, hp, hd, hor⟩
      · have := fstN_none P e v hv
        unfold undo2 at this
        rw [if_pos hl] at this
        cases this
      · have h0 := fstN_none P e3 v hv
        have hlen : (nearL (v : Int) l).length = 3 := by rw [hn]; rfl
        unfold undo3 at h0
        rw [if_pos hlen] at h0
        have hno := fstN_none 3 h0
        have hol := offV_len l v
        rw [← near_deg h.1, ← off_off h.1, hlen] at hol
        have h24 := hg.2.1
        have yes : ∀ (i s t : Nat), i < 3 → s < P → t < P → s ≠ t → join3 (v : Int) l i = insU (brS' s t) (offI (v : Int) l) → IndS P (offI (v : Int) l ++ [brS' s t]) → False := by
          intro i s t hi hs ht hst hj hind
          have hG : IsG (P : Int) (join3 (v : Int) l i) := by
            rw [hj]
            refine isG_ins (isG_off hg) (by omega) ?_
            unfold brS'
            simp only
            omega
          have hsp := (sparse_ind (isGB_yes hG) (okB_of hG)).2 (by rw [hj]; exact indS_perm (insU_perm _ _) hind)
          have := hno i hi
          unfold undo3i at this
          rw [if_pos hsp] at this
          cases this
        rcases hor with q | q | q
        · exact yes 0 a b (by omega) hp.1 hp.2.1 hd.1 (by unfold join3; rw [hn, ← brS_eq]; rfl) q
        · exact yes 1 b c (by omega) hp.2.1 hp.2.2 hd.2.1 (by unfold join3; rw [hn, ← brS_eq]; rfl) q
        · exact yes 2 c a (by omega) hp.2.2 hp.1 hd.2.2 (by unfold join3; rw [hn, ← brS_eq]; rfl) q
/-- A minimally rigid graph with a bar, before any step is taken back. -/
theorem hen_start {P : Nat} {l : List (Int × Int)} (ht : tightB (P : Int) 2 3 l = true) (hl : 0 < l.length) : HenS P P l ∧ IsG (P : Int) l ∧ 2 ≤ P := by
  unfold tightB at ht
  rw [Bool.and_eq_true, decide_eq_true_eq] at ht
  obtain ⟨h1, h2⟩ := ht
  have hgb := (sparse_iff.1 h1).1
  have hok := okB_of (isG_yes hgb)
  have hind := (sparse_ind hgb hok).1 h1
  obtain ⟨U, _, hU⟩ := mask_of (fun _ => true) P
  have hw : wid P U = P := by
    unfold wid
    have : (List.range P).countP (fun v => U.testBit v) = (List.range P).length := List.countP_eq_length.2 fun v hv => hU v (List.mem_range.1 hv)
    rw [this, List.length_range]
  have hp : (l.length : Int) = 2 * (P : Int) - 3 := by
    by_cases c : 2 * (P : Int) - 3 < 0
    · rw [if_pos c] at h2; omega
    · rw [if_neg c] at h2; exact h2
  refine ⟨⟨hok, hind, U, fun x hx => ?_, by omega, hw⟩, isG_yes hgb, by omega⟩
  have h3 := hok x hx
  unfold OkB at h3
  unfold bothB
  rw [hU _ (by omega), hU _ (by omega)]
  rfl
/-- The steps, the last one first found: n used points are left. -/
noncomputable def findN (p : Int) : Nat → List (Int × Int) → List Stp → List Stp
  | 0, _, acc => acc
  | n + 1, l, acc => if l.length ≤ 1 then (0, 0, (l.getD 0 (0, 0)).1, (l.getD 0 (0, 0)).2, 0) :: acc else match undoF p l with
    | some x => findN p n x.2 (x.1 :: acc)
    | none => acc
end Go.Proofs.Ytdkpmaahinbhlaa
