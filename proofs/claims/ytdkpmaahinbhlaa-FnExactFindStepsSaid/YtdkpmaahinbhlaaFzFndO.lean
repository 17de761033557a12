/- A minimally rigid graph with a bar is where steps can be taken back from. No program's walk. No condition. -/
import Derived.Test.YtdkpmaahinbhlaaFzFndN
import Derived.Test.YtdkpmaahinbhlaaFzForV
import Derived.Test.YtdkpmaahinbhlaaFzB1
namespace Go.Proofs.Ytdkpmaahinbhlaa
open Go.RowKit

theorem min_hen {P : Nat} {l : List (Int × Int)} (h : minB (P : Int) l = true) (hl : 0 < l.length) : HenS P P l ∧ IsG (P : Int) l ∧ 2 ≤ P := by
  unfold minB rigB at h
  rw [Bool.and_eq_true, decide_eq_true_eq, decide_eq_true_eq] at h
  obtain ⟨h1, h2⟩ := h
  have hgb : isGB (P : Int) l = true := by
    cases e : isGB (P : Int) l with
    | true => rfl
    | false =>
      unfold frdV at h1
      rw [e] at h1
      simp at h1
  have hg := isG_yes hgb
  unfold frdV fullV at h1
  rw [if_pos hgb, h2] at h1
  have hr : rangeB 2 3 = true := by decide
  have hnew : newB (P : Int) 2 l = true := by
    unfold newB
    rw [hgb]
    rfl
  have hrk : rk P 2 3 l = l.length := by
    unfold rankV at h2
    rw [if_pos (runV_yes hnew hr).1, (runV_yes hnew hr).2] at h2
    unfold rk
    omega
  have hok := okB_of hg
  have hb : Bars P l := ⟨fun i hi => by
    have := hok l[i] (List.getElem_mem hi)
    rw [show l.getD i (0, 0) = l[i] by simp [List.getD, List.getElem?_eq_getElem hi]]
    exact this⟩
  have hP : 1 ≤ P ∧ P ≤ 8 := by have := hg.1; omega
  have hi := (rk_full hb hP (by decide) (by decide) (by decide)).1 hrk
  refine hen_start ?_ hl
  unfold tightB
  rw [Bool.and_eq_true, decide_eq_true_eq]
  exact ⟨(sparse_ind hgb hok).2 (indS_iff.1 hi), by omega⟩
theorem findN_round {P n : Nat} {l : List (Int × Int)} (acc : List Stp) (hg : IsG (P : Int) l) (h : HenS P (n + 2) l) (h2 : 1 ≤ n) : ∃ x, undoF (P : Int) l = some x ∧ HenS P (n + 1) x.2 ∧ IsG (P : Int) x.2 ∧ findN (P : Int) (n + 1) l acc = findN (P : Int) n x.2 (x.1 :: acc) := by
  obtain ⟨x, h3, h4, h5⟩ := undo_some hg h (by omega)
  refine ⟨x, h3, h4, h5, ?_⟩
  have hl := h.one
  rw [findN, if_neg (by omega), h3]
theorem findN_end {P : Nat} {l : List (Int × Int)} (acc : List Stp) (h : HenS P 2 l) : l.length = 1 ∧ findN (P : Int) 1 l acc = (0, 0, (l.getD 0 (0, 0)).1, (l.getD 0 (0, 0)).2, 0) :: acc := by
  have hl := h.one
  refine ⟨by omega, ?_⟩
  rw [findN, if_pos (by omega)]
theorem findN_len {P : Nat} : ∀ (n : Nat) (l : List (Int × Int)) (acc : List Stp), 1 ≤ n → HenS P (n + 1) l → IsG (P : Int) l → (findN (P : Int) n l acc).length = acc.length + n := by
  intro n
  induction n with
  | zero => intro _ _ h; omega
  | succ n ih =>
    intro l acc _ h hg
    by_cases c : n = 0
    · subst c
      rw [(findN_end acc h).2, List.length_cons]
    · obtain ⟨x, _, h4, h5, h6⟩ := findN_round acc hg h (by omega)
      rw [h6, ih _ _ (by omega) h4 h5, List.length_cons]
      omega
end Go.Proofs.Ytdkpmaahinbhlaa
