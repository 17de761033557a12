/- A minimally rigid graph of three used points and more has a step that can be taken back. No program's walk. No condition. -/
import Derived.Test.YtdkpmaahinbhlaaFzHenM
import Derived.Test.YtdkpmaahinbhlaaFzDropS
namespace Go.Proofs.Ytdkpmaahinbhlaa
open Go.RowKit

theorem end_at {P v : Nat} {x : Int × Int} (h : OkB P x) : endB (v : Int) x = atV v x := by
  obtain ⟨x1, x2⟩ := x
  unfold OkB at h
  simp only at h
  rw [endB_eq]
  unfold atV
  simp only
  rw [show (x1 == (v : Int)) = decide (x1.toNat = v) by rw [Bool.eq_iff_iff]; simp; omega, show (x2 == (v : Int)) = decide (x2.toNat = v) by rw [Bool.eq_iff_iff]; simp; omega]
theorem off_off {P v : Nat} {l : List (Int × Int)} (hl : ∀ x ∈ l, OkB P x) : offI (v : Int) l = offV l v := by
  unfold offI offV
  exact List.filter_congr fun x hx => by rw [end_at (hl x hx)]
theorem oth_othV {P v : Nat} {x : Int × Int} (h : OkB P x) (ha : atV v x = true) : oth x (v : Int) = (othV v x : Int) := by
  obtain ⟨x1, x2⟩ := x
  unfold OkB at h
  unfold atV at ha
  simp only [Bool.or_eq_true, decide_eq_true_eq] at h ha
  show x1 + x2 - (v : Int) = _
  unfold othV
  simp only
  split <;> omega
theorem near_oth {P v : Nat} {l : List (Int × Int)} (hl : ∀ x ∈ l, OkB P x) : nearL (v : Int) l = (l.filter (atV v)).map fun x => (othV v x : Int) := by
  unfold nearL
  rw [List.filter_congr fun x hx => end_at (v := v) (hl x hx)]
  refine List.map_congr_left fun x hx => ?_
  have h := List.mem_filter.1 hx
  exact oth_othV (hl x h.1) h.2
theorem near_deg {P v : Nat} {l : List (Int × Int)} (hl : ∀ x ∈ l, OkB P x) : (nearL (v : Int) l).length = degV l v := by
  rw [near_oth hl, List.length_map]
  unfold degV
  rw [List.countP_eq_length_filter]
theorem oth_ok {P v : Nat} {x : Int × Int} (h : OkB P x) (ha : atV v x = true) : othV v x < P ∧ othV v x ≠ v := by
  obtain ⟨x1, x2⟩ := x
  unfold OkB at h
  unfold atV at ha
  simp only [Bool.or_eq_true, decide_eq_true_eq] at h ha
  unfold othV
  simp only
  split <;> omega
/-- Two bars from v to the same point would be too many. -/
theorem no_pair {P v : Nat} {l : List (Int × Int)} (hi : IndS P l) (hv : v < P) {x y : Int × Int} (hs : [x, y].Sublist l) (hx : OkB P x) (hax : atV v x = true) (hay : atV v y = true) : othV v x ≠ othV v y := by
  intro e
  have h1 := oth_ok hx hax
  obtain ⟨u, hu⟩ : ∃ u, othV v x = u := ⟨_, rfl⟩
  rw [hu] at e h1
  have bb : ∀ z : Int × Int, atV v z = true → othV v z = u → bothB (2 ^ u ||| 2 ^ v) z = true := by
    intro z hz ho
    unfold atV at hz
    simp only [Bool.or_eq_true, decide_eq_true_eq] at hz
    unfold othV at ho
    unfold bothB
    simp only [Nat.testBit_or, Nat.testBit_two_pow]
    split at ho
    · rename_i c
      rw [c, ho]
      simp
    · rename_i c
      have d : z.2.toNat = v := by omega
      rw [d, ho]
      simp
  have h2 : cntS [x, y] (2 ^ u ||| 2 ^ v) = 2 := by
    rw [cntS_cons, cntS_cons, if_pos (bb x hax hu), if_pos (bb y hay e.symm)]
    rfl
  have h3 := cntS_sub hs (2 ^ u ||| 2 ^ v)
  have h4 : wid P (2 ^ u) = 1 := by
    unfold wid
    have := cntR_one u P
    rw [if_pos h1.1] at this
    rw [← this]
    refine List.countP_congr fun t _ => ?_
    rw [Nat.testBit_two_pow]
    simp [eq_comm]
  have h5 := wid_with (m := 2 ^ u) hv (by rw [Nat.testBit_two_pow]; simp; exact h1.2)
  have := hi (2 ^ u ||| 2 ^ v) (by omega)
  omega
/-- A point with two bars, or one with three bars and a pair of its neighbours that a bar may join. -/
theorem hen_undo {P U : Nat} {l : List (Int × Int)} (hl : ∀ x ∈ l, OkB P x) (hi : IndS P l) (hu : ∀ x ∈ l, bothB U x = true) (hlen : l.length + 3 = 2 * wid P U) (h3 : 3 ≤ wid P U) :
    (∃ v : Nat, v < P ∧ (nearL (v : Int) l).length = 2) ∨ ∃ v a b c : Nat, v < P ∧ nearL (v : Int) l = [(a : Int), (b : Int), (c : Int)] ∧ (a < P ∧ b < P ∧ c < P) ∧ (a ≠ b ∧ b ≠ c ∧ c ≠ a) ∧
      (IndS P (offI (v : Int) l ++ [brS' a b]) ∨ IndS P (offI (v : Int) l ++ [brS' b c]) ∨ IndS P (offI (v : Int) l ++ [brS' c a])) := by
  obtain ⟨v, hv, hU, hd⟩ := hen_low hl hlen
  have hd2 := hen_two hl hi hu hlen h3 hv hU
  have hnd := near_deg (v := v) hl
  by_cases e : degV l v = 2
  · exact .inl ⟨v, hv, by omega⟩
  · have e3 : degV l v = 3 := by omega
    have hno := near_oth (v := v) hl
    have hfl : (l.filter (atV v)).length = 3 := by
      rw [← List.countP_eq_length_filter]
      exact e3
    obtain ⟨x, y, z, hxyz⟩ : ∃ x y z, l.filter (atV v) = [x, y, z] := by
      match hf : l.filter (atV v), hfl with
      | [x, y, z], _ => exact ⟨x, y, z, rfl⟩
    have hsub : [x, y, z].Sublist l := by rw [← hxyz]; exact List.filter_sublist
    have hm : ∀ t ∈ [x, y, z], t ∈ l ∧ atV v t = true := fun t ht => by rw [← hxyz] at ht; exact List.mem_filter.1 ht
    obtain ⟨mx, ax⟩ := hm x (by simp)
    obtain ⟨my, ay⟩ := hm y (by simp)
    obtain ⟨mz, az⟩ := hm z (by simp)
    have s1 : [x, y].Sublist l := List.Sublist.trans (by simp) hsub
    have s2 : [y, z].Sublist l := List.Sublist.trans (by simp) hsub
    have s3 : [x, z].Sublist l := List.Sublist.trans (by simp) hsub
    have n1 := no_pair hi hv s1 (hl x mx) ax ay
    have n2 := no_pair hi hv s2 (hl y my) ay az
    have n3 := no_pair hi hv s3 (hl x mx) ax az
    have ox := oth_ok (hl x mx) ax
    have oy := oth_ok (hl y my) ay
    have oz := oth_ok (hl z mz) az
    refine .inr ⟨v, othV v x, othV v y, othV v z, hv, ?_, ⟨ox.1, oy.1, oz.1⟩, ⟨n1, n2, fun e => n3 e.symm⟩, ?_⟩
    · rw [hno, hxyz]
      rfl
    · rw [off_off hl]
      refine hen_three hl hi hv e3 ox oy oz n1 n2 (fun e => n3 e.symm) (fun t ht hat => ?_) pairB_br pairB_br pairB_br
      have : t ∈ [x, y, z] := by rw [← hxyz]; exact List.mem_filter.2 ⟨ht, hat⟩
      simp only [List.mem_cons, List.not_mem_nil, or_false] at this
      rcases this with rfl | rfl | rfl
      · exact .inl rfl
      · exact .inr (.inl rfl)
      · exact .inr (.inr rfl)
theorem indS_perm {P : Nat} {l r : List (Int × Int)} (p : r.Perm l) (h : IndS P l) : IndS P r := fun m hm => by
  have e : cntS r m = cntS l m := p.countP_eq _
  rw [e] at hm ⊢
  exact h m hm
/-- What stands while steps are taken back: n used points, 2n - 3 bars between them, no set with too many. -/
def HenS (P n : Nat) (l : List (Int × Int)) : Prop := (∀ x ∈ l, OkB P x) ∧ IndS P l ∧ ∃ U, (∀ x ∈ l, bothB U x = true) ∧ l.length + 3 = 2 * wid P U ∧ wid P U = n
theorem HenS.perm {P n : Nat} {l r : List (Int × Int)} (p : r.Perm l) (h : HenS P n l) : HenS P n r := by
  obtain ⟨h1, h2, U, h3, h4, h5⟩ := h
  exact ⟨fun x hx => h1 x (p.subset hx), indS_perm p h2, U, fun x hx => h3 x (p.subset hx), by rw [p.length_eq]; exact h4, h5⟩
/-- The set of the used points without v. -/
theorem used_less {P v U : Nat} {l : List (Int × Int)} (hl : ∀ x ∈ l, OkB P x) (hu : ∀ x ∈ l, bothB U x = true) (hv : v < P) (hd : 0 < degV l v) : U.testBit v = true ∧ ∃ m, wid P m + 1 = wid P U ∧ (∀ x ∈ offV l v, bothB m x = true) ∧ ∀ u, u < P → u ≠ v → m.testBit u = U.testBit u := by
  have hU : U.testBit v = true := by
    unfold degV at hd
    obtain ⟨x, hx, hax⟩ := List.countP_pos_iff.1 hd
    have h := hu x hx
    unfold bothB at h
    unfold atV at hax
    rw [Bool.and_eq_true] at h
    simp only [Bool.or_eq_true, decide_eq_true_eq] at hax
    rcases hax with e | e
    · rw [← e]; exact h.1
    · rw [← e]; exact h.2
  refine ⟨hU, ?_⟩
  have hlo : ∀ x ∈ offV l v, OkB P x := fun x hx => hl x ((offV_sub l v).subset hx)
  have ho : ∀ x ∈ offV l v, atV v x = false := fun x hx => by
    have := (List.mem_filter.1 hx).2
    simpa using this
  obtain ⟨m, _, w1, _, w3⟩ := without hv hU hlo ho
  refine ⟨m, w1, fun x hx => ?_, w3⟩
  have h1 := hlo x hx
  have h2 := ho x hx
  have h3 := hu x ((offV_sub l v).subset hx)
  unfold OkB at h1
  unfold atV at h2
  simp only [Bool.or_eq_false_iff, decide_eq_false_iff_not] at h2
  unfold bothB at h3 ⊢
  rw [w3 _ (by omega) h2.1, w3 _ (by omega) h2.2]
  exact h3
/-- A point with two bars is taken away. -/
theorem HenS.back2 {P n v : Nat} {l : List (Int × Int)} (h : HenS P (n + 1) l) (hv : v < P) (h2 : (nearL (v : Int) l).length = 2) : HenS P n (offI (v : Int) l) := by
  obtain ⟨h1, hi, U, hu, hlen, hw⟩ := h
  rw [near_deg h1] at h2
  obtain ⟨_, m, w1, w2, _⟩ := used_less h1 hu hv (by omega)
  have hol := offV_len l v
  rw [off_off h1]
  exact ⟨fun x hx => h1 x ((offV_sub l v).subset hx), indS_sub (offV_sub l v) hi, m, w2, by omega, by omega⟩
/-- A point with three bars is taken away, and two of its neighbours are joined. -/
theorem HenS.back3 {P n v s t : Nat} {l : List (Int × Int)} (h : HenS P (n + 1) l) (hv : v < P) (h3 : (nearL (v : Int) l).length = 3) (hs : (s : Int) ∈ nearL (v : Int) l) (ht : (t : Int) ∈ nearL (v : Int) l) (hst : s ≠ t) (hi' : IndS P (offI (v : Int) l ++ [brS' s t])) : HenS P n (offI (v : Int) l ++ [brS' s t]) := by
  obtain ⟨h1, hi, U, hu, hlen, hw⟩ := h
  have hno := near_oth (v := v) h1
  rw [near_deg h1] at h3
  obtain ⟨_, m, w1, w2, w3⟩ := used_less h1 hu hv (by omega)
  have hol := offV_len l v
  rw [off_off h1] at hi' ⊢
  have key : ∀ u : Nat, (u : Int) ∈ nearL (v : Int) l → u < P ∧ m.testBit u = true := by
    intro u hm
    rw [hno] at hm
    obtain ⟨x, hx, e⟩ := List.mem_map.1 hm
    have hx2 := List.mem_filter.1 hx
    have e2 : othV v x = u := by omega
    have ok := oth_ok (h1 x hx2.1) hx2.2
    rw [e2] at ok
    refine ⟨ok.1, ?_⟩
    rw [w3 u ok.1 ok.2, ← e2]
    have hb := hu x hx2.1
    unfold bothB at hb
    rw [Bool.and_eq_true] at hb
    unfold othV
    split
    · exact hb.2
    · exact hb.1
  have ks := key s hs
  have kt := key t ht
  refine ⟨fun x hx => ?_, hi', m, fun x hx => ?_, ?_, by omega⟩
  · rcases List.mem_append.1 hx with hx | hx
    · exact h1 x ((offV_sub l v).subset hx)
    · rw [List.mem_singleton] at hx
      subst hx
      unfold brS' OkB
      simp only
      omega
  · rcases List.mem_append.1 hx with hx | hx
    · exact w2 x hx
    · rw [List.mem_singleton] at hx
      subst hx
      rw [pairB_br, ks.2, kt.2]
      rfl
  · rw [List.length_append, List.length_cons, List.length_nil]
    omega
/-- One bar is left exactly when two points are used. -/
theorem HenS.one {P n : Nat} {l : List (Int × Int)} (h : HenS P n l) : (l.length + 3 = 2 * n) := by
  obtain ⟨_, _, U, _, h4, h5⟩ := h
  omega
theorem HenS.undo {P n : Nat} {l : List (Int × Int)} (h : HenS P n l) (h3 : 3 ≤ n) : (∃ v : Nat, v < P ∧ (nearL (v : Int) l).length = 2) ∨ ∃ v a b c : Nat, v < P ∧ nearL (v : Int) l = [(a : Int), (b : Int), (c : Int)] ∧ (a < P ∧ b < P ∧ c < P) ∧ (a ≠ b ∧ b ≠ c ∧ c ≠ a) ∧
      (IndS P (offI (v : Int) l ++ [brS' a b]) ∨ IndS P (offI (v : Int) l ++ [brS' b c]) ∨ IndS P (offI (v : Int) l ++ [brS' c a])) := by
  obtain ⟨h1, h2, U, h4, h5, h6⟩ := h
  exact hen_undo h1 h2 h4 h5 (by omega)
end Go.Proofs.Ytdkpmaahinbhlaa
