/- The reduction of rows column by column, as the program runs it, with the rows in lowest terms that the specification keeps. Words on numbers. No condition. -/
import Derived.Test.YtcfgljfpkhefmaaFormM
import Derived.Test.YtcfgljfpkhefmaaPrimM
namespace Go.Proofs.Ytcfgljfpkhefmaa

theorem BarS.congr {n m k : Nat} {R R' : Nat → Nat → Int} {D : Int} (h : BarS n m k R D) (e : ∀ i, i < m → ∀ j, j < n → R i j = R' i j) : BarS n m k R' D := by
  obtain ⟨T, S, a, h1, h2, h3, h4, h5, h6, h7, h8, h9⟩ := h.ops
  refine ⟨h.nz, h.le, T, S, a, h1, h2, h3, fun i hi => ?_, fun i hi p => ?_, h6, h7, h8, h9⟩
  · rw [h4 i hi]; exact wed_congr n _ (e i hi)
  · rw [h5 i hi]; exact wed_congr n _ (e i hi)
theorem abs_of_sq {x b : Int} (hb : 0 ≤ b) (h : x * x ≤ b * b) : -b ≤ x ∧ x ≤ b := by
  constructor
  · apply Int.not_lt.1; intro hx
    have h1 : b < -x := by omega
    have h2 : b * b < (-x) * (-x) := Int.lt_of_le_of_lt (Int.mul_le_mul_of_nonneg_left (by omega) hb) (Int.mul_lt_mul_of_pos_right h1 (by omega))
    rw [Int.neg_mul_neg] at h2; omega
  · apply Int.not_lt.1; intro hx
    have h2 : b * b < x * x := Int.lt_of_le_of_lt (Int.mul_le_mul_of_nonneg_left (by omega) hb) (Int.mul_lt_mul_of_pos_right hx (by omega))
    omega
theorem pow64_le {k : Nat} (h : k ≤ 9) : (64 : Int) ^ k ≤ 134217728 * 134217728 := by
  have : k = 0 ∨ k = 1 ∨ k = 2 ∨ k = 3 ∨ k = 4 ∨ k = 5 ∨ k = 6 ∨ k = 7 ∨ k = 8 ∨ k = 9 := by omega
  rcases this with rfl | rfl | rfl | rfl | rfl | rfl | rfl | rfl | rfl | rfl <;> decide
theorem BarS.lim {n m k : Nat} {R : Nat → Nat → Int} {D : Int} (h : BarS n m k R D) (hm : m ≤ 9) {i j : Nat} (hi : i < m) (hj : j < n) : -134217728 ≤ R i j ∧ R i j ≤ 134217728 := by
  apply abs_of_sq (by decide)
  refine Int.le_trans (h.small hi hj) (pow64_le ?_)
  have := h.le
  split <;> omega
theorem BarS.dlim {n m k : Nat} {R : Nat → Nat → Int} {D : Int} (h : BarS n m k R D) (hm : m ≤ 9) : -134217728 ≤ D ∧ D ≤ 134217728 := by
  apply abs_of_sq (by decide)
  exact Int.le_trans h.dsmall (pow64_le (Nat.le_trans h.le hm))
/-- The first of t numbers from k on for which p holds; k + t if none. -/
def fstI (p : Nat → Bool) : Nat → Nat → Nat
  | 0, k => k
  | t + 1, k => if p k then k else fstI p t (k + 1)
theorem fstI_spec (p : Nat → Bool) : ∀ t k, k ≤ fstI p t k ∧ fstI p t k ≤ k + t ∧ (fstI p t k < k + t → p (fstI p t k) = true) ∧ (∀ i, k ≤ i → i < fstI p t k → p i = false) := by
  intro t
  induction t with
  | zero => intro k; exact ⟨Nat.le_refl _, Nat.le_refl _, fun h => absurd h (Nat.lt_irrefl _), fun i h1 h2 => absurd h2 (Nat.not_lt.2 h1)⟩
  | succ t ih =>
    intro k
    unfold fstI
    by_cases h : p k
    · rw [if_pos h]
      exact ⟨Nat.le_refl _, by omega, fun _ => h, fun i h1 h2 => absurd h2 (Nat.not_lt.2 h1)⟩
    · rw [if_neg h]
      obtain ⟨h1, h2, h3, h4⟩ := ih (k + 1)
      refine ⟨by omega, by omega, fun hh => h3 (by omega), fun i hi hi2 => ?_⟩
      by_cases e : i = k
      · subst e; exact Bool.eq_false_iff.2 h
      · exact h4 i (by omega) hi2
theorem fstI_uniq {p : Nat → Bool} {t k f : Nat} (h1 : k ≤ f) (h2 : f ≤ k + t) (h3 : f < k + t → p f = true) (h4 : ∀ i, k ≤ i → i < f → p i = false) : fstI p t k = f := by
  obtain ⟨g1, g2, g3, g4⟩ := fstI_spec p t k
  rcases Nat.lt_trichotomy (fstI p t k) f with h | h | h
  · have := h4 _ g1 h; rw [g3 (by omega)] at this; cases this
  · exact h
  · have := g4 _ h1 h; rw [h3 (by omega)] at this; cases this
/-- Two rows exchanged. -/
def barSwap (R : Nat → Nat → Int) (k f : Nat) : Nat → Nat → Int := fun i => if i = k then R f else if i = f then R k else R i
/-- All rows but the pivot's own are cleared in column c. -/
def barStep (R : Nat → Nat → Int) (k : Nat) (D : Int) (c : Nat) : Nat → Nat → Int := fun i j => if i = k then R k j else Int.tdiv (R i j * R k c - R k j * R i c) D
/-- Reduced rows: the numbers, the last pivot, the columns with pivots. -/
structure Red where
  R : Nat → Nat → Int
  D : Int
  pv : List Nat
def Red.first (m : Nat) (s : Red) (c : Nat) : Nat := fstI (fun i => s.R i c != 0) (m - s.pv.length) s.pv.length
def Red.take (m : Nat) (s : Red) (c : Nat) : Red :=
  if s.first m c < m then ⟨barStep (barSwap s.R s.pv.length (s.first m c)) s.pv.length s.D c, s.R (s.first m c) c, s.pv ++ [c]⟩ else s
def Red.run (m : Nat) (A : Nat → Nat → Int) : Nat → Red
  | 0 => ⟨A, 1, []⟩
  | c + 1 => (Red.run m A c).take m c
/-- What stands while columns are taken. -/
structure RedS (n m : Nat) (s : Red) (c : Nat) : Prop where
  bar : BarS n m s.pv.length s.R s.D
  asc : ∀ x ∈ s.pv, x < c
  own : ∀ t (h : t < s.pv.length), s.R t (s.pv[t]'h) = s.D
  zer : ∀ t (h : t < s.pv.length), ∀ i, i < m → i ≠ t → s.R i (s.pv[t]'h) = 0
theorem RedS.take {n m c : Nat} {s : Red} (h : RedS n m s c) (hc : c < n) : RedS n m (s.take m c) (c + 1) := by
  unfold Red.take
  by_cases hf : s.first m c < m
  · rw [if_pos hf]
    obtain ⟨g1, g2, g3, g4⟩ := fstI_spec (fun i => s.R i c != 0) (m - s.pv.length) s.pv.length
    have hle := h.bar.le
    have hnz : s.R (s.first m c) c ≠ 0 := by
      have := g3 (by show s.first m c < _; omega)
      exact fun e => by rw [show fstI _ _ _ = s.first m c from rfl] at this; simp [e] at this
    have hkf : s.pv.length ≤ s.first m c := g1
    generalize s.first m c = f at *
    have b1 := h.bar.swap hkf hf
    have b1' : BarS n m s.pv.length (barSwap s.R s.pv.length f) s.D := b1
    have hk : barSwap s.R s.pv.length f s.pv.length = s.R f := if_pos rfl
    obtain ⟨R', e1, e2, b2⟩ := b1'.step (c := c) hc (by omega) (by rw [hk]; exact hnz)
    have eq : ∀ i, i < m → ∀ j, j < n → R' i j = barStep (barSwap s.R s.pv.length f) s.pv.length s.D c i j := by
      intro i hi j hj
      unfold barStep
      by_cases e : i = s.pv.length
      · rw [if_pos e, e, e1]
      · rw [if_neg e, ← e2 i hi e j hj, Int.mul_tdiv_cancel_left _ h.bar.nz]
    refine ⟨?_, ?_, ?_, ?_⟩
    · rw [hk] at b2
      show BarS n m (s.pv ++ [c]).length _ _
      rw [List.length_append]
      exact b2.congr eq
    · intro x hx
      rcases List.mem_append.1 hx with hx | hx
      · have := h.asc x hx; omega
      · rw [List.mem_singleton.1 hx]; omega
    · intro t ht
      show barStep _ _ _ _ t ((s.pv ++ [c])[t]'ht) = s.R f c
      have ht' : t < s.pv.length + 1 := by simpa using ht
      by_cases e : t = s.pv.length
      · subst e
        rw [List.getElem_append_right (Nat.le_refl _)]
        simp only [Nat.sub_self, List.getElem_cons_zero]
        unfold barStep; rw [if_pos rfl, hk]
      · have htl : t < s.pv.length := by omega
        rw [List.getElem_append_left htl]
        unfold barStep; rw [if_neg e, hk]
        have z1 : barSwap s.R s.pv.length f t = s.R t := by unfold barSwap; rw [if_neg e, if_neg (by omega)]
        rw [z1, h.own t htl, h.zer t htl f hf (by omega), Int.zero_mul, Int.sub_zero, Int.mul_tdiv_cancel_left _ h.bar.nz]
    · intro t ht i hi hne
      show barStep _ _ _ _ i ((s.pv ++ [c])[t]'ht) = 0
      have ht' : t < s.pv.length + 1 := by simpa using ht
      by_cases e : t = s.pv.length
      · subst e
        rw [List.getElem_append_right (Nat.le_refl _)]
        simp only [Nat.sub_self, List.getElem_cons_zero]
        unfold barStep; rw [if_neg hne, Int.mul_comm, Int.sub_self, Int.zero_tdiv]
      · have htl : t < s.pv.length := by omega
        rw [List.getElem_append_left htl]
        have z2 : ∀ i', i' < m → i' ≠ t → s.R i' (s.pv[t]) = 0 := h.zer t htl
        unfold barStep
        by_cases e3 : i = s.pv.length
        · rw [if_pos e3, hk]; exact z2 f hf (by omega)
        · rw [if_neg e3, hk, z2 f hf (by omega)]
          have : barSwap s.R s.pv.length f i (s.pv[t]) = 0 := by
            unfold barSwap; rw [if_neg e3]; split
            · exact z2 _ (by omega) (by omega)
            · exact z2 _ hi hne
          rw [this, Int.zero_mul, Int.zero_mul, Int.sub_self, Int.zero_tdiv]
  · rw [if_neg hf]
    exact ⟨h.bar, fun x hx => by have := h.asc x hx; omega, h.own, h.zer⟩
theorem RedS.run {n m : Nat} {A : Nat → Nat → Int} (hA : ∀ i, i < m → dotV (A i) (A i) n ≤ 64) : ∀ c, c ≤ n → RedS n m (Red.run m A c) c := by
  intro c
  induction c with
  | zero => intro _; exact ⟨BarS.start hA, fun x hx => (by cases hx), fun t h => absurd h (Nat.not_lt_zero _), fun t h => absurd h (Nat.not_lt_zero _)⟩
  | succ c ih => intro hc; exact (ih (by omega)).take (by omega)
/-- The division is exact. -/
theorem RedS.exact {n m c : Nat} {s : Red} (h : RedS n m s c) (hc : c < n) (hf : s.first m c < m) {i j : Nat} (hi : i < m) (hne : i ≠ s.pv.length) (hj : j < n) :
    s.D * (s.take m c).R i j = barSwap s.R s.pv.length (s.first m c) i j * s.R (s.first m c) c - s.R (s.first m c) j * barSwap s.R s.pv.length (s.first m c) i c := by
  have hle := h.bar.le
  obtain ⟨g1, g2, g3, g4⟩ := fstI_spec (fun i => s.R i c != 0) (m - s.pv.length) s.pv.length
  have hnz : s.R (s.first m c) c ≠ 0 := by
    have := g3 (by show s.first m c < _; omega)
    exact fun e => by rw [show fstI _ _ _ = s.first m c from rfl] at this; simp [e] at this
  have hkf : s.pv.length ≤ s.first m c := g1
  unfold Red.take
  rw [if_pos hf]
  generalize s.first m c = f at *
  have b1 : BarS n m s.pv.length (barSwap s.R s.pv.length f) s.D := h.bar.swap hkf hf
  have hk : barSwap s.R s.pv.length f s.pv.length = s.R f := if_pos rfl
  obtain ⟨R', e1, e2, b2⟩ := b1.step (c := c) hc (by omega) (by rw [hk]; exact hnz)
  have := e2 i hi hne j hj
  rw [hk] at this
  show s.D * barStep _ _ _ _ i j = _
  unfold barStep
  rw [if_neg hne, hk, ← this, Int.mul_tdiv_cancel_left _ h.bar.nz]
def rowF (n : Nat) (f : Nat → Int) : List Int := (List.range n).map f
theorem rowF_len (n : Nat) (f : Nat → Int) : (rowF n f).length = n := by unfold rowF; rw [List.length_map, List.length_range]
theorem rowF_get {n j : Nat} {f : Nat → Int} (h : j < (rowF n f).length) : (rowF n f)[j] = f j := by
  simp only [rowF, List.getElem_map, List.getElem_range]
theorem rowF_getD {n j : Nat} {f : Nat → Int} (h : j < n) : (rowF n f).getD j 0 = f j := by
  rw [List.getD_eq_getElem?_getD, List.getElem?_eq_getElem (by rw [rowF_len]; exact h), Option.getD_some, rowF_get]
theorem rowF_congr {n : Nat} {f g : Nat → Int} (h : ∀ j, j < n → f j = g j) : rowF n f = rowF n g := by
  unfold rowF
  exact List.map_congr_left fun j hj => h j (List.mem_range.1 hj)
theorem rowF_of (v : List Int) : rowF v.length (fun j => v.getD j 0) = v := by
  apply List.ext_getElem (rowF_len ..)
  intro i h1 h2
  rw [rowF_get h1, List.getD_eq_getElem?_getD, List.getElem?_eq_getElem h2, Option.getD_some]
/-- A row without a column, as the specification writes it. -/
def wOut (P Q : List Int) (c n : Nat) : List Int :=
  rowF n fun j => P.getD j 0 * Int.tdiv (Q.getD c 0) (Int.gcd (P.getD c 0) (Q.getD c 0)) - Q.getD j 0 * Int.tdiv (P.getD c 0) (Int.gcd (P.getD c 0) (Q.getD c 0))
theorem prim_prop {n : Nat} {f g : Nat → Int} {a b : Int} (ha : a ≠ 0) (hb : b ≠ 0) (h : ∀ j, j < n → a * f j = b * g j) : primV (rowF n f) = primV (rowF n g) := by
  apply primV_prop ha hb
  unfold rowF
  rw [List.map_map, List.map_map]
  exact List.map_congr_left fun j hj => h j (List.mem_range.1 hj)
theorem prim_getD (n : Nat) (f : Nat → Int) : ∃ s : Int, s ≠ 0 ∧ ∀ j, j < n → f j = s * (primV (rowF n f)).getD j 0 := by
  obtain ⟨s, hs, e⟩ := primV_eq (rowF n f)
  refine ⟨s, hs, fun j hj => ?_⟩
  have hl : j < (rowF n f).length := by rw [rowF_len]; exact hj
  have hl2 : j < (primV (rowF n f)).length := by rw [primV_len]; exact hl
  have h1 : (rowF n f)[j]? = ((primV (rowF n f)).map (s * ·))[j]? := by rw [← e]
  rw [List.getElem?_map, List.getElem?_eq_getElem hl, List.getElem?_eq_getElem hl2, rowF_get] at h1
  rw [List.getD_eq_getElem?_getD, List.getElem?_eq_getElem hl2, Option.getD_some]
  exact Option.some.inj h1
/-- One row's step, as both sides take it. -/
theorem prim_step {n c : Nat} {r q r' : Nat → Int} {D : Int} (hD : D ≠ 0) (hc : c < n) (hq : q c ≠ 0) (h : ∀ j, j < n → D * r' j = r j * q c - q j * r c) :
    primV (rowF n r') = if (primV (rowF n r)).getD c 0 = 0 then primV (rowF n r) else primV (wOut (primV (rowF n r)) (primV (rowF n q)) c n) := by
  obtain ⟨s, hs, hr⟩ := prim_getD n r
  obtain ⟨t, ht, hq2⟩ := prim_getD n q
  by_cases e : (primV (rowF n r)).getD c 0 = 0
  · rw [if_pos e]
    have : r c = 0 := by rw [hr c hc, e, Int.mul_zero]
    refine prim_prop hD hq fun j hj => ?_
    rw [h j hj, this, Int.mul_zero, Int.sub_zero, Int.mul_comm]
  · rw [if_neg e]
    unfold wOut
    generalize primV (rowF n r) = P at *
    generalize primV (rowF n q) = Q at *
    have hg : ((Int.gcd (P.getD c 0) (Q.getD c 0) : Nat) : Int) ≠ 0 := by
      intro h0
      have : Int.gcd (P.getD c 0) (Q.getD c 0) = 0 := by omega
      exact e (Int.gcd_eq_zero_iff.1 this).1
    obtain ⟨x, hx⟩ := Int.gcd_dvd_right (P.getD c 0) (Q.getD c 0)
    obtain ⟨y, hy⟩ := Int.gcd_dvd_left (P.getD c 0) (Q.getD c 0)
    generalize ((Int.gcd (P.getD c 0) (Q.getD c 0) : Nat) : Int) = g at *
    refine prim_prop hD (b := s * t * g) (Int.mul_ne_zero (Int.mul_ne_zero hs ht) hg) fun j hj => ?_
    rw [h j hj, hr j hj, hq2 c hc, hq2 j hj, hr c hc, hx, hy, Int.mul_tdiv_cancel_left _ hg, Int.mul_tdiv_cancel_left _ hg]
    clear h hr hq2 hx hy e hq
    generalize P.getD j 0 = p at *
    generalize Q.getD j 0 = u at *
    grind
end Go.Proofs.Ytcfgljfpkhefmaa
