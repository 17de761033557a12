/- The vectors that a reduced matrix takes to zero: the program's, by the last pivot, and the specification's, by the least common multiple, are the same in lowest terms; the rows that the specification keeps are the program's in lowest terms. Words on numbers. No condition. -/
import Derived.Test.YtcfgljfpkhefmaaRedM
namespace Go.Proofs.Ytcfgljfpkhefmaa

/-- A number of a reduced row in lowest terms. -/
def pcell (n : Nat) (s : Red) (i j : Nat) : Int := (primV (rowF n (s.R i))).getD j 0
/-- By how much row t asks the multiple to grow. -/
def nullQ (n : Nat) (s : Red) (free t : Nat) : Nat := (pcell n s t (s.pv.getD t 0)).natAbs / Nat.gcd (pcell n s t (s.pv.getD t 0)).natAbs (pcell n s t free).natAbs
/-- The least multiple that the first t rows allow. -/
def nullD (n : Nat) (s : Red) (free : Nat) : Nat → Nat
  | 0 => 1
  | t + 1 => Nat.lcm (nullD n s free t) (nullQ n s free t)
/-- The vector of a free column, as the program writes it. -/
def nullF (s : Red) (free : Nat) (t : Nat) : Nat → Int
  | j => if j = free then s.D else match t with
    | 0 => 0
    | t + 1 => if s.pv.getD t 0 = j then -s.R t free else nullF s free t j
/-- The same as the specification writes it. -/
def nullE (n : Nat) (s : Red) (free d : Nat) (t : Nat) : Nat → Int
  | j => if j = free then d else match t with
    | 0 => 0
    | t + 1 => if s.pv.getD t 0 = j then -(Int.tdiv (pcell n s t free * d) (pcell n s t (s.pv.getD t 0))) else nullE n s free d t j
def nullV (n : Nat) (s : Red) (free : Nat) : List Int := primV (rowF n (nullF s free s.pv.length))
theorem RedS.pv_lt {n m c : Nat} {s : Red} (h : RedS n m s c) {t : Nat} (ht : t < s.pv.length) : s.pv.getD t 0 < c ∧ s.R t (s.pv.getD t 0) = s.D := by
  rw [List.getD_eq_getElem?_getD, List.getElem?_eq_getElem ht, Option.getD_some]
  exact ⟨h.asc _ (List.getElem_mem ht), h.own t ht⟩
theorem RedS.pc {n m c : Nat} {s : Red} (h : RedS n m s c) (hc : c ≤ n) {free : Nat} (hf : free < n) {t : Nat} (ht : t < s.pv.length) :
    ∃ u : Int, u ≠ 0 ∧ s.D = u * pcell n s t (s.pv.getD t 0) ∧ s.R t free = u * pcell n s t free := by
  obtain ⟨u, hu, e⟩ := prim_getD n (s.R t)
  have := h.pv_lt ht
  exact ⟨u, hu, by rw [← this.2]; exact e _ (by omega), e _ hf⟩
theorem RedS.pnz {n m c : Nat} {s : Red} (h : RedS n m s c) (hc : c ≤ n) {t : Nat} (ht : t < s.pv.length) : pcell n s t (s.pv.getD t 0) ≠ 0 := by
  have h1 := h.pv_lt ht
  obtain ⟨u, hu, e1, e2⟩ := h.pc hc (free := s.pv.getD t 0) (by omega) ht
  intro e
  rw [e, Int.mul_zero] at e1
  exact h.bar.nz e1
theorem pcell_lim {n m c : Nat} {s : Red} (h : RedS n m s c) (hm : m ≤ 9) {i j : Nat} (hi : i < m) (hj : j < n) : -134217728 ≤ pcell n s i j ∧ pcell n s i j ≤ 134217728 := by
  obtain ⟨u, hu, e⟩ := prim_getD n (s.R i)
  have h1 := h.bar.lim hm hi hj
  rw [e j hj] at h1
  show -134217728 ≤ (primV (rowF n (s.R i))).getD j 0 ∧ (primV (rowF n (s.R i))).getD j 0 ≤ 134217728
  generalize (primV (rowF n (s.R i))).getD j 0 = x at *
  have ha : (u * x).natAbs ≤ 134217728 := by omega
  rw [Int.natAbs_mul] at ha
  have hb : 1 * x.natAbs ≤ u.natAbs * x.natAbs := Nat.mul_le_mul_right _ (by omega)
  omega
theorem RedS.nullQ_dvd {n m c : Nat} {s : Red} (h : RedS n m s c) (hc : c ≤ n) {free : Nat} (hf : free < n) {t : Nat} (ht : t < s.pv.length) : nullQ n s free t ∣ s.D.natAbs ∧ 0 < nullQ n s free t := by
  obtain ⟨u, hu, e1, e2⟩ := h.pc hc hf ht
  have hz := h.pnz hc ht
  unfold nullQ
  have hp : 0 < (pcell n s t (s.pv.getD t 0)).natAbs := by omega
  refine ⟨?_, Nat.div_pos (Nat.le_of_dvd hp (Nat.gcd_dvd_left ..)) (Nat.gcd_pos_of_pos_left _ hp)⟩
  rw [e1, Int.natAbs_mul]
  exact Nat.dvd_trans (Nat.div_dvd_of_dvd (Nat.gcd_dvd_left ..)) (Nat.dvd_mul_left ..)
theorem RedS.nullD_dvd {n m c : Nat} {s : Red} (h : RedS n m s c) (hc : c ≤ n) {free : Nat} (hf : free < n) : ∀ t, t ≤ s.pv.length → nullD n s free t ∣ s.D.natAbs ∧ 0 < nullD n s free t := by
  intro t
  induction t with
  | zero => intro _; exact ⟨Nat.one_dvd _, Nat.one_pos⟩
  | succ t ih =>
    intro ht
    obtain ⟨h1, h2⟩ := ih (by omega)
    obtain ⟨h3, h4⟩ := h.nullQ_dvd hc hf (t := t) (by omega)
    exact ⟨Nat.lcm_dvd h1 h3, Nat.lcm_pos h2 h4⟩
theorem nullQ_dvd_D (n : Nat) (s : Red) (free : Nat) : ∀ t u, u < t → nullQ n s free u ∣ nullD n s free t := by
  intro t
  induction t with
  | zero => intro u hu; omega
  | succ t ih =>
    intro u hu
    show _ ∣ Nat.lcm _ _
    by_cases e : u = t
    · subst e; exact Nat.dvd_lcm_right ..
    · exact Nat.dvd_trans (ih u (by omega)) (Nat.dvd_lcm_left ..)
/-- The quotient of the specification is exact, and the same multiple. -/
theorem RedS.nullX {n m c : Nat} {s : Red} (h : RedS n m s c) (hc : c ≤ n) {free : Nat} (hf : free < n) {t : Nat} (ht : t < s.pv.length) :
    s.D * Int.tdiv (pcell n s t free * (nullD n s free s.pv.length : Nat)) (pcell n s t (s.pv.getD t 0)) = (nullD n s free s.pv.length : Nat) * s.R t free := by
  obtain ⟨u, hu, e1, e2⟩ := h.pc hc hf ht
  have hz := h.pnz hc ht
  obtain ⟨y, hy⟩ := nullQ_dvd_D n s free s.pv.length t ht
  rw [e1, e2]
  unfold nullQ at hy
  generalize nullD n s free s.pv.length = d at *
  generalize pcell n s t (s.pv.getD t 0) = p at *
  generalize pcell n s t free = x at *
  have hd : p ∣ x * (d : Int) := by
    rw [← Int.natAbs_dvd_natAbs, Int.natAbs_mul, Int.natAbs_natCast, hy]
    obtain ⟨z, hz2⟩ := Nat.gcd_dvd_right p.natAbs x.natAbs
    have hg : p.natAbs / Nat.gcd p.natAbs x.natAbs * Nat.gcd p.natAbs x.natAbs = p.natAbs := Nat.div_mul_cancel (Nat.gcd_dvd_left ..)
    refine ⟨z * y, ?_⟩
    calc x.natAbs * (p.natAbs / Nat.gcd p.natAbs x.natAbs * y) = (Nat.gcd p.natAbs x.natAbs * z) * (p.natAbs / Nat.gcd p.natAbs x.natAbs * y) := by rw [← hz2]
      _ = (p.natAbs / Nat.gcd p.natAbs x.natAbs * Nat.gcd p.natAbs x.natAbs) * (z * y) := by
        generalize p.natAbs / Nat.gcd p.natAbs x.natAbs = k1
        generalize Nat.gcd p.natAbs x.natAbs = k2
        grind
      _ = p.natAbs * (z * y) := by rw [hg]
  obtain ⟨k, hk⟩ := hd
  rw [hk, Int.mul_tdiv_cancel_left _ hz]
  have : u * p * k = u * (p * k) := Int.mul_assoc ..
  rw [this, ← hk]
  grind
theorem RedS.null_eq {n m c : Nat} {s : Red} (h : RedS n m s c) (hc : c ≤ n) {free : Nat} (hf : free < n) :
    primV (rowF n (nullE n s free (nullD n s free s.pv.length) s.pv.length)) = nullV n s free := by
  have hd := (h.nullD_dvd hc hf s.pv.length (Nat.le_refl _)).2
  refine prim_prop h.bar.nz (b := (nullD n s free s.pv.length : Nat)) (by omega) fun j _ => ?_
  have key : ∀ t, t ≤ s.pv.length → s.D * nullE n s free (nullD n s free s.pv.length) t j = (nullD n s free s.pv.length : Nat) * nullF s free t j := by
    intro t
    induction t with
    | zero =>
      intro _
      unfold nullE nullF
      by_cases e : j = free
      · rw [if_pos e, if_pos e, Int.mul_comm]
      · rw [if_neg e, if_neg e]; dsimp only; omega
    | succ t ih =>
      intro ht
      unfold nullE nullF
      by_cases e : j = free
      · rw [if_pos e, if_pos e, Int.mul_comm]
      · rw [if_neg e, if_neg e]
        dsimp only
        by_cases e2 : s.pv.getD t 0 = j
        · rw [if_pos e2, if_pos e2, Int.mul_neg, h.nullX hc hf (by omega), Int.mul_neg]
        · rw [if_neg e2, if_neg e2]; exact ih (by omega)
  exact key _ (Nat.le_refl _)
/-- One round of the least common multiple, in numbers. -/
theorem lcm_round (d q : Nat) : Int.tdiv (d : Int) (Int.gcd (d : Int) (q : Int) : Nat) * (q : Int) = (Nat.lcm d q : Nat) := by
  have : Int.gcd (d : Int) (q : Int) = Nat.gcd d q := rfl
  rw [this, ← Int.ofNat_tdiv, ← Int.natCast_mul]
  congr 1
  rw [Nat.lcm, Nat.div_mul_right_comm (Nat.gcd_dvd_left ..)]
theorem prim_zero {n c : Nat} (hc : c < n) (f : Nat → Int) : (primV (rowF n f)).getD c 0 = 0 ↔ f c = 0 := by
  obtain ⟨u, hu, e⟩ := prim_getD n f
  rw [e c hc]
  constructor
  · intro h; rw [h, Int.mul_zero]
  · intro h; exact (Int.mul_eq_zero.1 h).resolve_left hu
theorem RedS.first_nz {n m c : Nat} {s : Red} (_h : RedS n m s c) (hf : s.first m c < m) : s.R (s.first m c) c ≠ 0 ∧ s.pv.length ≤ s.first m c ∧ s.pv.length < m := by
  obtain ⟨g1, g2, g3, g4⟩ := fstI_spec (fun i => s.R i c != 0) (m - s.pv.length) s.pv.length
  have g1' : s.pv.length ≤ s.first m c := g1
  have := g3 (by show s.first m c < _; omega)
  rw [show fstI _ _ _ = s.first m c from rfl] at this
  exact ⟨fun e => by simp [e] at this, g1', by omega⟩
/-- The rows of the specification behind a column, in lowest terms. -/
theorem RedS.spec_row {n m c : Nat} {s : Red} (h : RedS n m s c) (hc : c < n) (hf : s.first m c < m) {i : Nat} (hi : i < m) :
    primV (rowF n ((s.take m c).R i)) = if i = s.pv.length then primV (rowF n (s.R (s.first m c)))
      else if (primV (rowF n (barSwap s.R s.pv.length (s.first m c) i))).getD c 0 = 0 then primV (rowF n (barSwap s.R s.pv.length (s.first m c) i))
      else primV (wOut (primV (rowF n (barSwap s.R s.pv.length (s.first m c) i))) (primV (rowF n (s.R (s.first m c)))) c n) := by
  by_cases e : i = s.pv.length
  · rw [if_pos e]
    congr 1
    apply rowF_congr
    intro j _
    unfold Red.take
    rw [if_pos hf]
    show barStep _ _ _ _ i j = _
    unfold barStep barSwap
    rw [if_pos e, if_pos rfl]
  · rw [if_neg e]
    exact prim_step h.bar.nz hc (h.first_nz hf).1 fun j hj => h.exact hc hf hi e hj
theorem Red.take_pv {m c : Nat} {s : Red} (hf : s.first m c < m) : (s.take m c).pv = s.pv ++ [c] ∧ (s.take m c).D = s.R (s.first m c) c := by
  unfold Red.take; rw [if_pos hf]; exact ⟨rfl, rfl⟩
theorem Red.take_no {m c : Nat} {s : Red} (hf : ¬ s.first m c < m) : s.take m c = s := by
  unfold Red.take; rw [if_neg hf]
end Go.Proofs.Ytcfgljfpkhefmaa
