/- What slices.Delete does with one bar of a row of the call's own. No condition. -/
import Derived.Test.YtggibhhdnlifcaaRemoveS
namespace Go.Proofs.Ytggibhhdnlifcaa
open Go.RowKit

theorem own_setCells {base : Nat} {e : TypeId} {size g n cap : Nat} : ∀ (vs : List Value) (o : Nat) (w : World) (xs : List Value), w.ownsRow base e size (.slice (some ⟨g, 0, none⟩) n cap) n xs →
    ∃ ys, (w.setCells g o vs).ownsRow base e size (.slice (some ⟨g, 0, none⟩) n cap) n ys ∧ w.grownBy (w.setCells g o vs) (some g) ∧ ys.length = xs.length ∧ ∀ j, j < xs.length → ys[j]? = if o ≤ j ∧ j < o + vs.length then vs[j - o]? else xs[j]? := by
  intro vs
  induction vs with
  | nil =>
    intro o w xs h
    refine ⟨xs, h, World.grownBy.refl _ _, rfl, fun j _ => ?_⟩
    rw [if_neg (by simp; try omega)]
  | cons v vs ih =>
    intro o w xs h
    have s := h.stored o v
    obtain ⟨ys, h1, h2, h3, h4⟩ := ih (o + 1) _ _ s.1
    refine ⟨ys, h1, s.2.trans_ h2, by simpa using h3, fun j hj => ?_⟩
    rw [h4 j (by simpa using hj)]
    by_cases c1 : o + 1 ≤ j ∧ j < o + 1 + vs.length
    · rw [if_pos c1, if_pos (by simp; omega)]
      rw [show j - o = (j - (o + 1)) + 1 by omega, List.getElem?_cons_succ]
    · rw [if_neg c1]
      by_cases c2 : j = o
      · subst c2
        rw [if_pos (by simp), List.getElem?_set, if_pos rfl, if_pos hj, Nat.sub_self]
        rfl
      · rw [if_neg (by simp; omega), List.getElem?_set_ne (by omega)]
theorem own_shrink {w : World} {base : Nat} {e : TypeId} {size g n cap m : Nat} {xs : List Value} (h : w.ownsRow base e size (.slice (some ⟨g, 0, none⟩) n cap) n xs) (hm : m ≤ n) : w.ownsRow base e size (.slice (some ⟨g, 0, none⟩) m cap) m (xs.take (m * size)) := by
  have hms : m * size ≤ n * size := Nat.mul_le_mul_right _ hm
  refine ⟨by rw [List.length_take, h.1]; omega, ?_⟩
  rcases h.2 with ⟨h', _⟩ | ⟨g', cap', cur, h', hb, hg, hnc, hcm, hcs, htake⟩
  · cases h'
  · cases h'
    refine .inr ⟨g, cap, cur, rfl, hb, hg, by omega, hcm, hcs, ?_⟩
    rw [← htake, List.take_take, Nat.min_eq_left hms]

theorem clear_one (w : World) (ty : TypeId) (b o c : Nat) (hc : ∀ j, j < 2 → (w.cell? ⟨b, o + j, none⟩).isSome = true) (hf : ∀ j, j < 2 → w.frozen? ⟨b, o + j, none⟩ = false) :
    (Builtin.clear_ #[28] ty #[.slice (some ⟨b, o, none⟩) 1 c]).run Try.prog w = .ok (.tuple #[]) (w.setCells b o [.int .i64 0, .int .i64 0]) := by
  have hv := Try.zeroValue103
  have hst := run_storeCells_cells (P := Try.prog) b o [.int .i64 0, .int .i64 0] 0 w (by simpa using hc) (by simpa using hf) (by intro v hv'; simp at hv'; rw [hv']; rfl)
  simp only [Nat.add_zero] at hst
  have hzc : (Builtin.zeroCells (Value.agg #[.int .i64 0, .int .i64 0]).cells 1).toList = [.int .i64 0, .int .i64 0] := by
    simp [Builtin.zeroCells, Value.cells, Array.toList_range, List.range_succ]
  simp [Builtin.clear_, run_underlying Try.underlying28, hv, hzc, hst]

set_option maxHeartbeats 4000000 in
set_option maxRecDepth 100000 in
theorem slDelete (l : List (Int × Int)) (K g c base : Nat) (w : World) (hown : w.ownsRow base 103 2 (.slice (some ⟨g, 0, none⟩) l.length c) l.length (barCells l)) (hk : K < l.length) (hn : l.length ≤ 1048576) (hlc : l.length ≤ c) (hcm : c ≤ 9223372036854775807) :
    Calls Try.prog 195 #[.slice (some ⟨g, 0, none⟩) l.length c, .int .i64 (K : Int), .int .i64 ((K : Int) + 1)] w fun e w' =>
      e = .returned (.slice (some ⟨g, 0, none⟩) (l.take K ++ l.drop (K + 1)).length c) ∧ w'.ownsRow base 103 2 (.slice (some ⟨g, 0, none⟩) (l.take K ++ l.drop (K + 1)).length c) (l.take K ++ l.drop (K + 1)).length (barCells (l.take K ++ l.drop (K + 1))) ∧ w.grownBy w' (some g) := by
  obtain ⟨i0, hi0, hz0, hz1, hz2⟩ := info_parts infoBar
  obtain ⟨L, hL⟩ : ∃ L, L = l.take K ++ l.drop (K + 1) := ⟨_, rfl⟩
  have hLl : L.length = l.length - 1 := by rw [hL]; simp; omega
  rw [← hL]
  obtain ⟨news, hnews⟩ : ∃ news, news = barCells (l.drop (K + 1)) := ⟨_, rfl⟩
  have hnl : news.length = (l.length - (K + 1)) * 2 := by rw [hnews, barCells_len, List.length_drop]
  have hget : ∀ t, t < news.length → news[t]? = (barCells l)[(K + 1) * 2 + t]? := fun t ht => by rw [hnews, barCells_drop, List.getElem?_drop]
  have hownd : w.drew.ownsRow base 103 2 (.slice (some ⟨g, 0, none⟩) l.length c) l.length (barCells l) := hown.drew
  obtain ⟨ys, hy1, hy2, hy3, hy4⟩ := own_setCells news (K * 2) w.drew (barCells l) hownd
  obtain ⟨zs, hz1', hz2', hz3, hz4⟩ := own_setCells [.int .i64 0, .int .i64 0] ((l.length - 1) * 2) _ ys hy1
  have hlen : (barCells l).length = l.length * 2 := barCells_len l
  have hfin : zs.take (L.length * 2) = barCells L := by
    apply List.ext_getElem?
    intro j
    rw [List.getElem?_take]
    by_cases hj : j < L.length * 2
    · rw [if_pos hj, hz4 j (by omega), if_neg (by omega), hy4 j (by omega), hL, barCells_append, List.getElem?_append, barCells_len, List.length_take]
      by_cases h1 : K * 2 ≤ j
      · rw [if_pos ⟨h1, by omega⟩, if_neg (by omega), hnews, show j - min K l.length * 2 = j - K * 2 by omega]
      · rw [if_neg (by omega), if_pos (by omega), barCells_take, List.getElem?_take, if_pos (by omega)]
    · rw [if_neg hj, List.getElem?_eq_none (by rw [barCells_len]; omega)]
  have hshr := own_shrink hz1' (m := L.length) (by omega)
  rw [hfin] at hshr
  have HS := Lib.hid hshr
  have hg0 : w.grownBy w.drew (some g) := ⟨rfl, rfl, rfl, Nat.le_refl _, fun _ _ _ => rfl⟩
  have HGR := Lib.hid ((hg0.trans_ hy2).trans_ hz2')
  obtain ⟨W1, hW1⟩ : ∃ W1, W1 = w.drew.setCells g (0 + K * 2) news := ⟨_, rfl⟩
  have hW1' : w.drew.setCells g (K * 2) news = W1 := by rw [hW1, Nat.zero_add]
  rw [hW1'] at hy1 HS HGR
  have hcl : ∀ ty cc, (Builtin.clear_ #[28] ty #[.slice (some ⟨g, (K + (l.length - (K + 1))) * 2, none⟩) (l.length - (K + (l.length - (K + 1)))) cc]).run Try.prog W1 = .ok (.tuple #[]) (W1.setCells g ((l.length - 1) * 2) [.int .i64 0, .int .i64 0]) := fun ty cc => by
    rw [show K + (l.length - (K + 1)) = l.length - 1 by omega, show l.length - (l.length - 1) = 1 by omega]
    refine clear_one W1 ty g _ cc (fun j hj => ?_) (fun j _ => hy1.frozenAt _)
    rw [hy1.cellAt _ (by omega), List.getElem?_eq_getElem (by omega)]
    rfl
  have HW := Lib.hid hW1
  obtain ⟨ad, hAd, hsrc⟩ : ∃ ad : Addr, (if c = K + 1 then (some ⟨g, 0, none⟩ : Option Addr) else some ⟨g, (K + 1) * 2, none⟩) = some ad ∧ ∀ t u, news[t]? = some u → w.drew.cell? (ad.add t) = some u := by
    by_cases h : c = K + 1
    · refine ⟨⟨g, 0, none⟩, by simp [h], fun t u hu => ?_⟩
      have : news.length = 0 := by omega
      rw [List.length_eq_zero_iff.1 this] at hu
      cases hu
    · refine ⟨⟨g, (K + 1) * 2, none⟩, by simp [h], fun t u hu => ?_⟩
      have ht := (List.getElem?_eq_some_iff.1 hu).1
      rw [hget t ht] at hu
      rw [Addr.add_lit]
      exact (hownd.cellAt _ (by omega)).trans hu
  have HSRC := Lib.hid hsrc
  have HROOM := Lib.hid (show ∀ t, t < news.length → (w.drew.cell? ⟨g, 0 + K * 2 + t, none⟩).isSome = true ∧ w.drew.frozen? ⟨g, 0 + K * 2 + t, none⟩ = false from fun t ht => by
    refine ⟨?_, hownd.frozenAt _⟩
    rw [hownd.cellAt _ (by omega), List.getElem?_eq_getElem (by omega)]
    rfl)
  have HNL := Lib.hid hnl
  have HONE := Lib.hid (show ∀ u ∈ news, u.oneCell' = true by rw [hnews]; exact barCells_one _)
  have HLL := Lib.hid (show K + (l.length - (K + 1)) = L.length by omega)
  have h1 : (0 : Int) ≤ (K : Int) := by omega
  have h2 : (K : Int) ≤ (K : Int) + 1 := by omega
  have h3 : (K : Int) + 1 ≤ (l.length : Int) := by omega
  have h4 : (l.length : Int) ≤ (c : Int) := by omega
  have h5 : (0 : Int) ≤ (K : Int) + 1 := by omega
  have h6 : ((K : Int) + 1).toNat = K + 1 := by omega
  have h7 : (K : Int) ≤ (c : Int) := by omega
  have h8 : ¬ ((K : Int) = (K : Int) + 1) := by omega
  have h9 : K + (l.length - (K + 1)) ≤ l.length := by omega
  have h9' : ((K + (l.length - (K + 1)) : Nat) : Int) ≤ (l.length : Int) := by omega
  clear hown hL hLl hnews hnl hget hownd hy1 hy2 hy3 hy4 hz1' hz2' hz3 hz4 hlen hfin hshr hg0 hW1 hW1' hsrc
  go_enter Try.func195, Try.ntmps195
  go_wp2_with fail
  go_region_law (refine step_append_room (by rfl) _ _ 28 (by rfl) 103 i0 2 Try.underlying28 hi0 hz1 g 0 K c (by rfl) ad (l.length - (K + 1)) (c - (K + 1)) news (by rfl) HNL.out HSRC.out HONE.out (by omega) HROOM.out ?_; rw [← HW.out])
  go_wp2_with fail
  go_ret
  exact ⟨by rw [← HLL.out]; rfl, HS.out, HGR.out⟩
end Go.Proofs.Ytggibhhdnlifcaa
