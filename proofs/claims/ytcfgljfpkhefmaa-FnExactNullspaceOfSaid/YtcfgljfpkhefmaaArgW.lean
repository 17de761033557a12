/- A graph that a law is handed by value, opened, with the bounds of its bars' ends; a row of ints with the bounds of its elements. No condition. -/
import Derived.Test.YtcfgljfpkhefmaaGraphArg
import Derived.Test.YtcfgljfpkhefmaaIntArg
import Derived.Test.YtcfgljfpkhefmaaSetM
namespace Go.Proofs.Ytcfgljfpkhefmaa
open Go.RowKit Go.Joins Go.ChangeShapes Go.WideShapes Go.Deep

theorem IsRow.intsW {w : World} {a : Option Addr} {len cap : Nat} {zs : List Int} (h : IsRow .i64 w a len cap zs) : ∃ ys : List Int, ys.length = len ∧ IntsIn w 0 w.heap.size a ys ∧ len ≤ maxLen ∧ WfI ys := by
  rcases h with ⟨rfl, rfl, rfl, rfl⟩ | ⟨x, rfl, h1, h2, h3, h4, h5⟩
  · exact ⟨[], rfl, ⟨Nat.le_refl _, fun h => absurd h (by simp)⟩, Nat.zero_le _, fun k hk => absurd hk (by simp)⟩
  · refine ⟨zs.take len, by simp; omega, ⟨Nat.le_refl _, fun hl => ?_⟩, Nat.le_trans h1 h2, fun k hk => ?_⟩
    · have hl' : 0 < zs.length := by simp at hl; omega
      obtain ⟨b, off, spot⟩ := x
      have hs : spot = none := by simpa [Addr.add] using World.cell?_spot (h4 0 hl')
      subst hs
      have hadd : ∀ k, (⟨b, off, none⟩ : Addr).add k = ⟨b, off + k, none⟩ := fun k => by unfold Addr.add; split <;> simp_all
      have h0 := h4 0 hl'
      rw [hadd] at h0
      refine ⟨b, off, rfl, Nat.zero_le _, World.block_lt_of_cell? w _ h0, fun k hk => ?_⟩
      have hk' : k < len ∧ k < zs.length := by simp at hk; omega
      have := h4 k hk'.2
      rw [hadd] at this
      rw [this]
      simp [List.getD, hk'.1]
    · have hk' : k < len ∧ k < zs.length := by simp at hk; omega
      refine h5 _ ?_
      have : (zs.take len).getD k 0 = zs[k] := by simp [List.getD, hk'.1, List.getElem?_eq_getElem hk'.2]
      rw [this]
      exact List.getElem_mem hk'.2

section
variable {H : Type} {enc : TypeId × Value → H} {w : World} {base : Nat}

/-- A slice of the law's bars. -/
theorem open_barsW {n : Nat} {v : Value} {y : DataW H × List MemPlace} (h : DataW.trod enc Try.prog w 0 (fun _ => true) true n 37 [v] = some y) :
    ∃ (A : Option Addr) (cap : Nat) (l : List (Int × Int)), v = .slice A l.length cap ∧ l.length ≤ maxLen ∧ BarsAt w w.heap.size A l ∧ WfB l := by
  rcases open_slice_pairs Try.underlying37 Try.underlying159 (by kernel_rfl) rfl rfl (by kernel_rfl) (by kernel_rfl) h with ⟨hv, _⟩ | ⟨a, len, cap, m, fuel, V0, V1, D0, D1, P0, P1, hv, _, hlc, hcm, hm, _, hi⟩
  · refine ⟨none, 0, [], ?_, by simp, fun h => absurd h (by simp), fun k hk => absurd hk (by simp)⟩
    simpa using hv
  · have hm' : m = cap := by simpa using hm
    have hadd : ∀ (b off k : Nat), (⟨b, off, none⟩ : Addr).add k = ⟨b, off + k, none⟩ := fun b off k => by unfold Addr.add; split <;> simp_all
    have key : ∀ k, k < len → ∃ x z : Int, V0 k = .int .i64 x ∧ V1 k = .int .i64 z ∧ Wf x ∧ Wf z := fun k hk => by
      obtain ⟨_, _, t0, t1⟩ := hi k (by omega)
      obtain ⟨x, e0, _, w0⟩ := DataW.trod_int Try.underlying3 t0
      obtain ⟨z, e1, _, w1⟩ := DataW.trod_int Try.underlying3 t1
      exact ⟨x, z, by simpa using e0, by simpa using e1, w0, w1⟩
    refine ⟨some a, cap, (List.range len).map fun i => (intOf (V0 i), intOf (V1 i)), by simpa using hv, by simp; omega, fun hl => ?_, fun k hk => ?_⟩
    · have hl' : 0 < len := by simpa using hl
      obtain ⟨b, off, spot⟩ := a
      have hs : spot = none := by simpa [Addr.add] using World.cell?_spot (hi 0 (by omega)).1
      subst hs
      have h0 := (hi 0 (by omega)).1
      rw [hadd] at h0
      refine ⟨b, off, rfl, World.block_lt_of_cell? w _ h0, fun k hk => ?_⟩
      have hk' : k < len := by simpa using hk
      obtain ⟨c0, c1, _, _⟩ := hi k (by omega)
      obtain ⟨x, z, g0, g1, _, _⟩ := key k hk'
      rw [hadd] at c0 c1
      have hg : ((List.range len).map fun i => (intOf (V0 i), intOf (V1 i))).getD k (0, 0) = (x, z) := by
        simp [List.getD, hk', g0, g1, intOf]
      rw [hg, c0, g0, show off + k * 2 + 1 = off + (k * 2 + 1) by omega, c1, g1]
      exact ⟨rfl, rfl⟩
    · have hk' : k < len := by simpa using hk
      obtain ⟨x, z, g0, g1, w0, w1⟩ := key k hk'
      have hg : ((List.range len).map fun i => (intOf (V0 i), intOf (V1 i))).getD k (0, 0) = (x, z) := by
        simp [List.getD, hk', g0, g1, intOf]
      rw [hg]
      exact ⟨w0, w1⟩

set_option maxRecDepth 100000 in
theorem open_graphW {r : Reach} {b0 : Nat} {v : Value} {d : DataW H} {p : List MemPlace} (hv : Value.okWide Try.prog w r b0 39 v) (h : DataW.Trod enc Try.prog w 0 (fun _ => true) true 39 v d p) :
    ∃ (q : Int) (A : Option Addr) (cap : Nat) (l : List (Int × Int)), v = .agg #[.int .i64 q, .slice A l.length cap] ∧ l.length ≤ maxLen ∧ BarsAt w w.heap.size A l ∧ WfB l := by
  obtain ⟨v0, v1, y0, y1, n, rfl, _, _, h0, h1⟩ := open_agg2 Try.underlying39 (by kernel_rfl) (by kernel_rfl) hv h
  obtain ⟨q, e0, _⟩ := DataW.trod_int Try.underlying3 h0
  obtain ⟨A, cap, l, e1, hl, hb, hw⟩ := open_barsW h1
  subst e1
  have e0' : v0 = .int .i64 q := by simpa using e0
  subst e0'
  exact ⟨q, A, cap, l, rfl, hl, hb, hw⟩
end
end Go.Proofs.Ytcfgljfpkhefmaa
