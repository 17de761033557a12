/- A graph that a law is handed by value, opened: its number of points, and its bars as a list. No condition. -/
import Derived.Test.YtehendofgcebcaaDoorBarEq
import Derived.ProofKit
import Derived.Lib.SmallJoins
import Derived.Deep.SlicePairs
namespace Go.Proofs.YtehendofgcebcaaDoor
open Go.RowKit Go.Joins Go.ChangeShapes Go.WideShapes Go.Deep

section
variable {H : Type} {enc : TypeId × Value → H} {w : World} {base : Nat}

/-- A slice of the law's bars. -/
theorem open_bars {n : Nat} {v : Value} {y : DataW H × List MemPlace} (h : DataW.trod enc Tryd.prog w 0 (fun _ => true) true n 22 [v] = some y) :
    ∃ (A : Option Addr) (cap : Nat) (l : List (Int × Int)), v = .slice A l.length cap ∧ l.length ≤ maxLen ∧ BarsAt w w.heap.size A l := by
  rcases open_slice_pairs Tryd.underlying22 Tryd.underlying98 (by kernel_rfl) rfl rfl (by kernel_rfl) (by kernel_rfl) h with ⟨hv, _⟩ | ⟨a, len, cap, m, fuel, V0, V1, D0, D1, P0, P1, hv, _, hlc, hcm, hm, _, hi⟩
  · refine ⟨none, 0, [], ?_, by simp, fun h => absurd h (by simp)⟩
    simpa using hv
  · have hm' : m = cap := by simpa using hm
    refine ⟨some a, cap, (List.range len).map fun i => (intOf (V0 i), intOf (V1 i)), by simpa using hv, by simp; omega, fun hl => ?_⟩
    have hl' : 0 < len := by simpa using hl
    obtain ⟨b, off, spot⟩ := a
    have hs : spot = none := by simpa [Addr.add] using World.cell?_spot (hi 0 (by omega)).1
    subst hs
    have hadd : ∀ k, (⟨b, off, none⟩ : Addr).add k = ⟨b, off + k, none⟩ := fun k => by unfold Addr.add; split <;> simp_all
    have h0 := (hi 0 (by omega)).1
    rw [hadd] at h0
    refine ⟨b, off, rfl, World.block_lt_of_cell? w _ h0, fun k hk => ?_⟩
    have hk' : k < len := by simpa using hk
    obtain ⟨c0, c1, t0, t1⟩ := hi k (by omega)
    obtain ⟨x, e0, _⟩ := DataW.trod_int Tryd.underlying3 t0
    obtain ⟨z, e1, _⟩ := DataW.trod_int Tryd.underlying3 t1
    rw [hadd] at c0 c1
    have g0 : V0 k = .int .i64 x := by simpa using e0
    have g1 : V1 k = .int .i64 z := by simpa using e1
    have hg : ((List.range len).map fun i => (intOf (V0 i), intOf (V1 i))).getD k (0, 0) = (x, z) := by
      simp [List.getD, hk', g0, g1, intOf]
    rw [hg, c0, g0, show off + k * 2 + 1 = off + (k * 2 + 1) by omega, c1, g1]
    exact ⟨rfl, rfl⟩

set_option maxRecDepth 100000 in
theorem open_graph {r : Reach} {b0 : Nat} {v : Value} {d : DataW H} {p : List MemPlace} (hv : Value.okWide Tryd.prog w r b0 24 v) (h : DataW.Trod enc Tryd.prog w 0 (fun _ => true) true 24 v d p) :
    ∃ (q : Int) (A : Option Addr) (cap : Nat) (l : List (Int × Int)), v = .agg #[.int .i64 q, .slice A l.length cap] ∧ l.length ≤ maxLen ∧ BarsAt w w.heap.size A l := by
  obtain ⟨v0, v1, y0, y1, n, rfl, _, _, h0, h1⟩ := open_agg2 Tryd.underlying24 (by kernel_rfl) (by kernel_rfl) hv h
  obtain ⟨q, e0, _⟩ := DataW.trod_int Tryd.underlying3 h0
  obtain ⟨A, cap, l, e1, hl, hb⟩ := open_bars h1
  subst e1
  have e0' : v0 = .int .i64 q := by simpa using e0
  subst e0'
  exact ⟨q, A, cap, l, rfl, hl, hb⟩
end
end Go.Proofs.YtehendofgcebcaaDoor
