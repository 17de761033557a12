/- A place that a law is handed by value, opened; the laws' copy of it. No condition. -/
import Derived.Test.YtehendofgcebcaaPlc
namespace Go.Proofs.Ytehendofgcebcaa
open Go.RowKit Go.Joins Go.ChangeShapes Go.WideShapes Go.Deep

section
variable {H : Type} {enc : TypeId × Value → H} {w : World}
set_option maxRecDepth 100000 in
theorem open_place {r : Reach} {b0 : Nat} {v : Value} {d : DataW H} {p : List MemPlace} (hv : Value.okWide Try.prog w r b0 73 v) (h : DataW.Trod enc Try.prog w 0 (fun _ => true) true 73 v d p) :
    ∃ (x y : Int), v = .agg #[.int .i64 x, .int .i64 y] := by
  obtain ⟨v0, v1, y0, y1, n, rfl, _, _, h0, h1⟩ := open_agg2 Try.underlying73 (by kernel_rfl) (by kernel_rfl) hv h
  obtain ⟨x, e0, _⟩ := DataW.trod_int Try.underlying3 h0
  obtain ⟨y, e1, _⟩ := DataW.trod_int Try.underlying3 h1
  have e0' : v0 = .int .i64 x := by simpa using e0
  have e1' : v1 = .int .i64 y := by simpa using e1
  subst e0' e1'
  exact ⟨x, y, rfl⟩
end
end Go.Proofs.Ytehendofgcebcaa
