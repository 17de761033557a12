/- What a function returns that answers with a row of ints of the call's own. No condition. -/
import Derived.Test.YtehendofgcebcaaInts
namespace Go.Proofs.Ytehendofgcebcaa
open Go.RowKit

/-- A row of ints of the call's own. -/
def IntsO (w : World) (zs : List Int) (e : Ending) (w' : World) : Prop :=
  ∃ A cap, e = .returned (.slice A zs.length cap) ∧ OwnInts w' w.heap.size w'.heap.size A cap zs ∧ Below w.heap.size w w'
theorem OwnInts.widen {W : World} {lo hi lo' hi' : Nat} {A : Option Addr} {cap : Nat} {zs : List Int} (h : OwnInts W lo hi A cap zs) (h1 : lo' ≤ lo) (h2 : hi ≤ hi') (h3 : hi' ≤ W.heap.size) : OwnInts W lo' hi' A cap zs :=
  ⟨h3, by
    rcases h.2 with h4 | ⟨g, e, h5, h6, ho⟩
    · exact .inl h4
    · exact .inr ⟨g, e, by omega, by omega, own_base ho h1⟩⟩
end Go.Proofs.Ytehendofgcebcaa
