/- From a row's condition on the library's tables to the fact that the walks ask: the table of powers of ten reads as the program lays it. -/
import Derived.Test.YtehendofgcebcaaDoorFmt
import Derived.MakeChecks
namespace Go.Proofs.YtehendofgcebcaaDoor
open Go.RowKit

/-- Whatever stands on a list of laid variables reads so. -/
theorem laid_mem {P : Program} {W : World} {name : String} {d : DataW Unit} : ∀ {laid : List (String × DataW Unit)} {ps : List MemPlace}, DataW.LaidVars P W laid ps → (name, d) ∈ laid → ∃ ps', DataW.LaidVars P W [(name, d)] ps' := by
  intro laid
  induction laid with
  | nil => intro ps _ h; cases h
  | cons x r ih =>
    intro ps h hm
    obtain ⟨g, t, cs, fuel, p, q, hg, ht, hv, hd, hr, he⟩ := h
    rcases List.mem_cons.1 hm with hx | hx
    · subst hx
      exact ⟨_, g, t, cs, fuel, p, [], hg, ht, hv, hd, rfl, rfl⟩
    · exact ih hr hx

theorem gPow : Tryd.prog.globalNamed "internal/strconv.uint64pow10" = some 3 := by kernel_rfl

theorem tab_of_laid {W : World} {laid : List (String × DataW Unit)} (i : Nat) (h : laidMetH Tryd.prog laid W) (hp : (laid.all fun x => x.2.handleName?.isNone) = true) (hm : laid[i]? = some ("internal/strconv.uint64pow10", Lib.tabData .u64 Lib.pow10Tab)) : Tab W := by
  rw [MakeChecks.laidMetH_plain _ _ _ hp] at h
  obtain ⟨ps, hl, _, _⟩ := h
  obtain ⟨_, g, t, cs, fuel, p, q, hg, ht, hv, hd, _, _⟩ := laid_mem hl (List.mem_of_getElem? hm)
  obtain rfl := Option.some.inj (gPow.symm.trans hg)
  obtain rfl := Option.some.inj ((show (Tryd.prog.globals[3]?).map (·.type) = some 143 by kernel_rfl).symm.trans ht)
  unfold Tab Lib.TabIs
  rw [hv, ← Lib.cells_of_tab Tryd.underlying143 Tryd.underlying137 (by kernel_rfl) (by kernel_rfl) hd]
end Go.Proofs.YtehendofgcebcaaDoor
