/-
  DERIVED. GIVEN WITH THE SEED: THE CARDS: each row of YtggibhhdnlifcaaDoorRows.lean that lists a variable, with what it lists TIED to the program's text (the seventh form; the later family's looks); each row that meets fmt, with fmt's text TOLD by the authors' own Lean function (tested against real Go, not proved from fmt's source: count such statements apart). THE CARD IS WHAT COUNTS. Prove the row's statement (the work); the ties are given (YtggibhhdnlifcaaDoorTie.lean); close each card by the builder's one call (the guide's Derived/Test/ToyasCard.lean, 'card_holds'). Laid BY PROGRAM, IN A SANDBOX (cutbox-door.mjs). By AI agents, Wed Nov 11 2026. No macro, syntax, notation, axiom, sorry.
-/
import Derived.Test.YtggibhhdnlifcaaDoorRows
import GoSem.ClaimSeven
namespace Go.Proofs.YtggibhhdnlifcaaDoor
namespace Rows

/-- THE TIED CARD OF 'laws.FnExactFormatSteps'. -/
def fnExactFormatStepsCard : Claim7 := { stood := { row := fnExactFormatStepsRow, standIns := [], harness := (true, "de49e63bdc5660c33831808e15f1350816df8c802818aa2ed947aa74347339c4"), looks := false }, kinds := [], alts := [], laidByText := true, laidKinds := [.data, .data, .data], laidTests := true, laidLooks := .later }
def FnExactFormatStepsCardSaid : Prop := Claim7.holds Tryd.pinned (.plain (OpenSpec.ofChange fnExactFormatStepsSpec)) fnExactFormatStepsCard

/-- THE TIED CARD OF 'laws.FnExactFormatSets'. -/
def fnExactFormatSetsCard : Claim7 := { stood := { row := fnExactFormatSetsRow, standIns := [], harness := (true, "de49e63bdc5660c33831808e15f1350816df8c802818aa2ed947aa74347339c4"), looks := false }, kinds := [], alts := [], laidByText := true, laidKinds := [.data, .data, .data], laidTests := true, laidLooks := .later }
def FnExactFormatSetsCardSaid : Prop := Claim7.holds Tryd.pinned (.plain (OpenSpec.ofChange fnExactFormatSetsSpec)) fnExactFormatSetsCard

/-- THE SECOND FORM's CARD OF 'laws.FnExactFormatSteps'. -/
def fnExactFormatStepsUptoCard : Claim7 := { stood := { row := fnExactFormatStepsUptoRow, standIns := [], harness := (true, "de49e63bdc5660c33831808e15f1350816df8c802818aa2ed947aa74347339c4"), looks := false }, kinds := [], alts := [], laidByText := true, laidKinds := [.data, .data, .data], laidTests := true, laidLooks := .later }
def FnExactFormatStepsUptoCardSaid : Prop := Claim7.holds Tryd.pinned (.plain (OpenSpec.upto fnExactFormatStepsSpec)) fnExactFormatStepsUptoCard

/-- THE SECOND FORM's CARD OF 'laws.FnExactFormatSets'. -/
def fnExactFormatSetsUptoCard : Claim7 := { stood := { row := fnExactFormatSetsUptoRow, standIns := [], harness := (true, "de49e63bdc5660c33831808e15f1350816df8c802818aa2ed947aa74347339c4"), looks := false }, kinds := [], alts := [], laidByText := true, laidKinds := [.data, .data, .data], laidTests := true, laidLooks := .later }
def FnExactFormatSetsUptoCardSaid : Prop := Claim7.holds Tryd.pinned (.plain (OpenSpec.upto fnExactFormatSetsSpec)) fnExactFormatSetsUptoCard
end Rows
end Go.Proofs.YtggibhhdnlifcaaDoor
