/-
  DERIVED. GIVEN WITH THE SEED: THE CARDS: each row of YtehendofgcebcaaDoorRows.lean that lists a variable, with what it lists TIED to the program's text (the seventh form; the later family's looks); each row that meets fmt, with fmt's text TOLD by the authors' own Lean function (tested against real Go, not proved from fmt's source: count such statements apart). THE CARD IS WHAT COUNTS. Prove the row's statement (the work); the ties are given (YtehendofgcebcaaDoorTie.lean); close each card by the builder's one call (the guide's Derived/Test/ToyasCard.lean, 'card_holds'). Laid BY PROGRAM, IN A SANDBOX (cutbox-door.mjs). By AI agents, Wed Nov 11 2026. No macro, syntax, notation, axiom, sorry.
-/
import Derived.Test.YtehendofgcebcaaDoorRows
import GoSem.ClaimSeven
namespace Go.Proofs.YtehendofgcebcaaDoor
namespace Rows

/-- THE TIED CARD OF 'laws.FnExactFormatFramework'. -/
def fnExactFormatFrameworkCard : Claim7 := { stood := { row := fnExactFormatFrameworkRow, standIns := [], harness := (true, "64f45b0c05d6bc59f92ff281fce9d4a536b062f67f6300b0a3f0c2d2ef5d1d49"), looks := false }, kinds := [], alts := [], laidByText := true, laidKinds := [.data, .data, .data], laidTests := true, laidLooks := .later }
def FnExactFormatFrameworkCardSaid : Prop := Claim7.holds Tryd.pinned (.plain (OpenSpec.ofChange fnExactFormatFrameworkSpec)) fnExactFormatFrameworkCard

/-- THE TIED CARD OF 'laws.FnExactParseFramework'. -/
def fnExactParseFrameworkCard : Claim7 := { stood := { row := fnExactParseFrameworkRow, standIns := [], harness := (true, "64f45b0c05d6bc59f92ff281fce9d4a536b062f67f6300b0a3f0c2d2ef5d1d49"), looks := false }, kinds := [], alts := [], laidByText := true, laidKinds := [.data, .data, .data, .listed, .data], laidTests := true, laidLooks := .later }
def FnExactParseFrameworkCardSaid : Prop := Claim7.holds Tryd.pinned (.plain (OpenSpec.ofChange fnExactParseFrameworkSpec)) fnExactParseFrameworkCard

/-- THE SECOND FORM's CARD OF 'laws.FnExactFormatFramework'. -/
def fnExactFormatFrameworkUptoCard : Claim7 := { stood := { row := fnExactFormatFrameworkUptoRow, standIns := [], harness := (true, "64f45b0c05d6bc59f92ff281fce9d4a536b062f67f6300b0a3f0c2d2ef5d1d49"), looks := false }, kinds := [], alts := [], laidByText := true, laidKinds := [.data, .data, .data], laidTests := true, laidLooks := .later }
def FnExactFormatFrameworkUptoCardSaid : Prop := Claim7.holds Tryd.pinned (.plain (OpenSpec.upto fnExactFormatFrameworkSpec)) fnExactFormatFrameworkUptoCard

/-- THE SECOND FORM's CARD OF 'laws.FnExactParseFramework'. -/
def fnExactParseFrameworkUptoCard : Claim7 := { stood := { row := fnExactParseFrameworkUptoRow, standIns := [], harness := (true, "64f45b0c05d6bc59f92ff281fce9d4a536b062f67f6300b0a3f0c2d2ef5d1d49"), looks := false }, kinds := [], alts := [], laidByText := true, laidKinds := [.data, .data, .data, .listed, .data], laidTests := true, laidLooks := .later }
def FnExactParseFrameworkUptoCardSaid : Prop := Claim7.holds Tryd.pinned (.plain (OpenSpec.upto fnExactParseFrameworkSpec)) fnExactParseFrameworkUptoCard
end Rows
end Go.Proofs.YtehendofgcebcaaDoor
