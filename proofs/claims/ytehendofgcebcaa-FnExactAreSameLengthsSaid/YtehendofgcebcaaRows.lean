/-
  No cell of these rows narrows 'for every input' (looked for: loops, veiled, ifaces, maps, wideKeys, modest, calm, conditions, laid).
  DERIVED. THE GIVEN ROWS OF THIS SEAT. 10 by the template 'for every input the law returns true; each argument reads behind the call as it read before'; 0 by the template 'total and deterministic' (their statements: YtehendofgcebcaaTotals.lean).
  GIVEN WITH THE SEED: the statements are not yours to turn. If you find one false, say at which input.
  Laid BY PROGRAM, IN A SANDBOX (cutbox-rows.mjs): the forced cells as the released guide's own fill.sh prints them over the translation 7d277f9fe7dc3508… (all of the seat's roots in one cut). By AI agents, Wed Nov 11 2026. No macro, syntax, notation, axiom, sorry.
-/
import Derived.Test.YtehendofgcebcaaChecked
import GoSem.Claim
import GoSem.ClaimJoined
import GoSem.ClaimMapViews
import Derived.JoinedTies
import Derived.KernelRfl
namespace Go.Proofs.Ytehendofgcebcaa
/- THE CELL 'sum', in the pinned program and in every row, IS THE sha256 OF THE DUMP (.gsa) THAT YtehendofgcebcaaProg.lean LOADS. Nothing in Lean hashes anything: it is a label: what it is worth is what the hold of that sum in a sandbox is worth. -/
noncomputable def Try.pinned : Pinned := { name := "ytehendofgcebcaa", sum := "7d277f9fe7dc3508b3cad238a4e5e334762fd9e366ab7a57738fa6f6546169a6", checked := Try.checked }
namespace Rows
def none {H : Type} : Left H := { results := [], args := [] }

/-- 'laws.FnMatrices': WHATEVER THE INPUT: true; the input reads as it did. -/
def fnMatricesSpec : ChangeSpec := { name := "fnMatrices", fn := fun _ => fun
  | [d] => { results := [.lit (.bool true)], args := [d] }
  | _ => none }
def fnMatricesRow : OpenClaim := { program := "ytehendofgcebcaa", sum := "7d277f9fe7dc3508b3cad238a4e5e334762fd9e366ab7a57738fa6f6546169a6", func := "loop.example/g02078/laws.FnMatrices", spec := "fnMatrices", unfollowed := true, recurses := true, apart := false }
def FnMatricesSaid : Prop := fnMatricesRow.holds Try.pinned (OpenSpec.ofChange fnMatricesSpec)

/-- ITS FALSE NEIGHBOUR: 'it returns false'. Refute it at one input. -/
def fnMatricesWrong : ChangeSpec := { name := "fnMatrices", fn := fun _ => fun
  | [d] => { results := [.lit (.bool false)], args := [d] }
  | _ => none }
def FnMatricesWrongFalsely : Prop := fnMatricesRow.holds Try.pinned (OpenSpec.ofChange fnMatricesWrong)

/-- 'laws.FnExactFindSteps': WHATEVER THE INPUT: true; the input reads as it did. -/
def fnExactFindStepsSpec : ChangeSpec := { name := "fnExactFindSteps", fn := fun _ => fun
  | [d] => { results := [.lit (.bool true)], args := [d] }
  | _ => none }
def fnExactFindStepsRow : OpenClaim := { program := "ytehendofgcebcaa", sum := "7d277f9fe7dc3508b3cad238a4e5e334762fd9e366ab7a57738fa6f6546169a6", func := "loop.example/g02078/laws.FnExactFindSteps", spec := "fnExactFindSteps", inPlace := ["slices.overlaps[loop.example/g02078/impl.Bar]"], unfollowed := true, recurses := true, apart := false }
def FnExactFindStepsSaid : Prop := fnExactFindStepsRow.holds Try.pinned (OpenSpec.ofChange fnExactFindStepsSpec)

/-- ITS FALSE NEIGHBOUR: 'it returns false'. Refute it at one input. -/
def fnExactFindStepsWrong : ChangeSpec := { name := "fnExactFindSteps", fn := fun _ => fun
  | [d] => { results := [.lit (.bool false)], args := [d] }
  | _ => none }
def FnExactFindStepsWrongFalsely : Prop := fnExactFindStepsRow.holds Try.pinned (OpenSpec.ofChange fnExactFindStepsWrong)

/-- 'laws.FnExactIsFramework': WHATEVER THE INPUT: true; the input reads as it did. -/
def fnExactIsFrameworkSpec : ChangeSpec := { name := "fnExactIsFramework", fn := fun _ => fun
  | [d] => { results := [.lit (.bool true)], args := [d] }
  | _ => none }
def fnExactIsFrameworkRow : OpenClaim := { program := "ytehendofgcebcaa", sum := "7d277f9fe7dc3508b3cad238a4e5e334762fd9e366ab7a57738fa6f6546169a6", func := "loop.example/g02078/laws.FnExactIsFramework", spec := "fnExactIsFramework", unfollowed := true, recurses := true, apart := false }
def FnExactIsFrameworkSaid : Prop := fnExactIsFrameworkRow.holds Try.pinned (OpenSpec.ofChange fnExactIsFrameworkSpec)

/-- ITS FALSE NEIGHBOUR: 'it returns false'. Refute it at one input. -/
def fnExactIsFrameworkWrong : ChangeSpec := { name := "fnExactIsFramework", fn := fun _ => fun
  | [d] => { results := [.lit (.bool false)], args := [d] }
  | _ => none }
def FnExactIsFrameworkWrongFalsely : Prop := fnExactIsFrameworkRow.holds Try.pinned (OpenSpec.ofChange fnExactIsFrameworkWrong)

/-- 'laws.FnExactSquareLengths': WHATEVER THE INPUT: true; the input reads as it did. -/
def fnExactSquareLengthsSpec : ChangeSpec := { name := "fnExactSquareLengths", fn := fun _ => fun
  | [d] => { results := [.lit (.bool true)], args := [d] }
  | _ => none }
def fnExactSquareLengthsRow : OpenClaim := { program := "ytehendofgcebcaa", sum := "7d277f9fe7dc3508b3cad238a4e5e334762fd9e366ab7a57738fa6f6546169a6", func := "loop.example/g02078/laws.FnExactSquareLengths", spec := "fnExactSquareLengths", unfollowed := true, recurses := true, apart := false }
def FnExactSquareLengthsSaid : Prop := fnExactSquareLengthsRow.holds Try.pinned (OpenSpec.ofChange fnExactSquareLengthsSpec)

/-- ITS FALSE NEIGHBOUR: 'it returns false'. Refute it at one input. -/
def fnExactSquareLengthsWrong : ChangeSpec := { name := "fnExactSquareLengths", fn := fun _ => fun
  | [d] => { results := [.lit (.bool false)], args := [d] }
  | _ => none }
def FnExactSquareLengthsWrongFalsely : Prop := fnExactSquareLengthsRow.holds Try.pinned (OpenSpec.ofChange fnExactSquareLengthsWrong)

/-- 'laws.FnExactAreSameLengths': WHATEVER THE INPUT: true; the input reads as it did. -/
def fnExactAreSameLengthsSpec : ChangeSpec := { name := "fnExactAreSameLengths", fn := fun _ => fun
  | [d1, d2] => { results := [.lit (.bool true)], args := [d1, d2] }
  | _ => none }
def fnExactAreSameLengthsRow : OpenClaim := { program := "ytehendofgcebcaa", sum := "7d277f9fe7dc3508b3cad238a4e5e334762fd9e366ab7a57738fa6f6546169a6", func := "loop.example/g02078/laws.FnExactAreSameLengths", spec := "fnExactAreSameLengths", unfollowed := true, recurses := true, apart := false }
def FnExactAreSameLengthsSaid : Prop := fnExactAreSameLengthsRow.holds Try.pinned (OpenSpec.ofChange fnExactAreSameLengthsSpec)

/-- ITS FALSE NEIGHBOUR: 'it returns false'. Refute it at one input. -/
def fnExactAreSameLengthsWrong : ChangeSpec := { name := "fnExactAreSameLengths", fn := fun _ => fun
  | [d1, d2] => { results := [.lit (.bool false)], args := [d1, d2] }
  | _ => none }
def FnExactAreSameLengthsWrongFalsely : Prop := fnExactAreSameLengthsRow.holds Try.pinned (OpenSpec.ofChange fnExactAreSameLengthsWrong)

/-- 'laws.FnExactMirrorFramework': WHATEVER THE INPUT: true; the input reads as it did. -/
def fnExactMirrorFrameworkSpec : ChangeSpec := { name := "fnExactMirrorFramework", fn := fun _ => fun
  | [d] => { results := [.lit (.bool true)], args := [d] }
  | _ => none }
def fnExactMirrorFrameworkRow : OpenClaim := { program := "ytehendofgcebcaa", sum := "7d277f9fe7dc3508b3cad238a4e5e334762fd9e366ab7a57738fa6f6546169a6", func := "loop.example/g02078/laws.FnExactMirrorFramework", spec := "fnExactMirrorFramework", unfollowed := true, recurses := true, apart := false }
def FnExactMirrorFrameworkSaid : Prop := fnExactMirrorFrameworkRow.holds Try.pinned (OpenSpec.ofChange fnExactMirrorFrameworkSpec)

/-- ITS FALSE NEIGHBOUR: 'it returns false'. Refute it at one input. -/
def fnExactMirrorFrameworkWrong : ChangeSpec := { name := "fnExactMirrorFramework", fn := fun _ => fun
  | [d] => { results := [.lit (.bool false)], args := [d] }
  | _ => none }
def FnExactMirrorFrameworkWrongFalsely : Prop := fnExactMirrorFrameworkRow.holds Try.pinned (OpenSpec.ofChange fnExactMirrorFrameworkWrong)

/-- 'laws.FnExactTurnFramework': WHATEVER THE INPUT: true; the input reads as it did. -/
def fnExactTurnFrameworkSpec : ChangeSpec := { name := "fnExactTurnFramework", fn := fun _ => fun
  | [d] => { results := [.lit (.bool true)], args := [d] }
  | _ => none }
def fnExactTurnFrameworkRow : OpenClaim := { program := "ytehendofgcebcaa", sum := "7d277f9fe7dc3508b3cad238a4e5e334762fd9e366ab7a57738fa6f6546169a6", func := "loop.example/g02078/laws.FnExactTurnFramework", spec := "fnExactTurnFramework", unfollowed := true, recurses := true, apart := false }
def FnExactTurnFrameworkSaid : Prop := fnExactTurnFrameworkRow.holds Try.pinned (OpenSpec.ofChange fnExactTurnFrameworkSpec)

/-- ITS FALSE NEIGHBOUR: 'it returns false'. Refute it at one input. -/
def fnExactTurnFrameworkWrong : ChangeSpec := { name := "fnExactTurnFramework", fn := fun _ => fun
  | [d] => { results := [.lit (.bool false)], args := [d] }
  | _ => none }
def FnExactTurnFrameworkWrongFalsely : Prop := fnExactTurnFrameworkRow.holds Try.pinned (OpenSpec.ofChange fnExactTurnFrameworkWrong)

/-- 'laws.FnExactMoveJoint': WHATEVER THE INPUT: true; the input reads as it did. -/
def fnExactMoveJointSpec : ChangeSpec := { name := "fnExactMoveJoint", fn := fun _ => fun
  | [d1, d2, d3] => { results := [.lit (.bool true)], args := [d1, d2, d3] }
  | _ => none }
def fnExactMoveJointRow : OpenClaim := { program := "ytehendofgcebcaa", sum := "7d277f9fe7dc3508b3cad238a4e5e334762fd9e366ab7a57738fa6f6546169a6", func := "loop.example/g02078/laws.FnExactMoveJoint", spec := "fnExactMoveJoint", unfollowed := true, recurses := true, apart := false }
def FnExactMoveJointSaid : Prop := fnExactMoveJointRow.holds Try.pinned (OpenSpec.ofChange fnExactMoveJointSpec)

/-- ITS FALSE NEIGHBOUR: 'it returns false'. Refute it at one input. -/
def fnExactMoveJointWrong : ChangeSpec := { name := "fnExactMoveJoint", fn := fun _ => fun
  | [d1, d2, d3] => { results := [.lit (.bool false)], args := [d1, d2, d3] }
  | _ => none }
def FnExactMoveJointWrongFalsely : Prop := fnExactMoveJointRow.holds Try.pinned (OpenSpec.ofChange fnExactMoveJointWrong)

/-- 'laws.FnExactAreCollinear': WHATEVER THE INPUT: true; the input reads as it did. -/
def fnExactAreCollinearSpec : ChangeSpec := { name := "fnExactAreCollinear", fn := fun _ => fun
  | [d1, d2, d3] => { results := [.lit (.bool true)], args := [d1, d2, d3] }
  | _ => none }
def fnExactAreCollinearRow : OpenClaim := { program := "ytehendofgcebcaa", sum := "7d277f9fe7dc3508b3cad238a4e5e334762fd9e366ab7a57738fa6f6546169a6", func := "loop.example/g02078/laws.FnExactAreCollinear", spec := "fnExactAreCollinear", apart := false }
def FnExactAreCollinearSaid : Prop := fnExactAreCollinearRow.holds Try.pinned (OpenSpec.ofChange fnExactAreCollinearSpec)

/-- ITS FALSE NEIGHBOUR: 'it returns false'. Refute it at one input. -/
def fnExactAreCollinearWrong : ChangeSpec := { name := "fnExactAreCollinear", fn := fun _ => fun
  | [d1, d2, d3] => { results := [.lit (.bool false)], args := [d1, d2, d3] }
  | _ => none }
def FnExactAreCollinearWrongFalsely : Prop := fnExactAreCollinearRow.holds Try.pinned (OpenSpec.ofChange fnExactAreCollinearWrong)

/-- 'laws.FnExactEqualFrameworks': WHATEVER THE INPUT: true; the input reads as it did. -/
def fnExactEqualFrameworksSpec : ChangeSpec := { name := "fnExactEqualFrameworks", fn := fun _ => fun
  | [d1, d2] => { results := [.lit (.bool true)], args := [d1, d2] }
  | _ => none }
def fnExactEqualFrameworksRow : OpenClaim := { program := "ytehendofgcebcaa", sum := "7d277f9fe7dc3508b3cad238a4e5e334762fd9e366ab7a57738fa6f6546169a6", func := "loop.example/g02078/laws.FnExactEqualFrameworks", spec := "fnExactEqualFrameworks", apart := false }
def FnExactEqualFrameworksSaid : Prop := fnExactEqualFrameworksRow.holds Try.pinned (OpenSpec.ofChange fnExactEqualFrameworksSpec)

/-- ITS FALSE NEIGHBOUR: 'it returns false'. Refute it at one input. -/
def fnExactEqualFrameworksWrong : ChangeSpec := { name := "fnExactEqualFrameworks", fn := fun _ => fun
  | [d1, d2] => { results := [.lit (.bool false)], args := [d1, d2] }
  | _ => none }
def FnExactEqualFrameworksWrongFalsely : Prop := fnExactEqualFrameworksRow.holds Try.pinned (OpenSpec.ofChange fnExactEqualFrameworksWrong)

/- THE SECOND FORM. 'bulk': how many values and letters a reading holds, each counted each time it is reached (what is shared counts as often as it is met; a slice's spare places count too). A statement '..UptoSaid' is the law's where the arguments, and the package variables that the reading takes, are together of bulk at most 1048576: NARROWER than '..Said'. Prove '..Said' where nothing that the law and all that it calls make is longer than what came in: it says more and counts as full. Else prove '..UptoSaid'. A law counts once. -/
mutual
def uptoBulk {H : Type} : DataW H → Nat
  | .lit (.string bytes) => bytes.length + 1
  | .lit _ => 1
  | .nil => 1
  | .ptr d => uptoBulk d + 1
  | .slice elems spare => uptoBulkAll elems + uptoBulkAll spare + 1
  | .agg parts => uptoBulkAll parts + 1
  | .iface _ d => uptoBulk d + 1
  | .map entries => uptoBulkEntries entries + 1
  | .held _ => 1
def uptoBulkAll {H : Type} : List (DataW H) → Nat
  | [] => 0
  | d :: r => uptoBulk d + uptoBulkAll r
def uptoBulkEntries {H : Type} : List (Lit × DataW H) → Nat
  | [] => 0
  | x :: r => uptoBulkEntry x + uptoBulkEntries r
def uptoBulkEntry {H : Type} : Lit × DataW H → Nat
  | (.string bytes, d) => bytes.length + uptoBulk d + 1
  | (_, d) => uptoBulk d + 1
 end
def uptoSmall : (H : Type) → List (DataW H) → Bool := fun _ ds => decide (uptoBulkAll ds ≤ 1048576)
def OpenSpec.upto (s : _root_.Go.ChangeSpec) : _root_.Go.OpenSpec := { _root_.Go.OpenSpec.ofChange s with cond := some uptoSmall }

/-- 'laws.FnMatrices', WHERE WHAT IT READS IS OF BULK AT MOST 1048576: true; the input reads as it did. -/
def fnMatricesUptoRow : OpenClaim := { program := "ytehendofgcebcaa", sum := "7d277f9fe7dc3508b3cad238a4e5e334762fd9e366ab7a57738fa6f6546169a6", func := "loop.example/g02078/laws.FnMatrices", spec := "fnMatrices", unfollowed := true, recurses := true, apart := false, narrowed := true }
def FnMatricesUptoSaid : Prop := fnMatricesUptoRow.holds Try.pinned (OpenSpec.upto fnMatricesSpec)

/-- 'laws.FnExactFindSteps', WHERE WHAT IT READS IS OF BULK AT MOST 1048576: true; the input reads as it did. -/
def fnExactFindStepsUptoRow : OpenClaim := { program := "ytehendofgcebcaa", sum := "7d277f9fe7dc3508b3cad238a4e5e334762fd9e366ab7a57738fa6f6546169a6", func := "loop.example/g02078/laws.FnExactFindSteps", spec := "fnExactFindSteps", inPlace := ["slices.overlaps[loop.example/g02078/impl.Bar]"], unfollowed := true, recurses := true, apart := false, narrowed := true }
def FnExactFindStepsUptoSaid : Prop := fnExactFindStepsUptoRow.holds Try.pinned (OpenSpec.upto fnExactFindStepsSpec)

/-- 'laws.FnExactIsFramework', WHERE WHAT IT READS IS OF BULK AT MOST 1048576: true; the input reads as it did. -/
def fnExactIsFrameworkUptoRow : OpenClaim := { program := "ytehendofgcebcaa", sum := "7d277f9fe7dc3508b3cad238a4e5e334762fd9e366ab7a57738fa6f6546169a6", func := "loop.example/g02078/laws.FnExactIsFramework", spec := "fnExactIsFramework", unfollowed := true, recurses := true, apart := false, narrowed := true }
def FnExactIsFrameworkUptoSaid : Prop := fnExactIsFrameworkUptoRow.holds Try.pinned (OpenSpec.upto fnExactIsFrameworkSpec)

/-- 'laws.FnExactSquareLengths', WHERE WHAT IT READS IS OF BULK AT MOST 1048576: true; the input reads as it did. -/
def fnExactSquareLengthsUptoRow : OpenClaim := { program := "ytehendofgcebcaa", sum := "7d277f9fe7dc3508b3cad238a4e5e334762fd9e366ab7a57738fa6f6546169a6", func := "loop.example/g02078/laws.FnExactSquareLengths", spec := "fnExactSquareLengths", unfollowed := true, recurses := true, apart := false, narrowed := true }
def FnExactSquareLengthsUptoSaid : Prop := fnExactSquareLengthsUptoRow.holds Try.pinned (OpenSpec.upto fnExactSquareLengthsSpec)

/-- 'laws.FnExactAreSameLengths', WHERE WHAT IT READS IS OF BULK AT MOST 1048576: true; the input reads as it did. -/
def fnExactAreSameLengthsUptoRow : OpenClaim := { program := "ytehendofgcebcaa", sum := "7d277f9fe7dc3508b3cad238a4e5e334762fd9e366ab7a57738fa6f6546169a6", func := "loop.example/g02078/laws.FnExactAreSameLengths", spec := "fnExactAreSameLengths", unfollowed := true, recurses := true, apart := false, narrowed := true }
def FnExactAreSameLengthsUptoSaid : Prop := fnExactAreSameLengthsUptoRow.holds Try.pinned (OpenSpec.upto fnExactAreSameLengthsSpec)

/-- 'laws.FnExactMirrorFramework', WHERE WHAT IT READS IS OF BULK AT MOST 1048576: true; the input reads as it did. -/
def fnExactMirrorFrameworkUptoRow : OpenClaim := { program := "ytehendofgcebcaa", sum := "7d277f9fe7dc3508b3cad238a4e5e334762fd9e366ab7a57738fa6f6546169a6", func := "loop.example/g02078/laws.FnExactMirrorFramework", spec := "fnExactMirrorFramework", unfollowed := true, recurses := true, apart := false, narrowed := true }
def FnExactMirrorFrameworkUptoSaid : Prop := fnExactMirrorFrameworkUptoRow.holds Try.pinned (OpenSpec.upto fnExactMirrorFrameworkSpec)

/-- 'laws.FnExactTurnFramework', WHERE WHAT IT READS IS OF BULK AT MOST 1048576: true; the input reads as it did. -/
def fnExactTurnFrameworkUptoRow : OpenClaim := { program := "ytehendofgcebcaa", sum := "7d277f9fe7dc3508b3cad238a4e5e334762fd9e366ab7a57738fa6f6546169a6", func := "loop.example/g02078/laws.FnExactTurnFramework", spec := "fnExactTurnFramework", unfollowed := true, recurses := true, apart := false, narrowed := true }
def FnExactTurnFrameworkUptoSaid : Prop := fnExactTurnFrameworkUptoRow.holds Try.pinned (OpenSpec.upto fnExactTurnFrameworkSpec)

/-- 'laws.FnExactMoveJoint', WHERE WHAT IT READS IS OF BULK AT MOST 1048576: true; the input reads as it did. -/
def fnExactMoveJointUptoRow : OpenClaim := { program := "ytehendofgcebcaa", sum := "7d277f9fe7dc3508b3cad238a4e5e334762fd9e366ab7a57738fa6f6546169a6", func := "loop.example/g02078/laws.FnExactMoveJoint", spec := "fnExactMoveJoint", unfollowed := true, recurses := true, apart := false, narrowed := true }
def FnExactMoveJointUptoSaid : Prop := fnExactMoveJointUptoRow.holds Try.pinned (OpenSpec.upto fnExactMoveJointSpec)

/-- 'laws.FnExactAreCollinear', WHERE WHAT IT READS IS OF BULK AT MOST 1048576: true; the input reads as it did. -/
def fnExactAreCollinearUptoRow : OpenClaim := { program := "ytehendofgcebcaa", sum := "7d277f9fe7dc3508b3cad238a4e5e334762fd9e366ab7a57738fa6f6546169a6", func := "loop.example/g02078/laws.FnExactAreCollinear", spec := "fnExactAreCollinear", apart := false, narrowed := true }
def FnExactAreCollinearUptoSaid : Prop := fnExactAreCollinearUptoRow.holds Try.pinned (OpenSpec.upto fnExactAreCollinearSpec)

/-- 'laws.FnExactEqualFrameworks', WHERE WHAT IT READS IS OF BULK AT MOST 1048576: true; the input reads as it did. -/
def fnExactEqualFrameworksUptoRow : OpenClaim := { program := "ytehendofgcebcaa", sum := "7d277f9fe7dc3508b3cad238a4e5e334762fd9e366ab7a57738fa6f6546169a6", func := "loop.example/g02078/laws.FnExactEqualFrameworks", spec := "fnExactEqualFrameworks", apart := false, narrowed := true }
def FnExactEqualFrameworksUptoSaid : Prop := fnExactEqualFrameworksUptoRow.holds Try.pinned (OpenSpec.upto fnExactEqualFrameworksSpec)

end Rows
end Go.Proofs.Ytehendofgcebcaa
