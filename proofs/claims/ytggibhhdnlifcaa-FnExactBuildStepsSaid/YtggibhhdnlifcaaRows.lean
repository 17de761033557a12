/-
  No cell of these rows narrows 'for every input' (looked for: loops, veiled, ifaces, maps, wideKeys, modest, calm, conditions, laid).
  DERIVED. THE GIVEN ROWS OF THIS SEAT. 8 by the template 'for every input the law returns true; each argument reads behind the call as it read before'; 0 by the template 'total and deterministic' (their statements: YtggibhhdnlifcaaTotals.lean).
  GIVEN WITH THE SEED: the statements are not yours to turn. If you find one false, say at which input.
  Laid BY PROGRAM, IN A SANDBOX (cutbox-rows.mjs): the forced cells as the released guide's own fill.sh prints them over the translation c461240c36cc77ea… (all of the seat's roots in one cut). By AI agents, Wed Nov 11 2026. No macro, syntax, notation, axiom, sorry.
-/
import Derived.Test.YtggibhhdnlifcaaChecked
import GoSem.Claim
import GoSem.ClaimJoined
import GoSem.ClaimMapViews
import Derived.JoinedTies
import Derived.KernelRfl
namespace Go.Proofs.Ytggibhhdnlifcaa
/- THE CELL 'sum', in the pinned program and in every row, IS THE sha256 OF THE DUMP (.gsa) THAT YtggibhhdnlifcaaProg.lean LOADS. Nothing in Lean hashes anything: it is a label: what it is worth is what the hold of that sum in a sandbox is worth. -/
noncomputable def Try.pinned : Pinned := { name := "ytggibhhdnlifcaa", sum := "c461240c36cc77ea29418433d4c016999c102267cbe7c878a7701b807347f6d4", checked := Try.checked }
namespace Rows
def none {H : Type} : Left H := { results := [], args := [] }

/-- 'laws.FnExactComponentsOf': WHATEVER THE INPUT: true; the input reads as it did. -/
def fnExactComponentsOfSpec : ChangeSpec := { name := "fnExactComponentsOf", fn := fun _ => fun
  | [d] => { results := [.lit (.bool true)], args := [d] }
  | _ => none }
def fnExactComponentsOfRow : OpenClaim := { program := "ytggibhhdnlifcaa", sum := "c461240c36cc77ea29418433d4c016999c102267cbe7c878a7701b807347f6d4", func := "loop.example/g02078/laws.FnExactComponentsOf", spec := "fnExactComponentsOf", unfollowed := true, recurses := true, apart := false }
def FnExactComponentsOfSaid : Prop := fnExactComponentsOfRow.holds Try.pinned (OpenSpec.ofChange fnExactComponentsOfSpec)

/-- ITS FALSE NEIGHBOUR: 'it returns false'. Refute it at one input. -/
def fnExactComponentsOfWrong : ChangeSpec := { name := "fnExactComponentsOf", fn := fun _ => fun
  | [d] => { results := [.lit (.bool false)], args := [d] }
  | _ => none }
def FnExactComponentsOfWrongFalsely : Prop := fnExactComponentsOfRow.holds Try.pinned (OpenSpec.ofChange fnExactComponentsOfWrong)

/-- 'laws.FnExactApplyStep': WHATEVER THE INPUT: true; the input reads as it did. -/
def fnExactApplyStepSpec : ChangeSpec := { name := "fnExactApplyStep", fn := fun _ => fun
  | [d1, d2] => { results := [.lit (.bool true)], args := [d1, d2] }
  | _ => none }
def fnExactApplyStepRow : OpenClaim := { program := "ytggibhhdnlifcaa", sum := "c461240c36cc77ea29418433d4c016999c102267cbe7c878a7701b807347f6d4", func := "loop.example/g02078/laws.FnExactApplyStep", spec := "fnExactApplyStep", inPlace := ["slices.overlaps[loop.example/g02078/impl.Bar]"], unfollowed := true, recurses := true, apart := false }
def FnExactApplyStepSaid : Prop := fnExactApplyStepRow.holds Try.pinned (OpenSpec.ofChange fnExactApplyStepSpec)

/-- ITS FALSE NEIGHBOUR: 'it returns false'. Refute it at one input. -/
def fnExactApplyStepWrong : ChangeSpec := { name := "fnExactApplyStep", fn := fun _ => fun
  | [d1, d2] => { results := [.lit (.bool false)], args := [d1, d2] }
  | _ => none }
def FnExactApplyStepWrongFalsely : Prop := fnExactApplyStepRow.holds Try.pinned (OpenSpec.ofChange fnExactApplyStepWrong)

/-- 'laws.FnExactBuildSteps': WHATEVER THE INPUT: true; the input reads as it did. -/
def fnExactBuildStepsSpec : ChangeSpec := { name := "fnExactBuildSteps", fn := fun _ => fun
  | [d1, d2] => { results := [.lit (.bool true)], args := [d1, d2] }
  | _ => none }
def fnExactBuildStepsRow : OpenClaim := { program := "ytggibhhdnlifcaa", sum := "c461240c36cc77ea29418433d4c016999c102267cbe7c878a7701b807347f6d4", func := "loop.example/g02078/laws.FnExactBuildSteps", spec := "fnExactBuildSteps", inPlace := ["slices.overlaps[loop.example/g02078/impl.Bar]"], unfollowed := true, recurses := true, apart := false }
def FnExactBuildStepsSaid : Prop := fnExactBuildStepsRow.holds Try.pinned (OpenSpec.ofChange fnExactBuildStepsSpec)

/-- ITS FALSE NEIGHBOUR: 'it returns false'. Refute it at one input. -/
def fnExactBuildStepsWrong : ChangeSpec := { name := "fnExactBuildSteps", fn := fun _ => fun
  | [d1, d2] => { results := [.lit (.bool false)], args := [d1, d2] }
  | _ => none }
def FnExactBuildStepsWrongFalsely : Prop := fnExactBuildStepsRow.holds Try.pinned (OpenSpec.ofChange fnExactBuildStepsWrong)

/-- 'laws.FnExactFindSteps': WHATEVER THE INPUT: true; the input reads as it did. -/
def fnExactFindStepsSpec : ChangeSpec := { name := "fnExactFindSteps", fn := fun _ => fun
  | [d] => { results := [.lit (.bool true)], args := [d] }
  | _ => none }
def fnExactFindStepsRow : OpenClaim := { program := "ytggibhhdnlifcaa", sum := "c461240c36cc77ea29418433d4c016999c102267cbe7c878a7701b807347f6d4", func := "loop.example/g02078/laws.FnExactFindSteps", spec := "fnExactFindSteps", inPlace := ["slices.overlaps[loop.example/g02078/impl.Bar]"], unfollowed := true, recurses := true, apart := false }
def FnExactFindStepsSaid : Prop := fnExactFindStepsRow.holds Try.pinned (OpenSpec.ofChange fnExactFindStepsSpec)

/-- ITS FALSE NEIGHBOUR: 'it returns false'. Refute it at one input. -/
def fnExactFindStepsWrong : ChangeSpec := { name := "fnExactFindSteps", fn := fun _ => fun
  | [d] => { results := [.lit (.bool false)], args := [d] }
  | _ => none }
def FnExactFindStepsWrongFalsely : Prop := fnExactFindStepsRow.holds Try.pinned (OpenSpec.ofChange fnExactFindStepsWrong)

/-- 'laws.FnExactCountThrees': WHATEVER THE INPUT: true; the input reads as it did. -/
def fnExactCountThreesSpec : ChangeSpec := { name := "fnExactCountThrees", fn := fun _ => fun
  | [d] => { results := [.lit (.bool true)], args := [d] }
  | _ => none }
def fnExactCountThreesRow : OpenClaim := { program := "ytggibhhdnlifcaa", sum := "c461240c36cc77ea29418433d4c016999c102267cbe7c878a7701b807347f6d4", func := "loop.example/g02078/laws.FnExactCountThrees", spec := "fnExactCountThrees", apart := false }
def FnExactCountThreesSaid : Prop := fnExactCountThreesRow.holds Try.pinned (OpenSpec.ofChange fnExactCountThreesSpec)

/-- ITS FALSE NEIGHBOUR: 'it returns false'. Refute it at one input. -/
def fnExactCountThreesWrong : ChangeSpec := { name := "fnExactCountThrees", fn := fun _ => fun
  | [d] => { results := [.lit (.bool false)], args := [d] }
  | _ => none }
def FnExactCountThreesWrongFalsely : Prop := fnExactCountThreesRow.holds Try.pinned (OpenSpec.ofChange fnExactCountThreesWrong)

/-- 'laws.FnExactAreSameSteps': WHATEVER THE INPUT: true; the input reads as it did. -/
def fnExactAreSameStepsSpec : ChangeSpec := { name := "fnExactAreSameSteps", fn := fun _ => fun
  | [d1, d2] => { results := [.lit (.bool true)], args := [d1, d2] }
  | _ => none }
def fnExactAreSameStepsRow : OpenClaim := { program := "ytggibhhdnlifcaa", sum := "c461240c36cc77ea29418433d4c016999c102267cbe7c878a7701b807347f6d4", func := "loop.example/g02078/laws.FnExactAreSameSteps", spec := "fnExactAreSameSteps", apart := false }
def FnExactAreSameStepsSaid : Prop := fnExactAreSameStepsRow.holds Try.pinned (OpenSpec.ofChange fnExactAreSameStepsSpec)

/-- ITS FALSE NEIGHBOUR: 'it returns false'. Refute it at one input. -/
def fnExactAreSameStepsWrong : ChangeSpec := { name := "fnExactAreSameSteps", fn := fun _ => fun
  | [d1, d2] => { results := [.lit (.bool false)], args := [d1, d2] }
  | _ => none }
def FnExactAreSameStepsWrongFalsely : Prop := fnExactAreSameStepsRow.holds Try.pinned (OpenSpec.ofChange fnExactAreSameStepsWrong)

/-- 'laws.FnPebbles': WHATEVER THE INPUT: true; the input reads as it did. -/
def fnPebblesSpec : ChangeSpec := { name := "fnPebbles", fn := fun _ => fun
  | [d] => { results := [.lit (.bool true)], args := [d] }
  | _ => none }
def fnPebblesRow : OpenClaim := { program := "ytggibhhdnlifcaa", sum := "c461240c36cc77ea29418433d4c016999c102267cbe7c878a7701b807347f6d4", func := "loop.example/g02078/laws.FnPebbles", spec := "fnPebbles", unfollowed := true, recurses := true, apart := false }
def FnPebblesSaid : Prop := fnPebblesRow.holds Try.pinned (OpenSpec.ofChange fnPebblesSpec)

/-- ITS FALSE NEIGHBOUR: 'it returns false'. Refute it at one input. -/
def fnPebblesWrong : ChangeSpec := { name := "fnPebbles", fn := fun _ => fun
  | [d] => { results := [.lit (.bool false)], args := [d] }
  | _ => none }
def FnPebblesWrongFalsely : Prop := fnPebblesRow.holds Try.pinned (OpenSpec.ofChange fnPebblesWrong)

/-- 'laws.FnMatroids': WHATEVER THE INPUT: true; the input reads as it did. -/
def fnMatroidsSpec : ChangeSpec := { name := "fnMatroids", fn := fun _ => fun
  | [d] => { results := [.lit (.bool true)], args := [d] }
  | _ => none }
def fnMatroidsRow : OpenClaim := { program := "ytggibhhdnlifcaa", sum := "c461240c36cc77ea29418433d4c016999c102267cbe7c878a7701b807347f6d4", func := "loop.example/g02078/laws.FnMatroids", spec := "fnMatroids", unfollowed := true, recurses := true, apart := false }
def FnMatroidsSaid : Prop := fnMatroidsRow.holds Try.pinned (OpenSpec.ofChange fnMatroidsSpec)

/-- ITS FALSE NEIGHBOUR: 'it returns false'. Refute it at one input. -/
def fnMatroidsWrong : ChangeSpec := { name := "fnMatroids", fn := fun _ => fun
  | [d] => { results := [.lit (.bool false)], args := [d] }
  | _ => none }
def FnMatroidsWrongFalsely : Prop := fnMatroidsRow.holds Try.pinned (OpenSpec.ofChange fnMatroidsWrong)

/- THE SECOND FORM. 'bulk': how many values and letters a reading holds, each counted each time it is reached (what is shared counts as often as it is met; a slice's spare places count too). A statement '..UptoSaid' is the law's where the arguments, and the package variables that the reading takes, are together of bulk at most 1048576: NARROWER than '..Said'. Prove '..Said' where nothing that the law and all that it calls make is longer than what came in: it says more and counts as full. Else prove '..UptoSaid'. A law counts once. -/
mutual
def uptoBulk {H : Type} : DataW H → Nat
  | .lit (.string bytes) => bytes.length + 1
  | .lit _ => 1
  | .nil => 1
  | .ptr d => uptoBulk d + 1
  | .slice elems spare => uptoBulkAll elems + uptoBulkAll spare + 1
  | .agg parts => uptoBulkAll parts + 1
  | .iface _ d => uptoBulk d + 1
  | .map entries => uptoBulkEntries entries + 1
  | .held _ => 1
def uptoBulkAll {H : Type} : List (DataW H) → Nat
  | [] => 0
  | d :: r => uptoBulk d + uptoBulkAll r
def uptoBulkEntries {H : Type} : List (Lit × DataW H) → Nat
  | [] => 0
  | x :: r => uptoBulkEntry x + uptoBulkEntries r
def uptoBulkEntry {H : Type} : Lit × DataW H → Nat
  | (.string bytes, d) => bytes.length + uptoBulk d + 1
  | (_, d) => uptoBulk d + 1
 end
def uptoSmall : (H : Type) → List (DataW H) → Bool := fun _ ds => decide (uptoBulkAll ds ≤ 1048576)
def OpenSpec.upto (s : _root_.Go.ChangeSpec) : _root_.Go.OpenSpec := { _root_.Go.OpenSpec.ofChange s with cond := some uptoSmall }

/-- 'laws.FnExactComponentsOf', WHERE WHAT IT READS IS OF BULK AT MOST 1048576: true; the input reads as it did. -/
def fnExactComponentsOfUptoRow : OpenClaim := { program := "ytggibhhdnlifcaa", sum := "c461240c36cc77ea29418433d4c016999c102267cbe7c878a7701b807347f6d4", func := "loop.example/g02078/laws.FnExactComponentsOf", spec := "fnExactComponentsOf", unfollowed := true, recurses := true, apart := false, narrowed := true }
def FnExactComponentsOfUptoSaid : Prop := fnExactComponentsOfUptoRow.holds Try.pinned (OpenSpec.upto fnExactComponentsOfSpec)

/-- 'laws.FnExactApplyStep', WHERE WHAT IT READS IS OF BULK AT MOST 1048576: true; the input reads as it did. -/
def fnExactApplyStepUptoRow : OpenClaim := { program := "ytggibhhdnlifcaa", sum := "c461240c36cc77ea29418433d4c016999c102267cbe7c878a7701b807347f6d4", func := "loop.example/g02078/laws.FnExactApplyStep", spec := "fnExactApplyStep", inPlace := ["slices.overlaps[loop.example/g02078/impl.Bar]"], unfollowed := true, recurses := true, apart := false, narrowed := true }
def FnExactApplyStepUptoSaid : Prop := fnExactApplyStepUptoRow.holds Try.pinned (OpenSpec.upto fnExactApplyStepSpec)

/-- 'laws.FnExactBuildSteps', WHERE WHAT IT READS IS OF BULK AT MOST 1048576: true; the input reads as it did. -/
def fnExactBuildStepsUptoRow : OpenClaim := { program := "ytggibhhdnlifcaa", sum := "c461240c36cc77ea29418433d4c016999c102267cbe7c878a7701b807347f6d4", func := "loop.example/g02078/laws.FnExactBuildSteps", spec := "fnExactBuildSteps", inPlace := ["slices.overlaps[loop.example/g02078/impl.Bar]"], unfollowed := true, recurses := true, apart := false, narrowed := true }
def FnExactBuildStepsUptoSaid : Prop := fnExactBuildStepsUptoRow.holds Try.pinned (OpenSpec.upto fnExactBuildStepsSpec)

/-- 'laws.FnExactFindSteps', WHERE WHAT IT READS IS OF BULK AT MOST 1048576: true; the input reads as it did. -/
def fnExactFindStepsUptoRow : OpenClaim := { program := "ytggibhhdnlifcaa", sum := "c461240c36cc77ea29418433d4c016999c102267cbe7c878a7701b807347f6d4", func := "loop.example/g02078/laws.FnExactFindSteps", spec := "fnExactFindSteps", inPlace := ["slices.overlaps[loop.example/g02078/impl.Bar]"], unfollowed := true, recurses := true, apart := false, narrowed := true }
def FnExactFindStepsUptoSaid : Prop := fnExactFindStepsUptoRow.holds Try.pinned (OpenSpec.upto fnExactFindStepsSpec)

/-- 'laws.FnExactCountThrees', WHERE WHAT IT READS IS OF BULK AT MOST 1048576: true; the input reads as it did. -/
def fnExactCountThreesUptoRow : OpenClaim := { program := "ytggibhhdnlifcaa", sum := "c461240c36cc77ea29418433d4c016999c102267cbe7c878a7701b807347f6d4", func := "loop.example/g02078/laws.FnExactCountThrees", spec := "fnExactCountThrees", apart := false, narrowed := true }
def FnExactCountThreesUptoSaid : Prop := fnExactCountThreesUptoRow.holds Try.pinned (OpenSpec.upto fnExactCountThreesSpec)

/-- 'laws.FnExactAreSameSteps', WHERE WHAT IT READS IS OF BULK AT MOST 1048576: true; the input reads as it did. -/
def fnExactAreSameStepsUptoRow : OpenClaim := { program := "ytggibhhdnlifcaa", sum := "c461240c36cc77ea29418433d4c016999c102267cbe7c878a7701b807347f6d4", func := "loop.example/g02078/laws.FnExactAreSameSteps", spec := "fnExactAreSameSteps", apart := false, narrowed := true }
def FnExactAreSameStepsUptoSaid : Prop := fnExactAreSameStepsUptoRow.holds Try.pinned (OpenSpec.upto fnExactAreSameStepsSpec)

/-- 'laws.FnPebbles', WHERE WHAT IT READS IS OF BULK AT MOST 1048576: true; the input reads as it did. -/
def fnPebblesUptoRow : OpenClaim := { program := "ytggibhhdnlifcaa", sum := "c461240c36cc77ea29418433d4c016999c102267cbe7c878a7701b807347f6d4", func := "loop.example/g02078/laws.FnPebbles", spec := "fnPebbles", unfollowed := true, recurses := true, apart := false, narrowed := true }
def FnPebblesUptoSaid : Prop := fnPebblesUptoRow.holds Try.pinned (OpenSpec.upto fnPebblesSpec)

/-- 'laws.FnMatroids', WHERE WHAT IT READS IS OF BULK AT MOST 1048576: true; the input reads as it did. -/
def fnMatroidsUptoRow : OpenClaim := { program := "ytggibhhdnlifcaa", sum := "c461240c36cc77ea29418433d4c016999c102267cbe7c878a7701b807347f6d4", func := "loop.example/g02078/laws.FnMatroids", spec := "fnMatroids", unfollowed := true, recurses := true, apart := false, narrowed := true }
def FnMatroidsUptoSaid : Prop := fnMatroidsUptoRow.holds Try.pinned (OpenSpec.upto fnMatroidsSpec)

end Rows
end Go.Proofs.Ytggibhhdnlifcaa
