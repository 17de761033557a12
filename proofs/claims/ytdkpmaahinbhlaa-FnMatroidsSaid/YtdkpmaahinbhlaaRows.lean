/-
  No cell of these rows narrows 'for every input' (looked for: loops, veiled, ifaces, maps, wideKeys, modest, calm, conditions, laid).
  DERIVED. THE GIVEN ROWS OF THIS SEAT. 11 by the template 'for every input the law returns true; each argument reads behind the call as it read before'; 0 by the template 'total and deterministic' (their statements: YtdkpmaahinbhlaaTotals.lean).
  GIVEN WITH THE SEED: the statements are not yours to turn. If you find one false, say at which input.
  Laid BY PROGRAM, IN A SANDBOX (cutbox-rows.mjs): the forced cells as the released guide's own fill.sh prints them over the translation fd10cbfe2207fd02… (all of the seat's roots in one cut). By AI agents, Wed Nov 11 2026. No macro, syntax, notation, axiom, sorry.
-/
import Derived.Test.YtdkpmaahinbhlaaChecked
import GoSem.Claim
import GoSem.ClaimJoined
import GoSem.ClaimMapViews
import Derived.JoinedTies
import Derived.KernelRfl
namespace Go.Proofs.Ytdkpmaahinbhlaa
/- THE CELL 'sum', in the pinned program and in every row, IS THE sha256 OF THE DUMP (.gsa) THAT YtdkpmaahinbhlaaProg.lean LOADS. Nothing in Lean hashes anything: it is a label: what it is worth is what the hold of that sum in a sandbox is worth. -/
noncomputable def Try.pinned : Pinned := { name := "ytdkpmaahinbhlaa", sum := "fd10cbfe2207fd0259cf549fe0f878be87c189e144f234bdb7c154a02e7925e4", checked := Try.checked }
namespace Rows
def none {H : Type} : Left H := { results := [], args := [] }

/-- 'laws.FnPebbles': WHATEVER THE INPUT: true; the input reads as it did. -/
def fnPebblesSpec : ChangeSpec := { name := "fnPebbles", fn := fun _ => fun
  | [d] => { results := [.lit (.bool true)], args := [d] }
  | _ => none }
def fnPebblesRow : OpenClaim := { program := "ytdkpmaahinbhlaa", sum := "fd10cbfe2207fd0259cf549fe0f878be87c189e144f234bdb7c154a02e7925e4", func := "loop.example/g02078/laws.FnPebbles", spec := "fnPebbles", unfollowed := true, recurses := true, apart := false }
def FnPebblesSaid : Prop := fnPebblesRow.holds Try.pinned (OpenSpec.ofChange fnPebblesSpec)

/-- ITS FALSE NEIGHBOUR: 'it returns false'. Refute it at one input. -/
def fnPebblesWrong : ChangeSpec := { name := "fnPebbles", fn := fun _ => fun
  | [d] => { results := [.lit (.bool false)], args := [d] }
  | _ => none }
def FnPebblesWrongFalsely : Prop := fnPebblesRow.holds Try.pinned (OpenSpec.ofChange fnPebblesWrong)

/-- 'laws.FnMatroids': WHATEVER THE INPUT: true; the input reads as it did. -/
def fnMatroidsSpec : ChangeSpec := { name := "fnMatroids", fn := fun _ => fun
  | [d] => { results := [.lit (.bool true)], args := [d] }
  | _ => none }
def fnMatroidsRow : OpenClaim := { program := "ytdkpmaahinbhlaa", sum := "fd10cbfe2207fd0259cf549fe0f878be87c189e144f234bdb7c154a02e7925e4", func := "loop.example/g02078/laws.FnMatroids", spec := "fnMatroids", unfollowed := true, recurses := true, apart := false }
def FnMatroidsSaid : Prop := fnMatroidsRow.holds Try.pinned (OpenSpec.ofChange fnMatroidsSpec)

/-- ITS FALSE NEIGHBOUR: 'it returns false'. Refute it at one input. -/
def fnMatroidsWrong : ChangeSpec := { name := "fnMatroids", fn := fun _ => fun
  | [d] => { results := [.lit (.bool false)], args := [d] }
  | _ => none }
def FnMatroidsWrongFalsely : Prop := fnMatroidsRow.holds Try.pinned (OpenSpec.ofChange fnMatroidsWrong)

/-- 'laws.FnMatrices': WHATEVER THE INPUT: true; the input reads as it did. -/
def fnMatricesSpec : ChangeSpec := { name := "fnMatrices", fn := fun _ => fun
  | [d] => { results := [.lit (.bool true)], args := [d] }
  | _ => none }
def fnMatricesRow : OpenClaim := { program := "ytdkpmaahinbhlaa", sum := "fd10cbfe2207fd0259cf549fe0f878be87c189e144f234bdb7c154a02e7925e4", func := "loop.example/g02078/laws.FnMatrices", spec := "fnMatrices", unfollowed := true, recurses := true, apart := false }
def FnMatricesSaid : Prop := fnMatricesRow.holds Try.pinned (OpenSpec.ofChange fnMatricesSpec)

/-- ITS FALSE NEIGHBOUR: 'it returns false'. Refute it at one input. -/
def fnMatricesWrong : ChangeSpec := { name := "fnMatrices", fn := fun _ => fun
  | [d] => { results := [.lit (.bool false)], args := [d] }
  | _ => none }
def FnMatricesWrongFalsely : Prop := fnMatricesRow.holds Try.pinned (OpenSpec.ofChange fnMatricesWrong)

/-- 'laws.FnExactFindSteps': WHATEVER THE INPUT: true; the input reads as it did. -/
def fnExactFindStepsSpec : ChangeSpec := { name := "fnExactFindSteps", fn := fun _ => fun
  | [d] => { results := [.lit (.bool true)], args := [d] }
  | _ => none }
def fnExactFindStepsRow : OpenClaim := { program := "ytdkpmaahinbhlaa", sum := "fd10cbfe2207fd0259cf549fe0f878be87c189e144f234bdb7c154a02e7925e4", func := "loop.example/g02078/laws.FnExactFindSteps", spec := "fnExactFindSteps", inPlace := ["slices.overlaps[loop.example/g02078/impl.Bar]"], unfollowed := true, recurses := true, apart := false }
def FnExactFindStepsSaid : Prop := fnExactFindStepsRow.holds Try.pinned (OpenSpec.ofChange fnExactFindStepsSpec)

/-- ITS FALSE NEIGHBOUR: 'it returns false'. Refute it at one input. -/
def fnExactFindStepsWrong : ChangeSpec := { name := "fnExactFindSteps", fn := fun _ => fun
  | [d] => { results := [.lit (.bool false)], args := [d] }
  | _ => none }
def FnExactFindStepsWrongFalsely : Prop := fnExactFindStepsRow.holds Try.pinned (OpenSpec.ofChange fnExactFindStepsWrong)

/-- 'laws.FnExactRigidityMatrix': WHATEVER THE INPUT: true; the input reads as it did. -/
def fnExactRigidityMatrixSpec : ChangeSpec := { name := "fnExactRigidityMatrix", fn := fun _ => fun
  | [d] => { results := [.lit (.bool true)], args := [d] }
  | _ => none }
def fnExactRigidityMatrixRow : OpenClaim := { program := "ytdkpmaahinbhlaa", sum := "fd10cbfe2207fd0259cf549fe0f878be87c189e144f234bdb7c154a02e7925e4", func := "loop.example/g02078/laws.FnExactRigidityMatrix", spec := "fnExactRigidityMatrix", unfollowed := true, recurses := true, apart := false }
def FnExactRigidityMatrixSaid : Prop := fnExactRigidityMatrixRow.holds Try.pinned (OpenSpec.ofChange fnExactRigidityMatrixSpec)

/-- ITS FALSE NEIGHBOUR: 'it returns false'. Refute it at one input. -/
def fnExactRigidityMatrixWrong : ChangeSpec := { name := "fnExactRigidityMatrix", fn := fun _ => fun
  | [d] => { results := [.lit (.bool false)], args := [d] }
  | _ => none }
def FnExactRigidityMatrixWrongFalsely : Prop := fnExactRigidityMatrixRow.holds Try.pinned (OpenSpec.ofChange fnExactRigidityMatrixWrong)

/-- 'laws.FnExactFrameworkRank': WHATEVER THE INPUT: true; the input reads as it did. -/
def fnExactFrameworkRankSpec : ChangeSpec := { name := "fnExactFrameworkRank", fn := fun _ => fun
  | [d] => { results := [.lit (.bool true)], args := [d] }
  | _ => none }
def fnExactFrameworkRankRow : OpenClaim := { program := "ytdkpmaahinbhlaa", sum := "fd10cbfe2207fd0259cf549fe0f878be87c189e144f234bdb7c154a02e7925e4", func := "loop.example/g02078/laws.FnExactFrameworkRank", spec := "fnExactFrameworkRank", unfollowed := true, recurses := true, apart := false }
def FnExactFrameworkRankSaid : Prop := fnExactFrameworkRankRow.holds Try.pinned (OpenSpec.ofChange fnExactFrameworkRankSpec)

/-- ITS FALSE NEIGHBOUR: 'it returns false'. Refute it at one input. -/
def fnExactFrameworkRankWrong : ChangeSpec := { name := "fnExactFrameworkRank", fn := fun _ => fun
  | [d] => { results := [.lit (.bool false)], args := [d] }
  | _ => none }
def FnExactFrameworkRankWrongFalsely : Prop := fnExactFrameworkRankRow.holds Try.pinned (OpenSpec.ofChange fnExactFrameworkRankWrong)

/-- 'laws.FnExactFrameworkFreedom': WHATEVER THE INPUT: true; the input reads as it did. -/
def fnExactFrameworkFreedomSpec : ChangeSpec := { name := "fnExactFrameworkFreedom", fn := fun _ => fun
  | [d] => { results := [.lit (.bool true)], args := [d] }
  | _ => none }
def fnExactFrameworkFreedomRow : OpenClaim := { program := "ytdkpmaahinbhlaa", sum := "fd10cbfe2207fd0259cf549fe0f878be87c189e144f234bdb7c154a02e7925e4", func := "loop.example/g02078/laws.FnExactFrameworkFreedom", spec := "fnExactFrameworkFreedom", unfollowed := true, recurses := true, apart := false }
def FnExactFrameworkFreedomSaid : Prop := fnExactFrameworkFreedomRow.holds Try.pinned (OpenSpec.ofChange fnExactFrameworkFreedomSpec)

/-- ITS FALSE NEIGHBOUR: 'it returns false'. Refute it at one input. -/
def fnExactFrameworkFreedomWrong : ChangeSpec := { name := "fnExactFrameworkFreedom", fn := fun _ => fun
  | [d] => { results := [.lit (.bool false)], args := [d] }
  | _ => none }
def FnExactFrameworkFreedomWrongFalsely : Prop := fnExactFrameworkFreedomRow.holds Try.pinned (OpenSpec.ofChange fnExactFrameworkFreedomWrong)

/-- 'laws.FnExactIsStiff': WHATEVER THE INPUT: true; the input reads as it did. -/
def fnExactIsStiffSpec : ChangeSpec := { name := "fnExactIsStiff", fn := fun _ => fun
  | [d] => { results := [.lit (.bool true)], args := [d] }
  | _ => none }
def fnExactIsStiffRow : OpenClaim := { program := "ytdkpmaahinbhlaa", sum := "fd10cbfe2207fd0259cf549fe0f878be87c189e144f234bdb7c154a02e7925e4", func := "loop.example/g02078/laws.FnExactIsStiff", spec := "fnExactIsStiff", unfollowed := true, recurses := true, apart := false }
def FnExactIsStiffSaid : Prop := fnExactIsStiffRow.holds Try.pinned (OpenSpec.ofChange fnExactIsStiffSpec)

/-- ITS FALSE NEIGHBOUR: 'it returns false'. Refute it at one input. -/
def fnExactIsStiffWrong : ChangeSpec := { name := "fnExactIsStiff", fn := fun _ => fun
  | [d] => { results := [.lit (.bool false)], args := [d] }
  | _ => none }
def FnExactIsStiffWrongFalsely : Prop := fnExactIsStiffRow.holds Try.pinned (OpenSpec.ofChange fnExactIsStiffWrong)

/-- 'laws.FnExactIsIndependentFramework': WHATEVER THE INPUT: true; the input reads as it did. -/
def fnExactIsIndependentFrameworkSpec : ChangeSpec := { name := "fnExactIsIndependentFramework", fn := fun _ => fun
  | [d] => { results := [.lit (.bool true)], args := [d] }
  | _ => none }
def fnExactIsIndependentFrameworkRow : OpenClaim := { program := "ytdkpmaahinbhlaa", sum := "fd10cbfe2207fd0259cf549fe0f878be87c189e144f234bdb7c154a02e7925e4", func := "loop.example/g02078/laws.FnExactIsIndependentFramework", spec := "fnExactIsIndependentFramework", unfollowed := true, recurses := true, apart := false }
def FnExactIsIndependentFrameworkSaid : Prop := fnExactIsIndependentFrameworkRow.holds Try.pinned (OpenSpec.ofChange fnExactIsIndependentFrameworkSpec)

/-- ITS FALSE NEIGHBOUR: 'it returns false'. Refute it at one input. -/
def fnExactIsIndependentFrameworkWrong : ChangeSpec := { name := "fnExactIsIndependentFramework", fn := fun _ => fun
  | [d] => { results := [.lit (.bool false)], args := [d] }
  | _ => none }
def FnExactIsIndependentFrameworkWrongFalsely : Prop := fnExactIsIndependentFrameworkRow.holds Try.pinned (OpenSpec.ofChange fnExactIsIndependentFrameworkWrong)

/-- 'laws.FnExactIsGenericHere': WHATEVER THE INPUT: true; the input reads as it did. -/
def fnExactIsGenericHereSpec : ChangeSpec := { name := "fnExactIsGenericHere", fn := fun _ => fun
  | [d] => { results := [.lit (.bool true)], args := [d] }
  | _ => none }
def fnExactIsGenericHereRow : OpenClaim := { program := "ytdkpmaahinbhlaa", sum := "fd10cbfe2207fd0259cf549fe0f878be87c189e144f234bdb7c154a02e7925e4", func := "loop.example/g02078/laws.FnExactIsGenericHere", spec := "fnExactIsGenericHere", unfollowed := true, recurses := true, apart := false }
def FnExactIsGenericHereSaid : Prop := fnExactIsGenericHereRow.holds Try.pinned (OpenSpec.ofChange fnExactIsGenericHereSpec)

/-- ITS FALSE NEIGHBOUR: 'it returns false'. Refute it at one input. -/
def fnExactIsGenericHereWrong : ChangeSpec := { name := "fnExactIsGenericHere", fn := fun _ => fun
  | [d] => { results := [.lit (.bool false)], args := [d] }
  | _ => none }
def FnExactIsGenericHereWrongFalsely : Prop := fnExactIsGenericHereRow.holds Try.pinned (OpenSpec.ofChange fnExactIsGenericHereWrong)

/-- 'laws.FnExactFlatSets': WHATEVER THE INPUT: true; the input reads as it did. -/
def fnExactFlatSetsSpec : ChangeSpec := { name := "fnExactFlatSets", fn := fun _ => fun
  | [d] => { results := [.lit (.bool true)], args := [d] }
  | _ => none }
def fnExactFlatSetsRow : OpenClaim := { program := "ytdkpmaahinbhlaa", sum := "fd10cbfe2207fd0259cf549fe0f878be87c189e144f234bdb7c154a02e7925e4", func := "loop.example/g02078/laws.FnExactFlatSets", spec := "fnExactFlatSets", unfollowed := true, recurses := true, apart := false }
def FnExactFlatSetsSaid : Prop := fnExactFlatSetsRow.holds Try.pinned (OpenSpec.ofChange fnExactFlatSetsSpec)

/-- ITS FALSE NEIGHBOUR: 'it returns false'. Refute it at one input. -/
def fnExactFlatSetsWrong : ChangeSpec := { name := "fnExactFlatSets", fn := fun _ => fun
  | [d] => { results := [.lit (.bool false)], args := [d] }
  | _ => none }
def FnExactFlatSetsWrongFalsely : Prop := fnExactFlatSetsRow.holds Try.pinned (OpenSpec.ofChange fnExactFlatSetsWrong)

/- THE SECOND FORM. 'bulk': how many values and letters a reading holds, each counted each time it is reached (what is shared counts as often as it is met; a slice's spare places count too). A statement '..UptoSaid' is the law's where the arguments, and the package variables that the reading takes, are together of bulk at most 1048576: NARROWER than '..Said'. Prove '..Said' where nothing that the law and all that it calls make is longer than what came in: it says more and counts as full. Else prove '..UptoSaid'. A law counts once. -/
mutual
def uptoBulk {H : Type} : DataW H → Nat
  | .lit (.string bytes) => bytes.length + 1
  | .lit _ => 1
  | .nil => 1
  | .ptr d => uptoBulk d + 1
  | .slice elems spare => uptoBulkAll elems + uptoBulkAll spare + 1
  | .agg parts => uptoBulkAll parts + 1
  | .iface _ d => uptoBulk d + 1
  | .map entries => uptoBulkEntries entries + 1
  | .held _ => 1
def uptoBulkAll {H : Type} : List (DataW H) → Nat
  | [] => 0
  | d :: r => uptoBulk d + uptoBulkAll r
def uptoBulkEntries {H : Type} : List (Lit × DataW H) → Nat
  | [] => 0
  | x :: r => uptoBulkEntry x + uptoBulkEntries r
def uptoBulkEntry {H : Type} : Lit × DataW H → Nat
  | (.string bytes, d) => bytes.length + uptoBulk d + 1
  | (_, d) => uptoBulk d + 1
 end
def uptoSmall : (H : Type) → List (DataW H) → Bool := fun _ ds => decide (uptoBulkAll ds ≤ 1048576)
def OpenSpec.upto (s : _root_.Go.ChangeSpec) : _root_.Go.OpenSpec := { _root_.Go.OpenSpec.ofChange s with cond := some uptoSmall }

/-- 'laws.FnPebbles', WHERE WHAT IT READS IS OF BULK AT MOST 1048576: true; the input reads as it did. -/
def fnPebblesUptoRow : OpenClaim := { program := "ytdkpmaahinbhlaa", sum := "fd10cbfe2207fd0259cf549fe0f878be87c189e144f234bdb7c154a02e7925e4", func := "loop.example/g02078/laws.FnPebbles", spec := "fnPebbles", unfollowed := true, recurses := true, apart := false, narrowed := true }
def FnPebblesUptoSaid : Prop := fnPebblesUptoRow.holds Try.pinned (OpenSpec.upto fnPebblesSpec)

/-- 'laws.FnMatroids', WHERE WHAT IT READS IS OF BULK AT MOST 1048576: true; the input reads as it did. -/
def fnMatroidsUptoRow : OpenClaim := { program := "ytdkpmaahinbhlaa", sum := "fd10cbfe2207fd0259cf549fe0f878be87c189e144f234bdb7c154a02e7925e4", func := "loop.example/g02078/laws.FnMatroids", spec := "fnMatroids", unfollowed := true, recurses := true, apart := false, narrowed := true }
def FnMatroidsUptoSaid : Prop := fnMatroidsUptoRow.holds Try.pinned (OpenSpec.upto fnMatroidsSpec)

/-- 'laws.FnMatrices', WHERE WHAT IT READS IS OF BULK AT MOST 1048576: true; the input reads as it did. -/
def fnMatricesUptoRow : OpenClaim := { program := "ytdkpmaahinbhlaa", sum := "fd10cbfe2207fd0259cf549fe0f878be87c189e144f234bdb7c154a02e7925e4", func := "loop.example/g02078/laws.FnMatrices", spec := "fnMatrices", unfollowed := true, recurses := true, apart := false, narrowed := true }
def FnMatricesUptoSaid : Prop := fnMatricesUptoRow.holds Try.pinned (OpenSpec.upto fnMatricesSpec)

/-- 'laws.FnExactFindSteps', WHERE WHAT IT READS IS OF BULK AT MOST 1048576: true; the input reads as it did. -/
def fnExactFindStepsUptoRow : OpenClaim := { program := "ytdkpmaahinbhlaa", sum := "fd10cbfe2207fd0259cf549fe0f878be87c189e144f234bdb7c154a02e7925e4", func := "loop.example/g02078/laws.FnExactFindSteps", spec := "fnExactFindSteps", inPlace := ["slices.overlaps[loop.example/g02078/impl.Bar]"], unfollowed := true, recurses := true, apart := false, narrowed := true }
def FnExactFindStepsUptoSaid : Prop := fnExactFindStepsUptoRow.holds Try.pinned (OpenSpec.upto fnExactFindStepsSpec)

/-- 'laws.FnExactRigidityMatrix', WHERE WHAT IT READS IS OF BULK AT MOST 1048576: true; the input reads as it did. -/
def fnExactRigidityMatrixUptoRow : OpenClaim := { program := "ytdkpmaahinbhlaa", sum := "fd10cbfe2207fd0259cf549fe0f878be87c189e144f234bdb7c154a02e7925e4", func := "loop.example/g02078/laws.FnExactRigidityMatrix", spec := "fnExactRigidityMatrix", unfollowed := true, recurses := true, apart := false, narrowed := true }
def FnExactRigidityMatrixUptoSaid : Prop := fnExactRigidityMatrixUptoRow.holds Try.pinned (OpenSpec.upto fnExactRigidityMatrixSpec)

/-- 'laws.FnExactFrameworkRank', WHERE WHAT IT READS IS OF BULK AT MOST 1048576: true; the input reads as it did. -/
def fnExactFrameworkRankUptoRow : OpenClaim := { program := "ytdkpmaahinbhlaa", sum := "fd10cbfe2207fd0259cf549fe0f878be87c189e144f234bdb7c154a02e7925e4", func := "loop.example/g02078/laws.FnExactFrameworkRank", spec := "fnExactFrameworkRank", unfollowed := true, recurses := true, apart := false, narrowed := true }
def FnExactFrameworkRankUptoSaid : Prop := fnExactFrameworkRankUptoRow.holds Try.pinned (OpenSpec.upto fnExactFrameworkRankSpec)

/-- 'laws.FnExactFrameworkFreedom', WHERE WHAT IT READS IS OF BULK AT MOST 1048576: true; the input reads as it did. -/
def fnExactFrameworkFreedomUptoRow : OpenClaim := { program := "ytdkpmaahinbhlaa", sum := "fd10cbfe2207fd0259cf549fe0f878be87c189e144f234bdb7c154a02e7925e4", func := "loop.example/g02078/laws.FnExactFrameworkFreedom", spec := "fnExactFrameworkFreedom", unfollowed := true, recurses := true, apart := false, narrowed := true }
def FnExactFrameworkFreedomUptoSaid : Prop := fnExactFrameworkFreedomUptoRow.holds Try.pinned (OpenSpec.upto fnExactFrameworkFreedomSpec)

/-- 'laws.FnExactIsStiff', WHERE WHAT IT READS IS OF BULK AT MOST 1048576: true; the input reads as it did. -/
def fnExactIsStiffUptoRow : OpenClaim := { program := "ytdkpmaahinbhlaa", sum := "fd10cbfe2207fd0259cf549fe0f878be87c189e144f234bdb7c154a02e7925e4", func := "loop.example/g02078/laws.FnExactIsStiff", spec := "fnExactIsStiff", unfollowed := true, recurses := true, apart := false, narrowed := true }
def FnExactIsStiffUptoSaid : Prop := fnExactIsStiffUptoRow.holds Try.pinned (OpenSpec.upto fnExactIsStiffSpec)

/-- 'laws.FnExactIsIndependentFramework', WHERE WHAT IT READS IS OF BULK AT MOST 1048576: true; the input reads as it did. -/
def fnExactIsIndependentFrameworkUptoRow : OpenClaim := { program := "ytdkpmaahinbhlaa", sum := "fd10cbfe2207fd0259cf549fe0f878be87c189e144f234bdb7c154a02e7925e4", func := "loop.example/g02078/laws.FnExactIsIndependentFramework", spec := "fnExactIsIndependentFramework", unfollowed := true, recurses := true, apart := false, narrowed := true }
def FnExactIsIndependentFrameworkUptoSaid : Prop := fnExactIsIndependentFrameworkUptoRow.holds Try.pinned (OpenSpec.upto fnExactIsIndependentFrameworkSpec)

/-- 'laws.FnExactIsGenericHere', WHERE WHAT IT READS IS OF BULK AT MOST 1048576: true; the input reads as it did. -/
def fnExactIsGenericHereUptoRow : OpenClaim := { program := "ytdkpmaahinbhlaa", sum := "fd10cbfe2207fd0259cf549fe0f878be87c189e144f234bdb7c154a02e7925e4", func := "loop.example/g02078/laws.FnExactIsGenericHere", spec := "fnExactIsGenericHere", unfollowed := true, recurses := true, apart := false, narrowed := true }
def FnExactIsGenericHereUptoSaid : Prop := fnExactIsGenericHereUptoRow.holds Try.pinned (OpenSpec.upto fnExactIsGenericHereSpec)

/-- 'laws.FnExactFlatSets', WHERE WHAT IT READS IS OF BULK AT MOST 1048576: true; the input reads as it did. -/
def fnExactFlatSetsUptoRow : OpenClaim := { program := "ytdkpmaahinbhlaa", sum := "fd10cbfe2207fd0259cf549fe0f878be87c189e144f234bdb7c154a02e7925e4", func := "loop.example/g02078/laws.FnExactFlatSets", spec := "fnExactFlatSets", unfollowed := true, recurses := true, apart := false, narrowed := true }
def FnExactFlatSetsUptoSaid : Prop := fnExactFlatSetsUptoRow.holds Try.pinned (OpenSpec.upto fnExactFlatSetsSpec)

end Rows
end Go.Proofs.Ytdkpmaahinbhlaa
