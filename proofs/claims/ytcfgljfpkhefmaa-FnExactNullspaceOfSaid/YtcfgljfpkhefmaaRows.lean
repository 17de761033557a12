/-
  No cell of these rows narrows 'for every input' (looked for: loops, veiled, ifaces, maps, wideKeys, modest, calm, conditions, laid).
  DERIVED. THE GIVEN ROWS OF THIS SEAT. 11 by the template 'for every input the law returns true; each argument reads behind the call as it read before'; 0 by the template 'total and deterministic' (their statements: YtcfgljfpkhefmaaTotals.lean).
  GIVEN WITH THE SEED: the statements are not yours to turn. If you find one false, say at which input.
  Laid BY PROGRAM, IN A SANDBOX (cutbox-rows.mjs): the forced cells as the released guide's own fill.sh prints them over the translation 62eb5e694f3af2fe… (all of the seat's roots in one cut). By AI agents, Wed Nov 11 2026. No macro, syntax, notation, axiom, sorry.
-/
import Derived.Test.YtcfgljfpkhefmaaChecked
import GoSem.Claim
import GoSem.ClaimJoined
import GoSem.ClaimMapViews
import Derived.JoinedTies
import Derived.KernelRfl
namespace Go.Proofs.Ytcfgljfpkhefmaa
/- THE CELL 'sum', in the pinned program and in every row, IS THE sha256 OF THE DUMP (.gsa) THAT YtcfgljfpkhefmaaProg.lean LOADS. Nothing in Lean hashes anything: it is a label: what it is worth is what the hold of that sum in a sandbox is worth. -/
noncomputable def Try.pinned : Pinned := { name := "ytcfgljfpkhefmaa", sum := "62eb5e694f3af2fe2cf73b142a550f33dc212d53ae9c1df1a89bba1acb29fe34", checked := Try.checked }
namespace Rows
def none {H : Type} : Left H := { results := [], args := [] }

/-- 'laws.FnExactIsMatrix': WHATEVER THE INPUT: true; the input reads as it did. -/
def fnExactIsMatrixSpec : ChangeSpec := { name := "fnExactIsMatrix", fn := fun _ => fun
  | [d] => { results := [.lit (.bool true)], args := [d] }
  | _ => none }
def fnExactIsMatrixRow : OpenClaim := { program := "ytcfgljfpkhefmaa", sum := "62eb5e694f3af2fe2cf73b142a550f33dc212d53ae9c1df1a89bba1acb29fe34", func := "loop.example/g02078/laws.FnExactIsMatrix", spec := "fnExactIsMatrix", apart := false }
def FnExactIsMatrixSaid : Prop := fnExactIsMatrixRow.holds Try.pinned (OpenSpec.ofChange fnExactIsMatrixSpec)

/-- ITS FALSE NEIGHBOUR: 'it returns false'. Refute it at one input. -/
def fnExactIsMatrixWrong : ChangeSpec := { name := "fnExactIsMatrix", fn := fun _ => fun
  | [d] => { results := [.lit (.bool false)], args := [d] }
  | _ => none }
def FnExactIsMatrixWrongFalsely : Prop := fnExactIsMatrixRow.holds Try.pinned (OpenSpec.ofChange fnExactIsMatrixWrong)

/-- 'laws.FnExactRankOfMatrix': WHATEVER THE INPUT: true; the input reads as it did. -/
def fnExactRankOfMatrixSpec : ChangeSpec := { name := "fnExactRankOfMatrix", fn := fun _ => fun
  | [d] => { results := [.lit (.bool true)], args := [d] }
  | _ => none }
def fnExactRankOfMatrixRow : OpenClaim := { program := "ytcfgljfpkhefmaa", sum := "62eb5e694f3af2fe2cf73b142a550f33dc212d53ae9c1df1a89bba1acb29fe34", func := "loop.example/g02078/laws.FnExactRankOfMatrix", spec := "fnExactRankOfMatrix", unfollowed := true, recurses := true, apart := false }
def FnExactRankOfMatrixSaid : Prop := fnExactRankOfMatrixRow.holds Try.pinned (OpenSpec.ofChange fnExactRankOfMatrixSpec)

/-- ITS FALSE NEIGHBOUR: 'it returns false'. Refute it at one input. -/
def fnExactRankOfMatrixWrong : ChangeSpec := { name := "fnExactRankOfMatrix", fn := fun _ => fun
  | [d] => { results := [.lit (.bool false)], args := [d] }
  | _ => none }
def FnExactRankOfMatrixWrongFalsely : Prop := fnExactRankOfMatrixRow.holds Try.pinned (OpenSpec.ofChange fnExactRankOfMatrixWrong)

/-- 'laws.FnExactNullspaceOf': WHATEVER THE INPUT: true; the input reads as it did. -/
def fnExactNullspaceOfSpec : ChangeSpec := { name := "fnExactNullspaceOf", fn := fun _ => fun
  | [d] => { results := [.lit (.bool true)], args := [d] }
  | _ => none }
def fnExactNullspaceOfRow : OpenClaim := { program := "ytcfgljfpkhefmaa", sum := "62eb5e694f3af2fe2cf73b142a550f33dc212d53ae9c1df1a89bba1acb29fe34", func := "loop.example/g02078/laws.FnExactNullspaceOf", spec := "fnExactNullspaceOf", unfollowed := true, recurses := true, apart := false }
def FnExactNullspaceOfSaid : Prop := fnExactNullspaceOfRow.holds Try.pinned (OpenSpec.ofChange fnExactNullspaceOfSpec)

/-- ITS FALSE NEIGHBOUR: 'it returns false'. Refute it at one input. -/
def fnExactNullspaceOfWrong : ChangeSpec := { name := "fnExactNullspaceOf", fn := fun _ => fun
  | [d] => { results := [.lit (.bool false)], args := [d] }
  | _ => none }
def FnExactNullspaceOfWrongFalsely : Prop := fnExactNullspaceOfRow.holds Try.pinned (OpenSpec.ofChange fnExactNullspaceOfWrong)

/-- 'laws.FnExactTransposeMatrix': WHATEVER THE INPUT: true; the input reads as it did. -/
def fnExactTransposeMatrixSpec : ChangeSpec := { name := "fnExactTransposeMatrix", fn := fun _ => fun
  | [d] => { results := [.lit (.bool true)], args := [d] }
  | _ => none }
def fnExactTransposeMatrixRow : OpenClaim := { program := "ytcfgljfpkhefmaa", sum := "62eb5e694f3af2fe2cf73b142a550f33dc212d53ae9c1df1a89bba1acb29fe34", func := "loop.example/g02078/laws.FnExactTransposeMatrix", spec := "fnExactTransposeMatrix", apart := false }
def FnExactTransposeMatrixSaid : Prop := fnExactTransposeMatrixRow.holds Try.pinned (OpenSpec.ofChange fnExactTransposeMatrixSpec)

/-- ITS FALSE NEIGHBOUR: 'it returns false'. Refute it at one input. -/
def fnExactTransposeMatrixWrong : ChangeSpec := { name := "fnExactTransposeMatrix", fn := fun _ => fun
  | [d] => { results := [.lit (.bool false)], args := [d] }
  | _ => none }
def FnExactTransposeMatrixWrongFalsely : Prop := fnExactTransposeMatrixRow.holds Try.pinned (OpenSpec.ofChange fnExactTransposeMatrixWrong)

/-- 'laws.FnExactTimesVector': WHATEVER THE INPUT: true; the input reads as it did. -/
def fnExactTimesVectorSpec : ChangeSpec := { name := "fnExactTimesVector", fn := fun _ => fun
  | [d1, d2] => { results := [.lit (.bool true)], args := [d1, d2] }
  | _ => none }
def fnExactTimesVectorRow : OpenClaim := { program := "ytcfgljfpkhefmaa", sum := "62eb5e694f3af2fe2cf73b142a550f33dc212d53ae9c1df1a89bba1acb29fe34", func := "loop.example/g02078/laws.FnExactTimesVector", spec := "fnExactTimesVector", apart := false }
def FnExactTimesVectorSaid : Prop := fnExactTimesVectorRow.holds Try.pinned (OpenSpec.ofChange fnExactTimesVectorSpec)

/-- ITS FALSE NEIGHBOUR: 'it returns false'. Refute it at one input. -/
def fnExactTimesVectorWrong : ChangeSpec := { name := "fnExactTimesVector", fn := fun _ => fun
  | [d1, d2] => { results := [.lit (.bool false)], args := [d1, d2] }
  | _ => none }
def FnExactTimesVectorWrongFalsely : Prop := fnExactTimesVectorRow.holds Try.pinned (OpenSpec.ofChange fnExactTimesVectorWrong)

/-- 'laws.FnExactPrimitiveVector': WHATEVER THE INPUT: true; the input reads as it did. -/
def fnExactPrimitiveVectorSpec : ChangeSpec := { name := "fnExactPrimitiveVector", fn := fun _ => fun
  | [d] => { results := [.lit (.bool true)], args := [d] }
  | _ => none }
def fnExactPrimitiveVectorRow : OpenClaim := { program := "ytcfgljfpkhefmaa", sum := "62eb5e694f3af2fe2cf73b142a550f33dc212d53ae9c1df1a89bba1acb29fe34", func := "loop.example/g02078/laws.FnExactPrimitiveVector", spec := "fnExactPrimitiveVector", unfollowed := true, recurses := true, apart := false }
def FnExactPrimitiveVectorSaid : Prop := fnExactPrimitiveVectorRow.holds Try.pinned (OpenSpec.ofChange fnExactPrimitiveVectorSpec)

/-- ITS FALSE NEIGHBOUR: 'it returns false'. Refute it at one input. -/
def fnExactPrimitiveVectorWrong : ChangeSpec := { name := "fnExactPrimitiveVector", fn := fun _ => fun
  | [d] => { results := [.lit (.bool false)], args := [d] }
  | _ => none }
def FnExactPrimitiveVectorWrongFalsely : Prop := fnExactPrimitiveVectorRow.holds Try.pinned (OpenSpec.ofChange fnExactPrimitiveVectorWrong)

/-- 'laws.FnExactGcdOf': WHATEVER THE INPUT: true; the input reads as it did. -/
def fnExactGcdOfSpec : ChangeSpec := { name := "fnExactGcdOf", fn := fun _ => fun
  | [d1, d2] => { results := [.lit (.bool true)], args := [d1, d2] }
  | _ => none }
def fnExactGcdOfRow : OpenClaim := { program := "ytcfgljfpkhefmaa", sum := "62eb5e694f3af2fe2cf73b142a550f33dc212d53ae9c1df1a89bba1acb29fe34", func := "loop.example/g02078/laws.FnExactGcdOf", spec := "fnExactGcdOf", apart := false }
def FnExactGcdOfSaid : Prop := fnExactGcdOfRow.holds Try.pinned (OpenSpec.ofChange fnExactGcdOfSpec)

/-- ITS FALSE NEIGHBOUR: 'it returns false'. Refute it at one input. -/
def fnExactGcdOfWrong : ChangeSpec := { name := "fnExactGcdOf", fn := fun _ => fun
  | [d1, d2] => { results := [.lit (.bool false)], args := [d1, d2] }
  | _ => none }
def FnExactGcdOfWrongFalsely : Prop := fnExactGcdOfRow.holds Try.pinned (OpenSpec.ofChange fnExactGcdOfWrong)

/-- 'laws.FnExactFindSteps': WHATEVER THE INPUT: true; the input reads as it did. -/
def fnExactFindStepsSpec : ChangeSpec := { name := "fnExactFindSteps", fn := fun _ => fun
  | [d] => { results := [.lit (.bool true)], args := [d] }
  | _ => none }
def fnExactFindStepsRow : OpenClaim := { program := "ytcfgljfpkhefmaa", sum := "62eb5e694f3af2fe2cf73b142a550f33dc212d53ae9c1df1a89bba1acb29fe34", func := "loop.example/g02078/laws.FnExactFindSteps", spec := "fnExactFindSteps", inPlace := ["slices.overlaps[loop.example/g02078/impl.Bar]"], unfollowed := true, recurses := true, apart := false }
def FnExactFindStepsSaid : Prop := fnExactFindStepsRow.holds Try.pinned (OpenSpec.ofChange fnExactFindStepsSpec)

/-- ITS FALSE NEIGHBOUR: 'it returns false'. Refute it at one input. -/
def fnExactFindStepsWrong : ChangeSpec := { name := "fnExactFindSteps", fn := fun _ => fun
  | [d] => { results := [.lit (.bool false)], args := [d] }
  | _ => none }
def FnExactFindStepsWrongFalsely : Prop := fnExactFindStepsRow.holds Try.pinned (OpenSpec.ofChange fnExactFindStepsWrong)

/-- 'laws.FnPebbles': WHATEVER THE INPUT: true; the input reads as it did. -/
def fnPebblesSpec : ChangeSpec := { name := "fnPebbles", fn := fun _ => fun
  | [d] => { results := [.lit (.bool true)], args := [d] }
  | _ => none }
def fnPebblesRow : OpenClaim := { program := "ytcfgljfpkhefmaa", sum := "62eb5e694f3af2fe2cf73b142a550f33dc212d53ae9c1df1a89bba1acb29fe34", func := "loop.example/g02078/laws.FnPebbles", spec := "fnPebbles", unfollowed := true, recurses := true, apart := false }
def FnPebblesSaid : Prop := fnPebblesRow.holds Try.pinned (OpenSpec.ofChange fnPebblesSpec)

/-- ITS FALSE NEIGHBOUR: 'it returns false'. Refute it at one input. -/
def fnPebblesWrong : ChangeSpec := { name := "fnPebbles", fn := fun _ => fun
  | [d] => { results := [.lit (.bool false)], args := [d] }
  | _ => none }
def FnPebblesWrongFalsely : Prop := fnPebblesRow.holds Try.pinned (OpenSpec.ofChange fnPebblesWrong)

/-- 'laws.FnMatroids': WHATEVER THE INPUT: true; the input reads as it did. -/
def fnMatroidsSpec : ChangeSpec := { name := "fnMatroids", fn := fun _ => fun
  | [d] => { results := [.lit (.bool true)], args := [d] }
  | _ => none }
def fnMatroidsRow : OpenClaim := { program := "ytcfgljfpkhefmaa", sum := "62eb5e694f3af2fe2cf73b142a550f33dc212d53ae9c1df1a89bba1acb29fe34", func := "loop.example/g02078/laws.FnMatroids", spec := "fnMatroids", unfollowed := true, recurses := true, apart := false }
def FnMatroidsSaid : Prop := fnMatroidsRow.holds Try.pinned (OpenSpec.ofChange fnMatroidsSpec)

/-- ITS FALSE NEIGHBOUR: 'it returns false'. Refute it at one input. -/
def fnMatroidsWrong : ChangeSpec := { name := "fnMatroids", fn := fun _ => fun
  | [d] => { results := [.lit (.bool false)], args := [d] }
  | _ => none }
def FnMatroidsWrongFalsely : Prop := fnMatroidsRow.holds Try.pinned (OpenSpec.ofChange fnMatroidsWrong)

/-- 'laws.FnMatrices': WHATEVER THE INPUT: true; the input reads as it did. -/
def fnMatricesSpec : ChangeSpec := { name := "fnMatrices", fn := fun _ => fun
  | [d] => { results := [.lit (.bool true)], args := [d] }
  | _ => none }
def fnMatricesRow : OpenClaim := { program := "ytcfgljfpkhefmaa", sum := "62eb5e694f3af2fe2cf73b142a550f33dc212d53ae9c1df1a89bba1acb29fe34", func := "loop.example/g02078/laws.FnMatrices", spec := "fnMatrices", unfollowed := true, recurses := true, apart := false }
def FnMatricesSaid : Prop := fnMatricesRow.holds Try.pinned (OpenSpec.ofChange fnMatricesSpec)

/-- ITS FALSE NEIGHBOUR: 'it returns false'. Refute it at one input. -/
def fnMatricesWrong : ChangeSpec := { name := "fnMatrices", fn := fun _ => fun
  | [d] => { results := [.lit (.bool false)], args := [d] }
  | _ => none }
def FnMatricesWrongFalsely : Prop := fnMatricesRow.holds Try.pinned (OpenSpec.ofChange fnMatricesWrong)

/- THE SECOND FORM. 'bulk': how many values and letters a reading holds, each counted each time it is reached (what is shared counts as often as it is met; a slice's spare places count too). A statement '..UptoSaid' is the law's where the arguments, and the package variables that the reading takes, are together of bulk at most 1048576: NARROWER than '..Said'. Prove '..Said' where nothing that the law and all that it calls make is longer than what came in: it says more and counts as full. Else prove '..UptoSaid'. A law counts once. -/
mutual
def uptoBulk {H : Type} : DataW H → Nat
  | .lit (.string bytes) => bytes.length + 1
  | .lit _ => 1
  | .nil => 1
  | .ptr d => uptoBulk d + 1
  | .slice elems spare => uptoBulkAll elems + uptoBulkAll spare + 1
  | .agg parts => uptoBulkAll parts + 1
  | .iface _ d => uptoBulk d + 1
  | .map entries => uptoBulkEntries entries + 1
  | .held _ => 1
def uptoBulkAll {H : Type} : List (DataW H) → Nat
  | [] => 0
  | d :: r => uptoBulk d + uptoBulkAll r
def uptoBulkEntries {H : Type} : List (Lit × DataW H) → Nat
  | [] => 0
  | x :: r => uptoBulkEntry x + uptoBulkEntries r
def uptoBulkEntry {H : Type} : Lit × DataW H → Nat
  | (.string bytes, d) => bytes.length + uptoBulk d + 1
  | (_, d) => uptoBulk d + 1
 end
def uptoSmall : (H : Type) → List (DataW H) → Bool := fun _ ds => decide (uptoBulkAll ds ≤ 1048576)
def OpenSpec.upto (s : _root_.Go.ChangeSpec) : _root_.Go.OpenSpec := { _root_.Go.OpenSpec.ofChange s with cond := some uptoSmall }

/-- 'laws.FnExactIsMatrix', WHERE WHAT IT READS IS OF BULK AT MOST 1048576: true; the input reads as it did. -/
def fnExactIsMatrixUptoRow : OpenClaim := { program := "ytcfgljfpkhefmaa", sum := "62eb5e694f3af2fe2cf73b142a550f33dc212d53ae9c1df1a89bba1acb29fe34", func := "loop.example/g02078/laws.FnExactIsMatrix", spec := "fnExactIsMatrix", apart := false, narrowed := true }
def FnExactIsMatrixUptoSaid : Prop := fnExactIsMatrixUptoRow.holds Try.pinned (OpenSpec.upto fnExactIsMatrixSpec)

/-- 'laws.FnExactRankOfMatrix', WHERE WHAT IT READS IS OF BULK AT MOST 1048576: true; the input reads as it did. -/
def fnExactRankOfMatrixUptoRow : OpenClaim := { program := "ytcfgljfpkhefmaa", sum := "62eb5e694f3af2fe2cf73b142a550f33dc212d53ae9c1df1a89bba1acb29fe34", func := "loop.example/g02078/laws.FnExactRankOfMatrix", spec := "fnExactRankOfMatrix", unfollowed := true, recurses := true, apart := false, narrowed := true }
def FnExactRankOfMatrixUptoSaid : Prop := fnExactRankOfMatrixUptoRow.holds Try.pinned (OpenSpec.upto fnExactRankOfMatrixSpec)

/-- 'laws.FnExactNullspaceOf', WHERE WHAT IT READS IS OF BULK AT MOST 1048576: true; the input reads as it did. -/
def fnExactNullspaceOfUptoRow : OpenClaim := { program := "ytcfgljfpkhefmaa", sum := "62eb5e694f3af2fe2cf73b142a550f33dc212d53ae9c1df1a89bba1acb29fe34", func := "loop.example/g02078/laws.FnExactNullspaceOf", spec := "fnExactNullspaceOf", unfollowed := true, recurses := true, apart := false, narrowed := true }
def FnExactNullspaceOfUptoSaid : Prop := fnExactNullspaceOfUptoRow.holds Try.pinned (OpenSpec.upto fnExactNullspaceOfSpec)

/-- 'laws.FnExactTransposeMatrix', WHERE WHAT IT READS IS OF BULK AT MOST 1048576: true; the input reads as it did. -/
def fnExactTransposeMatrixUptoRow : OpenClaim := { program := "ytcfgljfpkhefmaa", sum := "62eb5e694f3af2fe2cf73b142a550f33dc212d53ae9c1df1a89bba1acb29fe34", func := "loop.example/g02078/laws.FnExactTransposeMatrix", spec := "fnExactTransposeMatrix", apart := false, narrowed := true }
def FnExactTransposeMatrixUptoSaid : Prop := fnExactTransposeMatrixUptoRow.holds Try.pinned (OpenSpec.upto fnExactTransposeMatrixSpec)

/-- 'laws.FnExactTimesVector', WHERE WHAT IT READS IS OF BULK AT MOST 1048576: true; the input reads as it did. -/
def fnExactTimesVectorUptoRow : OpenClaim := { program := "ytcfgljfpkhefmaa", sum := "62eb5e694f3af2fe2cf73b142a550f33dc212d53ae9c1df1a89bba1acb29fe34", func := "loop.example/g02078/laws.FnExactTimesVector", spec := "fnExactTimesVector", apart := false, narrowed := true }
def FnExactTimesVectorUptoSaid : Prop := fnExactTimesVectorUptoRow.holds Try.pinned (OpenSpec.upto fnExactTimesVectorSpec)

/-- 'laws.FnExactPrimitiveVector', WHERE WHAT IT READS IS OF BULK AT MOST 1048576: true; the input reads as it did. -/
def fnExactPrimitiveVectorUptoRow : OpenClaim := { program := "ytcfgljfpkhefmaa", sum := "62eb5e694f3af2fe2cf73b142a550f33dc212d53ae9c1df1a89bba1acb29fe34", func := "loop.example/g02078/laws.FnExactPrimitiveVector", spec := "fnExactPrimitiveVector", unfollowed := true, recurses := true, apart := false, narrowed := true }
def FnExactPrimitiveVectorUptoSaid : Prop := fnExactPrimitiveVectorUptoRow.holds Try.pinned (OpenSpec.upto fnExactPrimitiveVectorSpec)

/-- 'laws.FnExactGcdOf', WHERE WHAT IT READS IS OF BULK AT MOST 1048576: true; the input reads as it did. -/
def fnExactGcdOfUptoRow : OpenClaim := { program := "ytcfgljfpkhefmaa", sum := "62eb5e694f3af2fe2cf73b142a550f33dc212d53ae9c1df1a89bba1acb29fe34", func := "loop.example/g02078/laws.FnExactGcdOf", spec := "fnExactGcdOf", apart := false, narrowed := true }
def FnExactGcdOfUptoSaid : Prop := fnExactGcdOfUptoRow.holds Try.pinned (OpenSpec.upto fnExactGcdOfSpec)

/-- 'laws.FnExactFindSteps', WHERE WHAT IT READS IS OF BULK AT MOST 1048576: true; the input reads as it did. -/
def fnExactFindStepsUptoRow : OpenClaim := { program := "ytcfgljfpkhefmaa", sum := "62eb5e694f3af2fe2cf73b142a550f33dc212d53ae9c1df1a89bba1acb29fe34", func := "loop.example/g02078/laws.FnExactFindSteps", spec := "fnExactFindSteps", inPlace := ["slices.overlaps[loop.example/g02078/impl.Bar]"], unfollowed := true, recurses := true, apart := false, narrowed := true }
def FnExactFindStepsUptoSaid : Prop := fnExactFindStepsUptoRow.holds Try.pinned (OpenSpec.upto fnExactFindStepsSpec)

/-- 'laws.FnPebbles', WHERE WHAT IT READS IS OF BULK AT MOST 1048576: true; the input reads as it did. -/
def fnPebblesUptoRow : OpenClaim := { program := "ytcfgljfpkhefmaa", sum := "62eb5e694f3af2fe2cf73b142a550f33dc212d53ae9c1df1a89bba1acb29fe34", func := "loop.example/g02078/laws.FnPebbles", spec := "fnPebbles", unfollowed := true, recurses := true, apart := false, narrowed := true }
def FnPebblesUptoSaid : Prop := fnPebblesUptoRow.holds Try.pinned (OpenSpec.upto fnPebblesSpec)

/-- 'laws.FnMatroids', WHERE WHAT IT READS IS OF BULK AT MOST 1048576: true; the input reads as it did. -/
def fnMatroidsUptoRow : OpenClaim := { program := "ytcfgljfpkhefmaa", sum := "62eb5e694f3af2fe2cf73b142a550f33dc212d53ae9c1df1a89bba1acb29fe34", func := "loop.example/g02078/laws.FnMatroids", spec := "fnMatroids", unfollowed := true, recurses := true, apart := false, narrowed := true }
def FnMatroidsUptoSaid : Prop := fnMatroidsUptoRow.holds Try.pinned (OpenSpec.upto fnMatroidsSpec)

/-- 'laws.FnMatrices', WHERE WHAT IT READS IS OF BULK AT MOST 1048576: true; the input reads as it did. -/
def fnMatricesUptoRow : OpenClaim := { program := "ytcfgljfpkhefmaa", sum := "62eb5e694f3af2fe2cf73b142a550f33dc212d53ae9c1df1a89bba1acb29fe34", func := "loop.example/g02078/laws.FnMatrices", spec := "fnMatrices", unfollowed := true, recurses := true, apart := false, narrowed := true }
def FnMatricesUptoSaid : Prop := fnMatricesUptoRow.holds Try.pinned (OpenSpec.upto fnMatricesSpec)

end Rows
end Go.Proofs.Ytcfgljfpkhefmaa
