/-
  No cell of these rows narrows 'for every input' (looked for: loops, veiled, ifaces, maps, wideKeys, modest, calm, conditions, laid).
  DERIVED. THE GIVEN ROWS OF THIS SEAT. 8 by the template 'for every input the law returns true; each argument reads behind the call as it read before'; 0 by the template 'total and deterministic' (their statements: YtedjhnedkghhoaaTotals.lean).
  GIVEN WITH THE SEED: the statements are not yours to turn. If you find one false, say at which input.
  Laid BY PROGRAM, IN A SANDBOX (cutbox-rows.mjs): the forced cells as the released guide's own fill.sh prints them over the translation be0cece27e28d139… (all of the seat's roots in one cut). By AI agents, Wed Nov 11 2026. No macro, syntax, notation, axiom, sorry.
-/
import Derived.Test.YtedjhnedkghhoaaChecked
import GoSem.Claim
import GoSem.ClaimJoined
import GoSem.ClaimMapViews
import Derived.JoinedTies
import Derived.KernelRfl
namespace Go.Proofs.Ytedjhnedkghhoaa
/- THE CELL 'sum', in the pinned program and in every row, IS THE sha256 OF THE DUMP (.gsa) THAT YtedjhnedkghhoaaProg.lean LOADS. Nothing in Lean hashes anything: it is a label: what it is worth is what the hold of that sum in a sandbox is worth. -/
noncomputable def Try.pinned : Pinned := { name := "ytedjhnedkghhoaa", sum := "be0cece27e28d1390f4c70943e2616414229a2092624c8628c2dde2ca0734b02", checked := Try.checked }
namespace Rows
def none {H : Type} : Left H := { results := [], args := [] }

/-- 'laws.FnExactIsForest': WHATEVER THE INPUT: true; the input reads as it did. -/
def fnExactIsForestSpec : ChangeSpec := { name := "fnExactIsForest", fn := fun _ => fun
  | [d1, d2] => { results := [.lit (.bool true)], args := [d1, d2] }
  | _ => none }
def fnExactIsForestRow : OpenClaim := { program := "ytedjhnedkghhoaa", sum := "be0cece27e28d1390f4c70943e2616414229a2092624c8628c2dde2ca0734b02", func := "loop.example/g02078/laws.FnExactIsForest", spec := "fnExactIsForest", unfollowed := true, recurses := true, apart := false }
def FnExactIsForestSaid : Prop := fnExactIsForestRow.holds Try.pinned (OpenSpec.ofChange fnExactIsForestSpec)

/-- ITS FALSE NEIGHBOUR: 'it returns false'. Refute it at one input. -/
def fnExactIsForestWrong : ChangeSpec := { name := "fnExactIsForest", fn := fun _ => fun
  | [d1, d2] => { results := [.lit (.bool false)], args := [d1, d2] }
  | _ => none }
def FnExactIsForestWrongFalsely : Prop := fnExactIsForestRow.holds Try.pinned (OpenSpec.ofChange fnExactIsForestWrong)

/-- 'laws.FnExactIsSpanningTree': WHATEVER THE INPUT: true; the input reads as it did. -/
def fnExactIsSpanningTreeSpec : ChangeSpec := { name := "fnExactIsSpanningTree", fn := fun _ => fun
  | [d1, d2] => { results := [.lit (.bool true)], args := [d1, d2] }
  | _ => none }
def fnExactIsSpanningTreeRow : OpenClaim := { program := "ytedjhnedkghhoaa", sum := "be0cece27e28d1390f4c70943e2616414229a2092624c8628c2dde2ca0734b02", func := "loop.example/g02078/laws.FnExactIsSpanningTree", spec := "fnExactIsSpanningTree", unfollowed := true, recurses := true, apart := false }
def FnExactIsSpanningTreeSaid : Prop := fnExactIsSpanningTreeRow.holds Try.pinned (OpenSpec.ofChange fnExactIsSpanningTreeSpec)

/-- ITS FALSE NEIGHBOUR: 'it returns false'. Refute it at one input. -/
def fnExactIsSpanningTreeWrong : ChangeSpec := { name := "fnExactIsSpanningTree", fn := fun _ => fun
  | [d1, d2] => { results := [.lit (.bool false)], args := [d1, d2] }
  | _ => none }
def FnExactIsSpanningTreeWrongFalsely : Prop := fnExactIsSpanningTreeRow.holds Try.pinned (OpenSpec.ofChange fnExactIsSpanningTreeWrong)

/-- 'laws.FnExactPackTrees': WHATEVER THE INPUT: true; the input reads as it did. -/
def fnExactPackTreesSpec : ChangeSpec := { name := "fnExactPackTrees", fn := fun _ => fun
  | [d1, d2] => { results := [.lit (.bool true)], args := [d1, d2] }
  | _ => none }
def fnExactPackTreesRow : OpenClaim := { program := "ytedjhnedkghhoaa", sum := "be0cece27e28d1390f4c70943e2616414229a2092624c8628c2dde2ca0734b02", func := "loop.example/g02078/laws.FnExactPackTrees", spec := "fnExactPackTrees", unfollowed := true, recurses := true, apart := false }
def FnExactPackTreesSaid : Prop := fnExactPackTreesRow.holds Try.pinned (OpenSpec.ofChange fnExactPackTreesSpec)

/-- ITS FALSE NEIGHBOUR: 'it returns false'. Refute it at one input. -/
def fnExactPackTreesWrong : ChangeSpec := { name := "fnExactPackTrees", fn := fun _ => fun
  | [d1, d2] => { results := [.lit (.bool false)], args := [d1, d2] }
  | _ => none }
def FnExactPackTreesWrongFalsely : Prop := fnExactPackTreesRow.holds Try.pinned (OpenSpec.ofChange fnExactPackTreesWrong)

/-- 'laws.FnExactArePackedTrees': WHATEVER THE INPUT: true; the input reads as it did. -/
def fnExactArePackedTreesSpec : ChangeSpec := { name := "fnExactArePackedTrees", fn := fun _ => fun
  | [d1, d2, d3] => { results := [.lit (.bool true)], args := [d1, d2, d3] }
  | _ => none }
def fnExactArePackedTreesRow : OpenClaim := { program := "ytedjhnedkghhoaa", sum := "be0cece27e28d1390f4c70943e2616414229a2092624c8628c2dde2ca0734b02", func := "loop.example/g02078/laws.FnExactArePackedTrees", spec := "fnExactArePackedTrees", unfollowed := true, recurses := true, apart := false }
def FnExactArePackedTreesSaid : Prop := fnExactArePackedTreesRow.holds Try.pinned (OpenSpec.ofChange fnExactArePackedTreesSpec)

/-- ITS FALSE NEIGHBOUR: 'it returns false'. Refute it at one input. -/
def fnExactArePackedTreesWrong : ChangeSpec := { name := "fnExactArePackedTrees", fn := fun _ => fun
  | [d1, d2, d3] => { results := [.lit (.bool false)], args := [d1, d2, d3] }
  | _ => none }
def FnExactArePackedTreesWrongFalsely : Prop := fnExactArePackedTreesRow.holds Try.pinned (OpenSpec.ofChange fnExactArePackedTreesWrong)

/-- 'laws.FnExactCountTrees': WHATEVER THE INPUT: true; the input reads as it did. -/
def fnExactCountTreesSpec : ChangeSpec := { name := "fnExactCountTrees", fn := fun _ => fun
  | [d] => { results := [.lit (.bool true)], args := [d] }
  | _ => none }
def fnExactCountTreesRow : OpenClaim := { program := "ytedjhnedkghhoaa", sum := "be0cece27e28d1390f4c70943e2616414229a2092624c8628c2dde2ca0734b02", func := "loop.example/g02078/laws.FnExactCountTrees", spec := "fnExactCountTrees", unfollowed := true, recurses := true, apart := false }
def FnExactCountTreesSaid : Prop := fnExactCountTreesRow.holds Try.pinned (OpenSpec.ofChange fnExactCountTreesSpec)

/-- ITS FALSE NEIGHBOUR: 'it returns false'. Refute it at one input. -/
def fnExactCountTreesWrong : ChangeSpec := { name := "fnExactCountTrees", fn := fun _ => fun
  | [d] => { results := [.lit (.bool false)], args := [d] }
  | _ => none }
def FnExactCountTreesWrongFalsely : Prop := fnExactCountTreesRow.holds Try.pinned (OpenSpec.ofChange fnExactCountTreesWrong)

/-- 'laws.FnExactFindSteps': WHATEVER THE INPUT: true; the input reads as it did. -/
def fnExactFindStepsSpec : ChangeSpec := { name := "fnExactFindSteps", fn := fun _ => fun
  | [d] => { results := [.lit (.bool true)], args := [d] }
  | _ => none }
def fnExactFindStepsRow : OpenClaim := { program := "ytedjhnedkghhoaa", sum := "be0cece27e28d1390f4c70943e2616414229a2092624c8628c2dde2ca0734b02", func := "loop.example/g02078/laws.FnExactFindSteps", spec := "fnExactFindSteps", inPlace := ["slices.overlaps[loop.example/g02078/impl.Bar]"], unfollowed := true, recurses := true, apart := false }
def FnExactFindStepsSaid : Prop := fnExactFindStepsRow.holds Try.pinned (OpenSpec.ofChange fnExactFindStepsSpec)

/-- ITS FALSE NEIGHBOUR: 'it returns false'. Refute it at one input. -/
def fnExactFindStepsWrong : ChangeSpec := { name := "fnExactFindSteps", fn := fun _ => fun
  | [d] => { results := [.lit (.bool false)], args := [d] }
  | _ => none }
def FnExactFindStepsWrongFalsely : Prop := fnExactFindStepsRow.holds Try.pinned (OpenSpec.ofChange fnExactFindStepsWrong)

/-- 'laws.FnPebbles': WHATEVER THE INPUT: true; the input reads as it did. -/
def fnPebblesSpec : ChangeSpec := { name := "fnPebbles", fn := fun _ => fun
  | [d] => { results := [.lit (.bool true)], args := [d] }
  | _ => none }
def fnPebblesRow : OpenClaim := { program := "ytedjhnedkghhoaa", sum := "be0cece27e28d1390f4c70943e2616414229a2092624c8628c2dde2ca0734b02", func := "loop.example/g02078/laws.FnPebbles", spec := "fnPebbles", unfollowed := true, recurses := true, apart := false }
def FnPebblesSaid : Prop := fnPebblesRow.holds Try.pinned (OpenSpec.ofChange fnPebblesSpec)

/-- ITS FALSE NEIGHBOUR: 'it returns false'. Refute it at one input. -/
def fnPebblesWrong : ChangeSpec := { name := "fnPebbles", fn := fun _ => fun
  | [d] => { results := [.lit (.bool false)], args := [d] }
  | _ => none }
def FnPebblesWrongFalsely : Prop := fnPebblesRow.holds Try.pinned (OpenSpec.ofChange fnPebblesWrong)

/-- 'laws.FnMatroids': WHATEVER THE INPUT: true; the input reads as it did. -/
def fnMatroidsSpec : ChangeSpec := { name := "fnMatroids", fn := fun _ => fun
  | [d] => { results := [.lit (.bool true)], args := [d] }
  | _ => none }
def fnMatroidsRow : OpenClaim := { program := "ytedjhnedkghhoaa", sum := "be0cece27e28d1390f4c70943e2616414229a2092624c8628c2dde2ca0734b02", func := "loop.example/g02078/laws.FnMatroids", spec := "fnMatroids", unfollowed := true, recurses := true, apart := false }
def FnMatroidsSaid : Prop := fnMatroidsRow.holds Try.pinned (OpenSpec.ofChange fnMatroidsSpec)

/-- ITS FALSE NEIGHBOUR: 'it returns false'. Refute it at one input. -/
def fnMatroidsWrong : ChangeSpec := { name := "fnMatroids", fn := fun _ => fun
  | [d] => { results := [.lit (.bool false)], args := [d] }
  | _ => none }
def FnMatroidsWrongFalsely : Prop := fnMatroidsRow.holds Try.pinned (OpenSpec.ofChange fnMatroidsWrong)

/- THE SECOND FORM. 'bulk': how many values and letters a reading holds, each counted each time it is reached (what is shared counts as often as it is met; a slice's spare places count too). A statement '..UptoSaid' is the law's where the arguments, and the package variables that the reading takes, are together of bulk at most 1048576: NARROWER than '..Said'. Prove '..Said' where nothing that the law and all that it calls make is longer than what came in: it says more and counts as full. Else prove '..UptoSaid'. A law counts once. -/
mutual
def uptoBulk {H : Type} : DataW H → Nat
  | .lit (.string bytes) => bytes.length + 1
  | .lit _ => 1
  | .nil => 1
  | .ptr d => uptoBulk d + 1
  | .slice elems spare => uptoBulkAll elems + uptoBulkAll spare + 1
  | .agg parts => uptoBulkAll parts + 1
  | .iface _ d => uptoBulk d + 1
  | .map entries => uptoBulkEntries entries + 1
  | .held _ => 1
def uptoBulkAll {H : Type} : List (DataW H) → Nat
  | [] => 0
  | d :: r => uptoBulk d + uptoBulkAll r
def uptoBulkEntries {H : Type} : List (Lit × DataW H) → Nat
  | [] => 0
  | x :: r => uptoBulkEntry x + uptoBulkEntries r
def uptoBulkEntry {H : Type} : Lit × DataW H → Nat
  | (.string bytes, d) => bytes.length + uptoBulk d + 1
  | (_, d) => uptoBulk d + 1
 end
def uptoSmall : (H : Type) → List (DataW H) → Bool := fun _ ds => decide (uptoBulkAll ds ≤ 1048576)
def OpenSpec.upto (s : _root_.Go.ChangeSpec) : _root_.Go.OpenSpec := { _root_.Go.OpenSpec.ofChange s with cond := some uptoSmall }

/-- 'laws.FnExactIsForest', WHERE WHAT IT READS IS OF BULK AT MOST 1048576: true; the input reads as it did. -/
def fnExactIsForestUptoRow : OpenClaim := { program := "ytedjhnedkghhoaa", sum := "be0cece27e28d1390f4c70943e2616414229a2092624c8628c2dde2ca0734b02", func := "loop.example/g02078/laws.FnExactIsForest", spec := "fnExactIsForest", unfollowed := true, recurses := true, apart := false, narrowed := true }
def FnExactIsForestUptoSaid : Prop := fnExactIsForestUptoRow.holds Try.pinned (OpenSpec.upto fnExactIsForestSpec)

/-- 'laws.FnExactIsSpanningTree', WHERE WHAT IT READS IS OF BULK AT MOST 1048576: true; the input reads as it did. -/
def fnExactIsSpanningTreeUptoRow : OpenClaim := { program := "ytedjhnedkghhoaa", sum := "be0cece27e28d1390f4c70943e2616414229a2092624c8628c2dde2ca0734b02", func := "loop.example/g02078/laws.FnExactIsSpanningTree", spec := "fnExactIsSpanningTree", unfollowed := true, recurses := true, apart := false, narrowed := true }
def FnExactIsSpanningTreeUptoSaid : Prop := fnExactIsSpanningTreeUptoRow.holds Try.pinned (OpenSpec.upto fnExactIsSpanningTreeSpec)

/-- 'laws.FnExactPackTrees', WHERE WHAT IT READS IS OF BULK AT MOST 1048576: true; the input reads as it did. -/
def fnExactPackTreesUptoRow : OpenClaim := { program := "ytedjhnedkghhoaa", sum := "be0cece27e28d1390f4c70943e2616414229a2092624c8628c2dde2ca0734b02", func := "loop.example/g02078/laws.FnExactPackTrees", spec := "fnExactPackTrees", unfollowed := true, recurses := true, apart := false, narrowed := true }
def FnExactPackTreesUptoSaid : Prop := fnExactPackTreesUptoRow.holds Try.pinned (OpenSpec.upto fnExactPackTreesSpec)

/-- 'laws.FnExactArePackedTrees', WHERE WHAT IT READS IS OF BULK AT MOST 1048576: true; the input reads as it did. -/
def fnExactArePackedTreesUptoRow : OpenClaim := { program := "ytedjhnedkghhoaa", sum := "be0cece27e28d1390f4c70943e2616414229a2092624c8628c2dde2ca0734b02", func := "loop.example/g02078/laws.FnExactArePackedTrees", spec := "fnExactArePackedTrees", unfollowed := true, recurses := true, apart := false, narrowed := true }
def FnExactArePackedTreesUptoSaid : Prop := fnExactArePackedTreesUptoRow.holds Try.pinned (OpenSpec.upto fnExactArePackedTreesSpec)

/-- 'laws.FnExactCountTrees', WHERE WHAT IT READS IS OF BULK AT MOST 1048576: true; the input reads as it did. -/
def fnExactCountTreesUptoRow : OpenClaim := { program := "ytedjhnedkghhoaa", sum := "be0cece27e28d1390f4c70943e2616414229a2092624c8628c2dde2ca0734b02", func := "loop.example/g02078/laws.FnExactCountTrees", spec := "fnExactCountTrees", unfollowed := true, recurses := true, apart := false, narrowed := true }
def FnExactCountTreesUptoSaid : Prop := fnExactCountTreesUptoRow.holds Try.pinned (OpenSpec.upto fnExactCountTreesSpec)

/-- 'laws.FnExactFindSteps', WHERE WHAT IT READS IS OF BULK AT MOST 1048576: true; the input reads as it did. -/
def fnExactFindStepsUptoRow : OpenClaim := { program := "ytedjhnedkghhoaa", sum := "be0cece27e28d1390f4c70943e2616414229a2092624c8628c2dde2ca0734b02", func := "loop.example/g02078/laws.FnExactFindSteps", spec := "fnExactFindSteps", inPlace := ["slices.overlaps[loop.example/g02078/impl.Bar]"], unfollowed := true, recurses := true, apart := false, narrowed := true }
def FnExactFindStepsUptoSaid : Prop := fnExactFindStepsUptoRow.holds Try.pinned (OpenSpec.upto fnExactFindStepsSpec)

/-- 'laws.FnPebbles', WHERE WHAT IT READS IS OF BULK AT MOST 1048576: true; the input reads as it did. -/
def fnPebblesUptoRow : OpenClaim := { program := "ytedjhnedkghhoaa", sum := "be0cece27e28d1390f4c70943e2616414229a2092624c8628c2dde2ca0734b02", func := "loop.example/g02078/laws.FnPebbles", spec := "fnPebbles", unfollowed := true, recurses := true, apart := false, narrowed := true }
def FnPebblesUptoSaid : Prop := fnPebblesUptoRow.holds Try.pinned (OpenSpec.upto fnPebblesSpec)

/-- 'laws.FnMatroids', WHERE WHAT IT READS IS OF BULK AT MOST 1048576: true; the input reads as it did. -/
def fnMatroidsUptoRow : OpenClaim := { program := "ytedjhnedkghhoaa", sum := "be0cece27e28d1390f4c70943e2616414229a2092624c8628c2dde2ca0734b02", func := "loop.example/g02078/laws.FnMatroids", spec := "fnMatroids", unfollowed := true, recurses := true, apart := false, narrowed := true }
def FnMatroidsUptoSaid : Prop := fnMatroidsUptoRow.holds Try.pinned (OpenSpec.upto fnMatroidsSpec)

end Rows
end Go.Proofs.Ytedjhnedkghhoaa
