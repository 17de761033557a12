/-
  No cell of these rows narrows 'for every input' (looked for: loops, veiled, ifaces, maps, wideKeys, modest, calm, conditions, laid).
  DERIVED. THE GIVEN ROWS OF THIS SEAT. 7 by the template 'for every input the law returns true; each argument reads behind the call as it read before'; 0 by the template 'total and deterministic' (their statements: YtimgkekllanhmaaTotals.lean).
  GIVEN WITH THE SEED: the statements are not yours to turn. If you find one false, say at which input.
  Laid BY PROGRAM, IN A SANDBOX (cutbox-rows.mjs): the forced cells as the released guide's own fill.sh prints them over the translation f04ea471b9fd590f… (all of the seat's roots in one cut). By AI agents, Wed Nov 11 2026. No macro, syntax, notation, axiom, sorry.
-/
import Derived.Test.YtimgkekllanhmaaChecked
import GoSem.Claim
import GoSem.ClaimJoined
import GoSem.ClaimMapViews
import Derived.JoinedTies
import Derived.KernelRfl
namespace Go.Proofs.Ytimgkekllanhmaa
/- THE CELL 'sum', in the pinned program and in every row, IS THE sha256 OF THE DUMP (.gsa) THAT YtimgkekllanhmaaProg.lean LOADS. Nothing in Lean hashes anything: it is a label: what it is worth is what the hold of that sum in a sandbox is worth. -/
noncomputable def Try.pinned : Pinned := { name := "ytimgkekllanhmaa", sum := "f04ea471b9fd590fd817c936c95b141dbc7200662bd98eaff36a6d367609cf5f", checked := Try.checked }
namespace Rows
def none {H : Type} : Left H := { results := [], args := [] }

/-- 'laws.FnExactSpannedBars': WHATEVER THE INPUT: true; the input reads as it did. -/
def fnExactSpannedBarsSpec : ChangeSpec := { name := "fnExactSpannedBars", fn := fun _ => fun
  | [d1, d2] => { results := [.lit (.bool true)], args := [d1, d2] }
  | _ => none }
def fnExactSpannedBarsRow : OpenClaim := { program := "ytimgkekllanhmaa", sum := "f04ea471b9fd590fd817c936c95b141dbc7200662bd98eaff36a6d367609cf5f", func := "loop.example/g02078/laws.FnExactSpannedBars", spec := "fnExactSpannedBars", apart := false }
def FnExactSpannedBarsSaid : Prop := fnExactSpannedBarsRow.holds Try.pinned (OpenSpec.ofChange fnExactSpannedBarsSpec)

/-- ITS FALSE NEIGHBOUR: 'it returns false'. Refute it at one input. -/
def fnExactSpannedBarsWrong : ChangeSpec := { name := "fnExactSpannedBars", fn := fun _ => fun
  | [d1, d2] => { results := [.lit (.bool false)], args := [d1, d2] }
  | _ => none }
def FnExactSpannedBarsWrongFalsely : Prop := fnExactSpannedBarsRow.holds Try.pinned (OpenSpec.ofChange fnExactSpannedBarsWrong)

/-- 'laws.FnExactIsSparse': WHATEVER THE INPUT: true; the input reads as it did. -/
def fnExactIsSparseSpec : ChangeSpec := { name := "fnExactIsSparse", fn := fun _ => fun
  | [d1, d2, d3] => { results := [.lit (.bool true)], args := [d1, d2, d3] }
  | _ => none }
def fnExactIsSparseRow : OpenClaim := { program := "ytimgkekllanhmaa", sum := "f04ea471b9fd590fd817c936c95b141dbc7200662bd98eaff36a6d367609cf5f", func := "loop.example/g02078/laws.FnExactIsSparse", spec := "fnExactIsSparse", unfollowed := true, recurses := true, apart := false }
def FnExactIsSparseSaid : Prop := fnExactIsSparseRow.holds Try.pinned (OpenSpec.ofChange fnExactIsSparseSpec)

/-- ITS FALSE NEIGHBOUR: 'it returns false'. Refute it at one input. -/
def fnExactIsSparseWrong : ChangeSpec := { name := "fnExactIsSparse", fn := fun _ => fun
  | [d1, d2, d3] => { results := [.lit (.bool false)], args := [d1, d2, d3] }
  | _ => none }
def FnExactIsSparseWrongFalsely : Prop := fnExactIsSparseRow.holds Try.pinned (OpenSpec.ofChange fnExactIsSparseWrong)

/-- 'laws.FnExactIsTight': WHATEVER THE INPUT: true; the input reads as it did. -/
def fnExactIsTightSpec : ChangeSpec := { name := "fnExactIsTight", fn := fun _ => fun
  | [d1, d2, d3] => { results := [.lit (.bool true)], args := [d1, d2, d3] }
  | _ => none }
def fnExactIsTightRow : OpenClaim := { program := "ytimgkekllanhmaa", sum := "f04ea471b9fd590fd817c936c95b141dbc7200662bd98eaff36a6d367609cf5f", func := "loop.example/g02078/laws.FnExactIsTight", spec := "fnExactIsTight", unfollowed := true, recurses := true, apart := false }
def FnExactIsTightSaid : Prop := fnExactIsTightRow.holds Try.pinned (OpenSpec.ofChange fnExactIsTightSpec)

/-- ITS FALSE NEIGHBOUR: 'it returns false'. Refute it at one input. -/
def fnExactIsTightWrong : ChangeSpec := { name := "fnExactIsTight", fn := fun _ => fun
  | [d1, d2, d3] => { results := [.lit (.bool false)], args := [d1, d2, d3] }
  | _ => none }
def FnExactIsTightWrongFalsely : Prop := fnExactIsTightRow.holds Try.pinned (OpenSpec.ofChange fnExactIsTightWrong)

/-- 'laws.FnExactOvercountedSet': WHATEVER THE INPUT: true; the input reads as it did. -/
def fnExactOvercountedSetSpec : ChangeSpec := { name := "fnExactOvercountedSet", fn := fun _ => fun
  | [d1, d2, d3] => { results := [.lit (.bool true)], args := [d1, d2, d3] }
  | _ => none }
def fnExactOvercountedSetRow : OpenClaim := { program := "ytimgkekllanhmaa", sum := "f04ea471b9fd590fd817c936c95b141dbc7200662bd98eaff36a6d367609cf5f", func := "loop.example/g02078/laws.FnExactOvercountedSet", spec := "fnExactOvercountedSet", unfollowed := true, recurses := true, apart := false }
def FnExactOvercountedSetSaid : Prop := fnExactOvercountedSetRow.holds Try.pinned (OpenSpec.ofChange fnExactOvercountedSetSpec)

/-- ITS FALSE NEIGHBOUR: 'it returns false'. Refute it at one input. -/
def fnExactOvercountedSetWrong : ChangeSpec := { name := "fnExactOvercountedSet", fn := fun _ => fun
  | [d1, d2, d3] => { results := [.lit (.bool false)], args := [d1, d2, d3] }
  | _ => none }
def FnExactOvercountedSetWrongFalsely : Prop := fnExactOvercountedSetRow.holds Try.pinned (OpenSpec.ofChange fnExactOvercountedSetWrong)

/-- 'laws.FnExactCountFreedom': WHATEVER THE INPUT: true; the input reads as it did. -/
def fnExactCountFreedomSpec : ChangeSpec := { name := "fnExactCountFreedom", fn := fun _ => fun
  | [d1, d2, d3] => { results := [.lit (.bool true)], args := [d1, d2, d3] }
  | _ => none }
def fnExactCountFreedomRow : OpenClaim := { program := "ytimgkekllanhmaa", sum := "f04ea471b9fd590fd817c936c95b141dbc7200662bd98eaff36a6d367609cf5f", func := "loop.example/g02078/laws.FnExactCountFreedom", spec := "fnExactCountFreedom", unfollowed := true, recurses := true, apart := false }
def FnExactCountFreedomSaid : Prop := fnExactCountFreedomRow.holds Try.pinned (OpenSpec.ofChange fnExactCountFreedomSpec)

/-- ITS FALSE NEIGHBOUR: 'it returns false'. Refute it at one input. -/
def fnExactCountFreedomWrong : ChangeSpec := { name := "fnExactCountFreedom", fn := fun _ => fun
  | [d1, d2, d3] => { results := [.lit (.bool false)], args := [d1, d2, d3] }
  | _ => none }
def FnExactCountFreedomWrongFalsely : Prop := fnExactCountFreedomRow.holds Try.pinned (OpenSpec.ofChange fnExactCountFreedomWrong)

/-- 'laws.FnExactIsRange': WHATEVER THE INPUT: true; the input reads as it did. -/
def fnExactIsRangeSpec : ChangeSpec := { name := "fnExactIsRange", fn := fun _ => fun
  | [d1, d2] => { results := [.lit (.bool true)], args := [d1, d2] }
  | _ => none }
def fnExactIsRangeRow : OpenClaim := { program := "ytimgkekllanhmaa", sum := "f04ea471b9fd590fd817c936c95b141dbc7200662bd98eaff36a6d367609cf5f", func := "loop.example/g02078/laws.FnExactIsRange", spec := "fnExactIsRange", apart := false }
def FnExactIsRangeSaid : Prop := fnExactIsRangeRow.holds Try.pinned (OpenSpec.ofChange fnExactIsRangeSpec)

/-- ITS FALSE NEIGHBOUR: 'it returns false'. Refute it at one input. -/
def fnExactIsRangeWrong : ChangeSpec := { name := "fnExactIsRange", fn := fun _ => fun
  | [d1, d2] => { results := [.lit (.bool false)], args := [d1, d2] }
  | _ => none }
def FnExactIsRangeWrongFalsely : Prop := fnExactIsRangeRow.holds Try.pinned (OpenSpec.ofChange fnExactIsRangeWrong)

/-- 'laws.FnCounts': WHATEVER THE INPUT: true; the input reads as it did. -/
def fnCountsSpec : ChangeSpec := { name := "fnCounts", fn := fun _ => fun
  | [d] => { results := [.lit (.bool true)], args := [d] }
  | _ => none }
def fnCountsRow : OpenClaim := { program := "ytimgkekllanhmaa", sum := "f04ea471b9fd590fd817c936c95b141dbc7200662bd98eaff36a6d367609cf5f", func := "loop.example/g02078/laws.FnCounts", spec := "fnCounts", unfollowed := true, recurses := true, apart := false }
def FnCountsSaid : Prop := fnCountsRow.holds Try.pinned (OpenSpec.ofChange fnCountsSpec)

/-- ITS FALSE NEIGHBOUR: 'it returns false'. Refute it at one input. -/
def fnCountsWrong : ChangeSpec := { name := "fnCounts", fn := fun _ => fun
  | [d] => { results := [.lit (.bool false)], args := [d] }
  | _ => none }
def FnCountsWrongFalsely : Prop := fnCountsRow.holds Try.pinned (OpenSpec.ofChange fnCountsWrong)

/- THE SECOND FORM. 'bulk': how many values and letters a reading holds, each counted each time it is reached (what is shared counts as often as it is met; a slice's spare places count too). A statement '..UptoSaid' is the law's where the arguments, and the package variables that the reading takes, are together of bulk at most 1048576: NARROWER than '..Said'. Prove '..Said' where nothing that the law and all that it calls make is longer than what came in: it says more and counts as full. Else prove '..UptoSaid'. A law counts once. -/
mutual
def uptoBulk {H : Type} : DataW H → Nat
  | .lit (.string bytes) => bytes.length + 1
  | .lit _ => 1
  | .nil => 1
  | .ptr d => uptoBulk d + 1
  | .slice elems spare => uptoBulkAll elems + uptoBulkAll spare + 1
  | .agg parts => uptoBulkAll parts + 1
  | .iface _ d => uptoBulk d + 1
  | .map entries => uptoBulkEntries entries + 1
  | .held _ => 1
def uptoBulkAll {H : Type} : List (DataW H) → Nat
  | [] => 0
  | d :: r => uptoBulk d + uptoBulkAll r
def uptoBulkEntries {H : Type} : List (Lit × DataW H) → Nat
  | [] => 0
  | x :: r => uptoBulkEntry x + uptoBulkEntries r
def uptoBulkEntry {H : Type} : Lit × DataW H → Nat
  | (.string bytes, d) => bytes.length + uptoBulk d + 1
  | (_, d) => uptoBulk d + 1
 end
def uptoSmall : (H : Type) → List (DataW H) → Bool := fun _ ds => decide (uptoBulkAll ds ≤ 1048576)
def OpenSpec.upto (s : _root_.Go.ChangeSpec) : _root_.Go.OpenSpec := { _root_.Go.OpenSpec.ofChange s with cond := some uptoSmall }

/-- 'laws.FnExactSpannedBars', WHERE WHAT IT READS IS OF BULK AT MOST 1048576: true; the input reads as it did. -/
def fnExactSpannedBarsUptoRow : OpenClaim := { program := "ytimgkekllanhmaa", sum := "f04ea471b9fd590fd817c936c95b141dbc7200662bd98eaff36a6d367609cf5f", func := "loop.example/g02078/laws.FnExactSpannedBars", spec := "fnExactSpannedBars", apart := false, narrowed := true }
def FnExactSpannedBarsUptoSaid : Prop := fnExactSpannedBarsUptoRow.holds Try.pinned (OpenSpec.upto fnExactSpannedBarsSpec)

/-- 'laws.FnExactIsSparse', WHERE WHAT IT READS IS OF BULK AT MOST 1048576: true; the input reads as it did. -/
def fnExactIsSparseUptoRow : OpenClaim := { program := "ytimgkekllanhmaa", sum := "f04ea471b9fd590fd817c936c95b141dbc7200662bd98eaff36a6d367609cf5f", func := "loop.example/g02078/laws.FnExactIsSparse", spec := "fnExactIsSparse", unfollowed := true, recurses := true, apart := false, narrowed := true }
def FnExactIsSparseUptoSaid : Prop := fnExactIsSparseUptoRow.holds Try.pinned (OpenSpec.upto fnExactIsSparseSpec)

/-- 'laws.FnExactIsTight', WHERE WHAT IT READS IS OF BULK AT MOST 1048576: true; the input reads as it did. -/
def fnExactIsTightUptoRow : OpenClaim := { program := "ytimgkekllanhmaa", sum := "f04ea471b9fd590fd817c936c95b141dbc7200662bd98eaff36a6d367609cf5f", func := "loop.example/g02078/laws.FnExactIsTight", spec := "fnExactIsTight", unfollowed := true, recurses := true, apart := false, narrowed := true }
def FnExactIsTightUptoSaid : Prop := fnExactIsTightUptoRow.holds Try.pinned (OpenSpec.upto fnExactIsTightSpec)

/-- 'laws.FnExactOvercountedSet', WHERE WHAT IT READS IS OF BULK AT MOST 1048576: true; the input reads as it did. -/
def fnExactOvercountedSetUptoRow : OpenClaim := { program := "ytimgkekllanhmaa", sum := "f04ea471b9fd590fd817c936c95b141dbc7200662bd98eaff36a6d367609cf5f", func := "loop.example/g02078/laws.FnExactOvercountedSet", spec := "fnExactOvercountedSet", unfollowed := true, recurses := true, apart := false, narrowed := true }
def FnExactOvercountedSetUptoSaid : Prop := fnExactOvercountedSetUptoRow.holds Try.pinned (OpenSpec.upto fnExactOvercountedSetSpec)

/-- 'laws.FnExactCountFreedom', WHERE WHAT IT READS IS OF BULK AT MOST 1048576: true; the input reads as it did. -/
def fnExactCountFreedomUptoRow : OpenClaim := { program := "ytimgkekllanhmaa", sum := "f04ea471b9fd590fd817c936c95b141dbc7200662bd98eaff36a6d367609cf5f", func := "loop.example/g02078/laws.FnExactCountFreedom", spec := "fnExactCountFreedom", unfollowed := true, recurses := true, apart := false, narrowed := true }
def FnExactCountFreedomUptoSaid : Prop := fnExactCountFreedomUptoRow.holds Try.pinned (OpenSpec.upto fnExactCountFreedomSpec)

/-- 'laws.FnExactIsRange', WHERE WHAT IT READS IS OF BULK AT MOST 1048576: true; the input reads as it did. -/
def fnExactIsRangeUptoRow : OpenClaim := { program := "ytimgkekllanhmaa", sum := "f04ea471b9fd590fd817c936c95b141dbc7200662bd98eaff36a6d367609cf5f", func := "loop.example/g02078/laws.FnExactIsRange", spec := "fnExactIsRange", apart := false, narrowed := true }
def FnExactIsRangeUptoSaid : Prop := fnExactIsRangeUptoRow.holds Try.pinned (OpenSpec.upto fnExactIsRangeSpec)

/-- 'laws.FnCounts', WHERE WHAT IT READS IS OF BULK AT MOST 1048576: true; the input reads as it did. -/
def fnCountsUptoRow : OpenClaim := { program := "ytimgkekllanhmaa", sum := "f04ea471b9fd590fd817c936c95b141dbc7200662bd98eaff36a6d367609cf5f", func := "loop.example/g02078/laws.FnCounts", spec := "fnCounts", unfollowed := true, recurses := true, apart := false, narrowed := true }
def FnCountsUptoSaid : Prop := fnCountsUptoRow.holds Try.pinned (OpenSpec.upto fnCountsSpec)

end Rows
end Go.Proofs.Ytimgkekllanhmaa
