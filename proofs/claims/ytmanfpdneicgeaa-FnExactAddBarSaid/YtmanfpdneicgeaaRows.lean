/-
  No cell of these rows narrows 'for every input' (looked for: loops, veiled, ifaces, maps, wideKeys, modest, calm, conditions, laid).
  DERIVED. THE GIVEN ROWS OF THIS SEAT. 10 by the template 'for every input the law returns true; each argument reads behind the call as it read before'; 0 by the template 'total and deterministic' (their statements: YtmanfpdneicgeaaTotals.lean).
  GIVEN WITH THE SEED: the statements are not yours to turn. If you find one false, say at which input.
  Laid BY PROGRAM, IN A SANDBOX (cutbox-rows.mjs): the forced cells as the released guide's own fill.sh prints them over the translation d9f2d1d791fcc71d… (all of the seat's roots in one cut). By AI agents, Wed Nov 11 2026. No macro, syntax, notation, axiom, sorry.
-/
import Derived.Test.YtmanfpdneicgeaaChecked
import GoSem.Claim
import GoSem.ClaimJoined
import GoSem.ClaimMapViews
import Derived.JoinedTies
import Derived.KernelRfl
namespace Go.Proofs.Ytmanfpdneicgeaa
/- THE CELL 'sum', in the pinned program and in every row, IS THE sha256 OF THE DUMP (.gsa) THAT YtmanfpdneicgeaaProg.lean LOADS. Nothing in Lean hashes anything: it is a label: what it is worth is what the hold of that sum in a sandbox is worth. -/
noncomputable def Try.pinned : Pinned := { name := "ytmanfpdneicgeaa", sum := "d9f2d1d791fcc71d47a6cc6b0b4cb6780f324e7a09c2cd0632723dfef69be624", checked := Try.checked }
namespace Rows
def none {H : Type} : Left H := { results := [], args := [] }

/-- 'laws.FnExactIsGraph': WHATEVER THE INPUT: true; the input reads as it did. -/
def fnExactIsGraphSpec : ChangeSpec := { name := "fnExactIsGraph", fn := fun _ => fun
  | [d] => { results := [.lit (.bool true)], args := [d] }
  | _ => none }
def fnExactIsGraphRow : OpenClaim := { program := "ytmanfpdneicgeaa", sum := "d9f2d1d791fcc71d47a6cc6b0b4cb6780f324e7a09c2cd0632723dfef69be624", func := "loop.example/g02078/laws.FnExactIsGraph", spec := "fnExactIsGraph", unfollowed := true, recurses := true, apart := false }
def FnExactIsGraphSaid : Prop := fnExactIsGraphRow.holds Try.pinned (OpenSpec.ofChange fnExactIsGraphSpec)

/-- ITS FALSE NEIGHBOUR: 'it returns false'. Refute it at one input. -/
def fnExactIsGraphWrong : ChangeSpec := { name := "fnExactIsGraph", fn := fun _ => fun
  | [d] => { results := [.lit (.bool false)], args := [d] }
  | _ => none }
def FnExactIsGraphWrongFalsely : Prop := fnExactIsGraphRow.holds Try.pinned (OpenSpec.ofChange fnExactIsGraphWrong)

/-- 'laws.FnExactCompleteGraph': WHATEVER THE INPUT: true; the input reads as it did. -/
def fnExactCompleteGraphSpec : ChangeSpec := { name := "fnExactCompleteGraph", fn := fun _ => fun
  | [d] => { results := [.lit (.bool true)], args := [d] }
  | _ => none }
def fnExactCompleteGraphRow : OpenClaim := { program := "ytmanfpdneicgeaa", sum := "d9f2d1d791fcc71d47a6cc6b0b4cb6780f324e7a09c2cd0632723dfef69be624", func := "loop.example/g02078/laws.FnExactCompleteGraph", spec := "fnExactCompleteGraph", apart := false }
def FnExactCompleteGraphSaid : Prop := fnExactCompleteGraphRow.holds Try.pinned (OpenSpec.ofChange fnExactCompleteGraphSpec)

/-- ITS FALSE NEIGHBOUR: 'it returns false'. Refute it at one input. -/
def fnExactCompleteGraphWrong : ChangeSpec := { name := "fnExactCompleteGraph", fn := fun _ => fun
  | [d] => { results := [.lit (.bool false)], args := [d] }
  | _ => none }
def FnExactCompleteGraphWrongFalsely : Prop := fnExactCompleteGraphRow.holds Try.pinned (OpenSpec.ofChange fnExactCompleteGraphWrong)

/-- 'laws.FnExactCountBar': WHATEVER THE INPUT: true; the input reads as it did. -/
def fnExactCountBarSpec : ChangeSpec := { name := "fnExactCountBar", fn := fun _ => fun
  | [d1, d2, d3] => { results := [.lit (.bool true)], args := [d1, d2, d3] }
  | _ => none }
def fnExactCountBarRow : OpenClaim := { program := "ytmanfpdneicgeaa", sum := "d9f2d1d791fcc71d47a6cc6b0b4cb6780f324e7a09c2cd0632723dfef69be624", func := "loop.example/g02078/laws.FnExactCountBar", spec := "fnExactCountBar", apart := false }
def FnExactCountBarSaid : Prop := fnExactCountBarRow.holds Try.pinned (OpenSpec.ofChange fnExactCountBarSpec)

/-- ITS FALSE NEIGHBOUR: 'it returns false'. Refute it at one input. -/
def fnExactCountBarWrong : ChangeSpec := { name := "fnExactCountBar", fn := fun _ => fun
  | [d1, d2, d3] => { results := [.lit (.bool false)], args := [d1, d2, d3] }
  | _ => none }
def FnExactCountBarWrongFalsely : Prop := fnExactCountBarRow.holds Try.pinned (OpenSpec.ofChange fnExactCountBarWrong)

/-- 'laws.FnExactAddBar': WHATEVER THE INPUT: true; the input reads as it did. -/
def fnExactAddBarSpec : ChangeSpec := { name := "fnExactAddBar", fn := fun _ => fun
  | [d1, d2, d3] => { results := [.lit (.bool true)], args := [d1, d2, d3] }
  | _ => none }
def fnExactAddBarRow : OpenClaim := { program := "ytmanfpdneicgeaa", sum := "d9f2d1d791fcc71d47a6cc6b0b4cb6780f324e7a09c2cd0632723dfef69be624", func := "loop.example/g02078/laws.FnExactAddBar", spec := "fnExactAddBar", inPlace := ["slices.overlaps[loop.example/g02078/impl.Bar]"], unfollowed := true, recurses := true, apart := false }
def FnExactAddBarSaid : Prop := fnExactAddBarRow.holds Try.pinned (OpenSpec.ofChange fnExactAddBarSpec)

/-- ITS FALSE NEIGHBOUR: 'it returns false'. Refute it at one input. -/
def fnExactAddBarWrong : ChangeSpec := { name := "fnExactAddBar", fn := fun _ => fun
  | [d1, d2, d3] => { results := [.lit (.bool false)], args := [d1, d2, d3] }
  | _ => none }
def FnExactAddBarWrongFalsely : Prop := fnExactAddBarRow.holds Try.pinned (OpenSpec.ofChange fnExactAddBarWrong)

/-- 'laws.FnExactRemoveBar': WHATEVER THE INPUT: true; the input reads as it did. -/
def fnExactRemoveBarSpec : ChangeSpec := { name := "fnExactRemoveBar", fn := fun _ => fun
  | [d1, d2] => { results := [.lit (.bool true)], args := [d1, d2] }
  | _ => none }
def fnExactRemoveBarRow : OpenClaim := { program := "ytmanfpdneicgeaa", sum := "d9f2d1d791fcc71d47a6cc6b0b4cb6780f324e7a09c2cd0632723dfef69be624", func := "loop.example/g02078/laws.FnExactRemoveBar", spec := "fnExactRemoveBar", unfollowed := true, recurses := true, apart := false }
def FnExactRemoveBarSaid : Prop := fnExactRemoveBarRow.holds Try.pinned (OpenSpec.ofChange fnExactRemoveBarSpec)

/-- ITS FALSE NEIGHBOUR: 'it returns false'. Refute it at one input. -/
def fnExactRemoveBarWrong : ChangeSpec := { name := "fnExactRemoveBar", fn := fun _ => fun
  | [d1, d2] => { results := [.lit (.bool false)], args := [d1, d2] }
  | _ => none }
def FnExactRemoveBarWrongFalsely : Prop := fnExactRemoveBarRow.holds Try.pinned (OpenSpec.ofChange fnExactRemoveBarWrong)

/-- 'laws.FnExactReachOf': WHATEVER THE INPUT: true; the input reads as it did. -/
def fnExactReachOfSpec : ChangeSpec := { name := "fnExactReachOf", fn := fun _ => fun
  | [d1, d2] => { results := [.lit (.bool true)], args := [d1, d2] }
  | _ => none }
def fnExactReachOfRow : OpenClaim := { program := "ytmanfpdneicgeaa", sum := "d9f2d1d791fcc71d47a6cc6b0b4cb6780f324e7a09c2cd0632723dfef69be624", func := "loop.example/g02078/laws.FnExactReachOf", spec := "fnExactReachOf", unfollowed := true, recurses := true, apart := false }
def FnExactReachOfSaid : Prop := fnExactReachOfRow.holds Try.pinned (OpenSpec.ofChange fnExactReachOfSpec)

/-- ITS FALSE NEIGHBOUR: 'it returns false'. Refute it at one input. -/
def fnExactReachOfWrong : ChangeSpec := { name := "fnExactReachOf", fn := fun _ => fun
  | [d1, d2] => { results := [.lit (.bool false)], args := [d1, d2] }
  | _ => none }
def FnExactReachOfWrongFalsely : Prop := fnExactReachOfRow.holds Try.pinned (OpenSpec.ofChange fnExactReachOfWrong)

/-- 'laws.FnExactDegreeOf': WHATEVER THE INPUT: true; the input reads as it did. -/
def fnExactDegreeOfSpec : ChangeSpec := { name := "fnExactDegreeOf", fn := fun _ => fun
  | [d1, d2] => { results := [.lit (.bool true)], args := [d1, d2] }
  | _ => none }
def fnExactDegreeOfRow : OpenClaim := { program := "ytmanfpdneicgeaa", sum := "d9f2d1d791fcc71d47a6cc6b0b4cb6780f324e7a09c2cd0632723dfef69be624", func := "loop.example/g02078/laws.FnExactDegreeOf", spec := "fnExactDegreeOf", apart := false }
def FnExactDegreeOfSaid : Prop := fnExactDegreeOfRow.holds Try.pinned (OpenSpec.ofChange fnExactDegreeOfSpec)

/-- ITS FALSE NEIGHBOUR: 'it returns false'. Refute it at one input. -/
def fnExactDegreeOfWrong : ChangeSpec := { name := "fnExactDegreeOf", fn := fun _ => fun
  | [d1, d2] => { results := [.lit (.bool false)], args := [d1, d2] }
  | _ => none }
def FnExactDegreeOfWrongFalsely : Prop := fnExactDegreeOfRow.holds Try.pinned (OpenSpec.ofChange fnExactDegreeOfWrong)

/-- 'laws.FnExactIsConnected': WHATEVER THE INPUT: true; the input reads as it did. -/
def fnExactIsConnectedSpec : ChangeSpec := { name := "fnExactIsConnected", fn := fun _ => fun
  | [d] => { results := [.lit (.bool true)], args := [d] }
  | _ => none }
def fnExactIsConnectedRow : OpenClaim := { program := "ytmanfpdneicgeaa", sum := "d9f2d1d791fcc71d47a6cc6b0b4cb6780f324e7a09c2cd0632723dfef69be624", func := "loop.example/g02078/laws.FnExactIsConnected", spec := "fnExactIsConnected", unfollowed := true, recurses := true, apart := false }
def FnExactIsConnectedSaid : Prop := fnExactIsConnectedRow.holds Try.pinned (OpenSpec.ofChange fnExactIsConnectedSpec)

/-- ITS FALSE NEIGHBOUR: 'it returns false'. Refute it at one input. -/
def fnExactIsConnectedWrong : ChangeSpec := { name := "fnExactIsConnected", fn := fun _ => fun
  | [d] => { results := [.lit (.bool false)], args := [d] }
  | _ => none }
def FnExactIsConnectedWrongFalsely : Prop := fnExactIsConnectedRow.holds Try.pinned (OpenSpec.ofChange fnExactIsConnectedWrong)

/-- 'laws.FnExactOnlyBars': WHATEVER THE INPUT: true; the input reads as it did. -/
def fnExactOnlyBarsSpec : ChangeSpec := { name := "fnExactOnlyBars", fn := fun _ => fun
  | [d1, d2] => { results := [.lit (.bool true)], args := [d1, d2] }
  | _ => none }
def fnExactOnlyBarsRow : OpenClaim := { program := "ytmanfpdneicgeaa", sum := "d9f2d1d791fcc71d47a6cc6b0b4cb6780f324e7a09c2cd0632723dfef69be624", func := "loop.example/g02078/laws.FnExactOnlyBars", spec := "fnExactOnlyBars", apart := false }
def FnExactOnlyBarsSaid : Prop := fnExactOnlyBarsRow.holds Try.pinned (OpenSpec.ofChange fnExactOnlyBarsSpec)

/-- ITS FALSE NEIGHBOUR: 'it returns false'. Refute it at one input. -/
def fnExactOnlyBarsWrong : ChangeSpec := { name := "fnExactOnlyBars", fn := fun _ => fun
  | [d1, d2] => { results := [.lit (.bool false)], args := [d1, d2] }
  | _ => none }
def FnExactOnlyBarsWrongFalsely : Prop := fnExactOnlyBarsRow.holds Try.pinned (OpenSpec.ofChange fnExactOnlyBarsWrong)

/-- 'laws.FnExactEqualGraphs': WHATEVER THE INPUT: true; the input reads as it did. -/
def fnExactEqualGraphsSpec : ChangeSpec := { name := "fnExactEqualGraphs", fn := fun _ => fun
  | [d1, d2] => { results := [.lit (.bool true)], args := [d1, d2] }
  | _ => none }
def fnExactEqualGraphsRow : OpenClaim := { program := "ytmanfpdneicgeaa", sum := "d9f2d1d791fcc71d47a6cc6b0b4cb6780f324e7a09c2cd0632723dfef69be624", func := "loop.example/g02078/laws.FnExactEqualGraphs", spec := "fnExactEqualGraphs", apart := false }
def FnExactEqualGraphsSaid : Prop := fnExactEqualGraphsRow.holds Try.pinned (OpenSpec.ofChange fnExactEqualGraphsSpec)

/-- ITS FALSE NEIGHBOUR: 'it returns false'. Refute it at one input. -/
def fnExactEqualGraphsWrong : ChangeSpec := { name := "fnExactEqualGraphs", fn := fun _ => fun
  | [d1, d2] => { results := [.lit (.bool false)], args := [d1, d2] }
  | _ => none }
def FnExactEqualGraphsWrongFalsely : Prop := fnExactEqualGraphsRow.holds Try.pinned (OpenSpec.ofChange fnExactEqualGraphsWrong)

/- THE SECOND FORM. 'bulk': how many values and letters a reading holds, each counted each time it is reached (what is shared counts as often as it is met; a slice's spare places count too). A statement '..UptoSaid' is the law's where the arguments, and the package variables that the reading takes, are together of bulk at most 1048576: NARROWER than '..Said'. Prove '..Said' where nothing that the law and all that it calls make is longer than what came in: it says more and counts as full. Else prove '..UptoSaid'. A law counts once. -/
mutual
def uptoBulk {H : Type} : DataW H → Nat
  | .lit (.string bytes) => bytes.length + 1
  | .lit _ => 1
  | .nil => 1
  | .ptr d => uptoBulk d + 1
  | .slice elems spare => uptoBulkAll elems + uptoBulkAll spare + 1
  | .agg parts => uptoBulkAll parts + 1
  | .iface _ d => uptoBulk d + 1
  | .map entries => uptoBulkEntries entries + 1
  | .held _ => 1
def uptoBulkAll {H : Type} : List (DataW H) → Nat
  | [] => 0
  | d :: r => uptoBulk d + uptoBulkAll r
def uptoBulkEntries {H : Type} : List (Lit × DataW H) → Nat
  | [] => 0
  | x :: r => uptoBulkEntry x + uptoBulkEntries r
def uptoBulkEntry {H : Type} : Lit × DataW H → Nat
  | (.string bytes, d) => bytes.length + uptoBulk d + 1
  | (_, d) => uptoBulk d + 1
 end
def uptoSmall : (H : Type) → List (DataW H) → Bool := fun _ ds => decide (uptoBulkAll ds ≤ 1048576)
def OpenSpec.upto (s : _root_.Go.ChangeSpec) : _root_.Go.OpenSpec := { _root_.Go.OpenSpec.ofChange s with cond := some uptoSmall }

/-- 'laws.FnExactIsGraph', WHERE WHAT IT READS IS OF BULK AT MOST 1048576: true; the input reads as it did. -/
def fnExactIsGraphUptoRow : OpenClaim := { program := "ytmanfpdneicgeaa", sum := "d9f2d1d791fcc71d47a6cc6b0b4cb6780f324e7a09c2cd0632723dfef69be624", func := "loop.example/g02078/laws.FnExactIsGraph", spec := "fnExactIsGraph", unfollowed := true, recurses := true, apart := false, narrowed := true }
def FnExactIsGraphUptoSaid : Prop := fnExactIsGraphUptoRow.holds Try.pinned (OpenSpec.upto fnExactIsGraphSpec)

/-- 'laws.FnExactCompleteGraph', WHERE WHAT IT READS IS OF BULK AT MOST 1048576: true; the input reads as it did. -/
def fnExactCompleteGraphUptoRow : OpenClaim := { program := "ytmanfpdneicgeaa", sum := "d9f2d1d791fcc71d47a6cc6b0b4cb6780f324e7a09c2cd0632723dfef69be624", func := "loop.example/g02078/laws.FnExactCompleteGraph", spec := "fnExactCompleteGraph", apart := false, narrowed := true }
def FnExactCompleteGraphUptoSaid : Prop := fnExactCompleteGraphUptoRow.holds Try.pinned (OpenSpec.upto fnExactCompleteGraphSpec)

/-- 'laws.FnExactCountBar', WHERE WHAT IT READS IS OF BULK AT MOST 1048576: true; the input reads as it did. -/
def fnExactCountBarUptoRow : OpenClaim := { program := "ytmanfpdneicgeaa", sum := "d9f2d1d791fcc71d47a6cc6b0b4cb6780f324e7a09c2cd0632723dfef69be624", func := "loop.example/g02078/laws.FnExactCountBar", spec := "fnExactCountBar", apart := false, narrowed := true }
def FnExactCountBarUptoSaid : Prop := fnExactCountBarUptoRow.holds Try.pinned (OpenSpec.upto fnExactCountBarSpec)

/-- 'laws.FnExactAddBar', WHERE WHAT IT READS IS OF BULK AT MOST 1048576: true; the input reads as it did. -/
def fnExactAddBarUptoRow : OpenClaim := { program := "ytmanfpdneicgeaa", sum := "d9f2d1d791fcc71d47a6cc6b0b4cb6780f324e7a09c2cd0632723dfef69be624", func := "loop.example/g02078/laws.FnExactAddBar", spec := "fnExactAddBar", inPlace := ["slices.overlaps[loop.example/g02078/impl.Bar]"], unfollowed := true, recurses := true, apart := false, narrowed := true }
def FnExactAddBarUptoSaid : Prop := fnExactAddBarUptoRow.holds Try.pinned (OpenSpec.upto fnExactAddBarSpec)

/-- 'laws.FnExactRemoveBar', WHERE WHAT IT READS IS OF BULK AT MOST 1048576: true; the input reads as it did. -/
def fnExactRemoveBarUptoRow : OpenClaim := { program := "ytmanfpdneicgeaa", sum := "d9f2d1d791fcc71d47a6cc6b0b4cb6780f324e7a09c2cd0632723dfef69be624", func := "loop.example/g02078/laws.FnExactRemoveBar", spec := "fnExactRemoveBar", unfollowed := true, recurses := true, apart := false, narrowed := true }
def FnExactRemoveBarUptoSaid : Prop := fnExactRemoveBarUptoRow.holds Try.pinned (OpenSpec.upto fnExactRemoveBarSpec)

/-- 'laws.FnExactReachOf', WHERE WHAT IT READS IS OF BULK AT MOST 1048576: true; the input reads as it did. -/
def fnExactReachOfUptoRow : OpenClaim := { program := "ytmanfpdneicgeaa", sum := "d9f2d1d791fcc71d47a6cc6b0b4cb6780f324e7a09c2cd0632723dfef69be624", func := "loop.example/g02078/laws.FnExactReachOf", spec := "fnExactReachOf", unfollowed := true, recurses := true, apart := false, narrowed := true }
def FnExactReachOfUptoSaid : Prop := fnExactReachOfUptoRow.holds Try.pinned (OpenSpec.upto fnExactReachOfSpec)

/-- 'laws.FnExactDegreeOf', WHERE WHAT IT READS IS OF BULK AT MOST 1048576: true; the input reads as it did. -/
def fnExactDegreeOfUptoRow : OpenClaim := { program := "ytmanfpdneicgeaa", sum := "d9f2d1d791fcc71d47a6cc6b0b4cb6780f324e7a09c2cd0632723dfef69be624", func := "loop.example/g02078/laws.FnExactDegreeOf", spec := "fnExactDegreeOf", apart := false, narrowed := true }
def FnExactDegreeOfUptoSaid : Prop := fnExactDegreeOfUptoRow.holds Try.pinned (OpenSpec.upto fnExactDegreeOfSpec)

/-- 'laws.FnExactIsConnected', WHERE WHAT IT READS IS OF BULK AT MOST 1048576: true; the input reads as it did. -/
def fnExactIsConnectedUptoRow : OpenClaim := { program := "ytmanfpdneicgeaa", sum := "d9f2d1d791fcc71d47a6cc6b0b4cb6780f324e7a09c2cd0632723dfef69be624", func := "loop.example/g02078/laws.FnExactIsConnected", spec := "fnExactIsConnected", unfollowed := true, recurses := true, apart := false, narrowed := true }
def FnExactIsConnectedUptoSaid : Prop := fnExactIsConnectedUptoRow.holds Try.pinned (OpenSpec.upto fnExactIsConnectedSpec)

/-- 'laws.FnExactOnlyBars', WHERE WHAT IT READS IS OF BULK AT MOST 1048576: true; the input reads as it did. -/
def fnExactOnlyBarsUptoRow : OpenClaim := { program := "ytmanfpdneicgeaa", sum := "d9f2d1d791fcc71d47a6cc6b0b4cb6780f324e7a09c2cd0632723dfef69be624", func := "loop.example/g02078/laws.FnExactOnlyBars", spec := "fnExactOnlyBars", apart := false, narrowed := true }
def FnExactOnlyBarsUptoSaid : Prop := fnExactOnlyBarsUptoRow.holds Try.pinned (OpenSpec.upto fnExactOnlyBarsSpec)

/-- 'laws.FnExactEqualGraphs', WHERE WHAT IT READS IS OF BULK AT MOST 1048576: true; the input reads as it did. -/
def fnExactEqualGraphsUptoRow : OpenClaim := { program := "ytmanfpdneicgeaa", sum := "d9f2d1d791fcc71d47a6cc6b0b4cb6780f324e7a09c2cd0632723dfef69be624", func := "loop.example/g02078/laws.FnExactEqualGraphs", spec := "fnExactEqualGraphs", apart := false, narrowed := true }
def FnExactEqualGraphsUptoSaid : Prop := fnExactEqualGraphsUptoRow.holds Try.pinned (OpenSpec.upto fnExactEqualGraphsSpec)

end Rows
end Go.Proofs.Ytmanfpdneicgeaa
