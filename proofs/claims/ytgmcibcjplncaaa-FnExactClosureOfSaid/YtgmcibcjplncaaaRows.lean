/-
  No cell of these rows narrows 'for every input' (looked for: loops, veiled, ifaces, maps, wideKeys, modest, calm, conditions, laid).
  DERIVED. THE GIVEN ROWS OF THIS SEAT. 14 by the template 'for every input the law returns true; each argument reads behind the call as it read before'; 0 by the template 'total and deterministic' (their statements: YtgmcibcjplncaaaTotals.lean).
  GIVEN WITH THE SEED: the statements are not yours to turn. If you find one false, say at which input.
  Laid BY PROGRAM, IN A SANDBOX (cutbox-rows.mjs): the forced cells as the released guide's own fill.sh prints them over the translation 29be2f65562432d6… (all of the seat's roots in one cut). By AI agents, Wed Nov 11 2026. No macro, syntax, notation, axiom, sorry.
-/
import Derived.Test.YtgmcibcjplncaaaChecked
import GoSem.Claim
import GoSem.ClaimJoined
import GoSem.ClaimMapViews
import Derived.JoinedTies
import Derived.KernelRfl
namespace Go.Proofs.Ytgmcibcjplncaaa
/- THE CELL 'sum', in the pinned program and in every row, IS THE sha256 OF THE DUMP (.gsa) THAT YtgmcibcjplncaaaProg.lean LOADS. Nothing in Lean hashes anything: it is a label: what it is worth is what the hold of that sum in a sandbox is worth. -/
noncomputable def Try.pinned : Pinned := { name := "ytgmcibcjplncaaa", sum := "29be2f65562432d6fad7d54fe94c1c21b3d2c8a902c89d6efbfe3f92cc527618", checked := Try.checked }
namespace Rows
def none {H : Type} : Left H := { results := [], args := [] }

/-- 'laws.FnExactGatherPebbles': WHATEVER THE INPUT: true; the input reads as it did. -/
def fnExactGatherPebblesSpec : ChangeSpec := { name := "fnExactGatherPebbles", fn := fun _ => fun
  | [d1, d2, d3, d4, d5, d6] => { results := [.lit (.bool true)], args := [d1, d2, d3, d4, d5, d6] }
  | _ => none }
def fnExactGatherPebblesRow : OpenClaim := { program := "ytgmcibcjplncaaa", sum := "29be2f65562432d6fad7d54fe94c1c21b3d2c8a902c89d6efbfe3f92cc527618", func := "loop.example/g02078/laws.FnExactGatherPebbles", spec := "fnExactGatherPebbles", unfollowed := true, recurses := true, apart := false }
def FnExactGatherPebblesSaid : Prop := fnExactGatherPebblesRow.holds Try.pinned (OpenSpec.ofChange fnExactGatherPebblesSpec)

/-- ITS FALSE NEIGHBOUR: 'it returns false'. Refute it at one input. -/
def fnExactGatherPebblesWrong : ChangeSpec := { name := "fnExactGatherPebbles", fn := fun _ => fun
  | [d1, d2, d3, d4, d5, d6] => { results := [.lit (.bool false)], args := [d1, d2, d3, d4, d5, d6] }
  | _ => none }
def FnExactGatherPebblesWrongFalsely : Prop := fnExactGatherPebblesRow.holds Try.pinned (OpenSpec.ofChange fnExactGatherPebblesWrong)

/-- 'laws.FnExactPlaceBar': WHATEVER THE INPUT: true; the input reads as it did. -/
def fnExactPlaceBarSpec : ChangeSpec := { name := "fnExactPlaceBar", fn := fun _ => fun
  | [d1, d2, d3, d4, d5] => { results := [.lit (.bool true)], args := [d1, d2, d3, d4, d5] }
  | _ => none }
def fnExactPlaceBarRow : OpenClaim := { program := "ytgmcibcjplncaaa", sum := "29be2f65562432d6fad7d54fe94c1c21b3d2c8a902c89d6efbfe3f92cc527618", func := "loop.example/g02078/laws.FnExactPlaceBar", spec := "fnExactPlaceBar", unfollowed := true, recurses := true, apart := false }
def FnExactPlaceBarSaid : Prop := fnExactPlaceBarRow.holds Try.pinned (OpenSpec.ofChange fnExactPlaceBarSpec)

/-- ITS FALSE NEIGHBOUR: 'it returns false'. Refute it at one input. -/
def fnExactPlaceBarWrong : ChangeSpec := { name := "fnExactPlaceBar", fn := fun _ => fun
  | [d1, d2, d3, d4, d5] => { results := [.lit (.bool false)], args := [d1, d2, d3, d4, d5] }
  | _ => none }
def FnExactPlaceBarWrongFalsely : Prop := fnExactPlaceBarRow.holds Try.pinned (OpenSpec.ofChange fnExactPlaceBarWrong)

/-- 'laws.FnExactRunPebbles': WHATEVER THE INPUT: true; the input reads as it did. -/
def fnExactRunPebblesSpec : ChangeSpec := { name := "fnExactRunPebbles", fn := fun _ => fun
  | [d1, d2, d3] => { results := [.lit (.bool true)], args := [d1, d2, d3] }
  | _ => none }
def fnExactRunPebblesRow : OpenClaim := { program := "ytgmcibcjplncaaa", sum := "29be2f65562432d6fad7d54fe94c1c21b3d2c8a902c89d6efbfe3f92cc527618", func := "loop.example/g02078/laws.FnExactRunPebbles", spec := "fnExactRunPebbles", unfollowed := true, recurses := true, apart := false }
def FnExactRunPebblesSaid : Prop := fnExactRunPebblesRow.holds Try.pinned (OpenSpec.ofChange fnExactRunPebblesSpec)

/-- ITS FALSE NEIGHBOUR: 'it returns false'. Refute it at one input. -/
def fnExactRunPebblesWrong : ChangeSpec := { name := "fnExactRunPebbles", fn := fun _ => fun
  | [d1, d2, d3] => { results := [.lit (.bool false)], args := [d1, d2, d3] }
  | _ => none }
def FnExactRunPebblesWrongFalsely : Prop := fnExactRunPebblesRow.holds Try.pinned (OpenSpec.ofChange fnExactRunPebblesWrong)

/-- 'laws.FnExactAcceptedBars': WHATEVER THE INPUT: true; the input reads as it did. -/
def fnExactAcceptedBarsSpec : ChangeSpec := { name := "fnExactAcceptedBars", fn := fun _ => fun
  | [d1, d2, d3] => { results := [.lit (.bool true)], args := [d1, d2, d3] }
  | _ => none }
def fnExactAcceptedBarsRow : OpenClaim := { program := "ytgmcibcjplncaaa", sum := "29be2f65562432d6fad7d54fe94c1c21b3d2c8a902c89d6efbfe3f92cc527618", func := "loop.example/g02078/laws.FnExactAcceptedBars", spec := "fnExactAcceptedBars", unfollowed := true, recurses := true, apart := false }
def FnExactAcceptedBarsSaid : Prop := fnExactAcceptedBarsRow.holds Try.pinned (OpenSpec.ofChange fnExactAcceptedBarsSpec)

/-- ITS FALSE NEIGHBOUR: 'it returns false'. Refute it at one input. -/
def fnExactAcceptedBarsWrong : ChangeSpec := { name := "fnExactAcceptedBars", fn := fun _ => fun
  | [d1, d2, d3] => { results := [.lit (.bool false)], args := [d1, d2, d3] }
  | _ => none }
def FnExactAcceptedBarsWrongFalsely : Prop := fnExactAcceptedBarsRow.holds Try.pinned (OpenSpec.ofChange fnExactAcceptedBarsWrong)

/-- 'laws.FnExactRejectedBars': WHATEVER THE INPUT: true; the input reads as it did. -/
def fnExactRejectedBarsSpec : ChangeSpec := { name := "fnExactRejectedBars", fn := fun _ => fun
  | [d1, d2, d3] => { results := [.lit (.bool true)], args := [d1, d2, d3] }
  | _ => none }
def fnExactRejectedBarsRow : OpenClaim := { program := "ytgmcibcjplncaaa", sum := "29be2f65562432d6fad7d54fe94c1c21b3d2c8a902c89d6efbfe3f92cc527618", func := "loop.example/g02078/laws.FnExactRejectedBars", spec := "fnExactRejectedBars", unfollowed := true, recurses := true, apart := false }
def FnExactRejectedBarsSaid : Prop := fnExactRejectedBarsRow.holds Try.pinned (OpenSpec.ofChange fnExactRejectedBarsSpec)

/-- ITS FALSE NEIGHBOUR: 'it returns false'. Refute it at one input. -/
def fnExactRejectedBarsWrong : ChangeSpec := { name := "fnExactRejectedBars", fn := fun _ => fun
  | [d1, d2, d3] => { results := [.lit (.bool false)], args := [d1, d2, d3] }
  | _ => none }
def FnExactRejectedBarsWrongFalsely : Prop := fnExactRejectedBarsRow.holds Try.pinned (OpenSpec.ofChange fnExactRejectedBarsWrong)

/-- 'laws.FnExactIsPebbles': WHATEVER THE INPUT: true; the input reads as it did. -/
def fnExactIsPebblesSpec : ChangeSpec := { name := "fnExactIsPebbles", fn := fun _ => fun
  | [d1, d2, d3] => { results := [.lit (.bool true)], args := [d1, d2, d3] }
  | _ => none }
def fnExactIsPebblesRow : OpenClaim := { program := "ytgmcibcjplncaaa", sum := "29be2f65562432d6fad7d54fe94c1c21b3d2c8a902c89d6efbfe3f92cc527618", func := "loop.example/g02078/laws.FnExactIsPebbles", spec := "fnExactIsPebbles", unfollowed := true, recurses := true, apart := false }
def FnExactIsPebblesSaid : Prop := fnExactIsPebblesRow.holds Try.pinned (OpenSpec.ofChange fnExactIsPebblesSpec)

/-- ITS FALSE NEIGHBOUR: 'it returns false'. Refute it at one input. -/
def fnExactIsPebblesWrong : ChangeSpec := { name := "fnExactIsPebbles", fn := fun _ => fun
  | [d1, d2, d3] => { results := [.lit (.bool false)], args := [d1, d2, d3] }
  | _ => none }
def FnExactIsPebblesWrongFalsely : Prop := fnExactIsPebblesRow.holds Try.pinned (OpenSpec.ofChange fnExactIsPebblesWrong)

/-- 'laws.FnPebbles': WHATEVER THE INPUT: true; the input reads as it did. -/
def fnPebblesSpec : ChangeSpec := { name := "fnPebbles", fn := fun _ => fun
  | [d] => { results := [.lit (.bool true)], args := [d] }
  | _ => none }
def fnPebblesRow : OpenClaim := { program := "ytgmcibcjplncaaa", sum := "29be2f65562432d6fad7d54fe94c1c21b3d2c8a902c89d6efbfe3f92cc527618", func := "loop.example/g02078/laws.FnPebbles", spec := "fnPebbles", unfollowed := true, recurses := true, apart := false }
def FnPebblesSaid : Prop := fnPebblesRow.holds Try.pinned (OpenSpec.ofChange fnPebblesSpec)

/-- ITS FALSE NEIGHBOUR: 'it returns false'. Refute it at one input. -/
def fnPebblesWrong : ChangeSpec := { name := "fnPebbles", fn := fun _ => fun
  | [d] => { results := [.lit (.bool false)], args := [d] }
  | _ => none }
def FnPebblesWrongFalsely : Prop := fnPebblesRow.holds Try.pinned (OpenSpec.ofChange fnPebblesWrong)

/-- 'laws.FnExactRankOf': WHATEVER THE INPUT: true; the input reads as it did. -/
def fnExactRankOfSpec : ChangeSpec := { name := "fnExactRankOf", fn := fun _ => fun
  | [d1, d2, d3] => { results := [.lit (.bool true)], args := [d1, d2, d3] }
  | _ => none }
def fnExactRankOfRow : OpenClaim := { program := "ytgmcibcjplncaaa", sum := "29be2f65562432d6fad7d54fe94c1c21b3d2c8a902c89d6efbfe3f92cc527618", func := "loop.example/g02078/laws.FnExactRankOf", spec := "fnExactRankOf", unfollowed := true, recurses := true, apart := false }
def FnExactRankOfSaid : Prop := fnExactRankOfRow.holds Try.pinned (OpenSpec.ofChange fnExactRankOfSpec)

/-- ITS FALSE NEIGHBOUR: 'it returns false'. Refute it at one input. -/
def fnExactRankOfWrong : ChangeSpec := { name := "fnExactRankOf", fn := fun _ => fun
  | [d1, d2, d3] => { results := [.lit (.bool false)], args := [d1, d2, d3] }
  | _ => none }
def FnExactRankOfWrongFalsely : Prop := fnExactRankOfRow.holds Try.pinned (OpenSpec.ofChange fnExactRankOfWrong)

/-- 'laws.FnExactIsIndependent': WHATEVER THE INPUT: true; the input reads as it did. -/
def fnExactIsIndependentSpec : ChangeSpec := { name := "fnExactIsIndependent", fn := fun _ => fun
  | [d1, d2, d3, d4] => { results := [.lit (.bool true)], args := [d1, d2, d3, d4] }
  | _ => none }
def fnExactIsIndependentRow : OpenClaim := { program := "ytgmcibcjplncaaa", sum := "29be2f65562432d6fad7d54fe94c1c21b3d2c8a902c89d6efbfe3f92cc527618", func := "loop.example/g02078/laws.FnExactIsIndependent", spec := "fnExactIsIndependent", unfollowed := true, recurses := true, apart := false }
def FnExactIsIndependentSaid : Prop := fnExactIsIndependentRow.holds Try.pinned (OpenSpec.ofChange fnExactIsIndependentSpec)

/-- ITS FALSE NEIGHBOUR: 'it returns false'. Refute it at one input. -/
def fnExactIsIndependentWrong : ChangeSpec := { name := "fnExactIsIndependent", fn := fun _ => fun
  | [d1, d2, d3, d4] => { results := [.lit (.bool false)], args := [d1, d2, d3, d4] }
  | _ => none }
def FnExactIsIndependentWrongFalsely : Prop := fnExactIsIndependentRow.holds Try.pinned (OpenSpec.ofChange fnExactIsIndependentWrong)

/-- 'laws.FnExactCircuitOf': WHATEVER THE INPUT: true; the input reads as it did. -/
def fnExactCircuitOfSpec : ChangeSpec := { name := "fnExactCircuitOf", fn := fun _ => fun
  | [d1, d2, d3, d4] => { results := [.lit (.bool true)], args := [d1, d2, d3, d4] }
  | _ => none }
def fnExactCircuitOfRow : OpenClaim := { program := "ytgmcibcjplncaaa", sum := "29be2f65562432d6fad7d54fe94c1c21b3d2c8a902c89d6efbfe3f92cc527618", func := "loop.example/g02078/laws.FnExactCircuitOf", spec := "fnExactCircuitOf", unfollowed := true, recurses := true, apart := false }
def FnExactCircuitOfSaid : Prop := fnExactCircuitOfRow.holds Try.pinned (OpenSpec.ofChange fnExactCircuitOfSpec)

/-- ITS FALSE NEIGHBOUR: 'it returns false'. Refute it at one input. -/
def fnExactCircuitOfWrong : ChangeSpec := { name := "fnExactCircuitOf", fn := fun _ => fun
  | [d1, d2, d3, d4] => { results := [.lit (.bool false)], args := [d1, d2, d3, d4] }
  | _ => none }
def FnExactCircuitOfWrongFalsely : Prop := fnExactCircuitOfRow.holds Try.pinned (OpenSpec.ofChange fnExactCircuitOfWrong)

/-- 'laws.FnExactIsCircuit': WHATEVER THE INPUT: true; the input reads as it did. -/
def fnExactIsCircuitSpec : ChangeSpec := { name := "fnExactIsCircuit", fn := fun _ => fun
  | [d1, d2, d3, d4] => { results := [.lit (.bool true)], args := [d1, d2, d3, d4] }
  | _ => none }
def fnExactIsCircuitRow : OpenClaim := { program := "ytgmcibcjplncaaa", sum := "29be2f65562432d6fad7d54fe94c1c21b3d2c8a902c89d6efbfe3f92cc527618", func := "loop.example/g02078/laws.FnExactIsCircuit", spec := "fnExactIsCircuit", unfollowed := true, recurses := true, apart := false }
def FnExactIsCircuitSaid : Prop := fnExactIsCircuitRow.holds Try.pinned (OpenSpec.ofChange fnExactIsCircuitSpec)

/-- ITS FALSE NEIGHBOUR: 'it returns false'. Refute it at one input. -/
def fnExactIsCircuitWrong : ChangeSpec := { name := "fnExactIsCircuit", fn := fun _ => fun
  | [d1, d2, d3, d4] => { results := [.lit (.bool false)], args := [d1, d2, d3, d4] }
  | _ => none }
def FnExactIsCircuitWrongFalsely : Prop := fnExactIsCircuitRow.holds Try.pinned (OpenSpec.ofChange fnExactIsCircuitWrong)

/-- 'laws.FnExactClosureOf': WHATEVER THE INPUT: true; the input reads as it did. -/
def fnExactClosureOfSpec : ChangeSpec := { name := "fnExactClosureOf", fn := fun _ => fun
  | [d1, d2, d3, d4] => { results := [.lit (.bool true)], args := [d1, d2, d3, d4] }
  | _ => none }
def fnExactClosureOfRow : OpenClaim := { program := "ytgmcibcjplncaaa", sum := "29be2f65562432d6fad7d54fe94c1c21b3d2c8a902c89d6efbfe3f92cc527618", func := "loop.example/g02078/laws.FnExactClosureOf", spec := "fnExactClosureOf", unfollowed := true, recurses := true, apart := false }
def FnExactClosureOfSaid : Prop := fnExactClosureOfRow.holds Try.pinned (OpenSpec.ofChange fnExactClosureOfSpec)

/-- ITS FALSE NEIGHBOUR: 'it returns false'. Refute it at one input. -/
def fnExactClosureOfWrong : ChangeSpec := { name := "fnExactClosureOf", fn := fun _ => fun
  | [d1, d2, d3, d4] => { results := [.lit (.bool false)], args := [d1, d2, d3, d4] }
  | _ => none }
def FnExactClosureOfWrongFalsely : Prop := fnExactClosureOfRow.holds Try.pinned (OpenSpec.ofChange fnExactClosureOfWrong)

/-- 'laws.FnExactBridgesOf': WHATEVER THE INPUT: true; the input reads as it did. -/
def fnExactBridgesOfSpec : ChangeSpec := { name := "fnExactBridgesOf", fn := fun _ => fun
  | [d1, d2, d3] => { results := [.lit (.bool true)], args := [d1, d2, d3] }
  | _ => none }
def fnExactBridgesOfRow : OpenClaim := { program := "ytgmcibcjplncaaa", sum := "29be2f65562432d6fad7d54fe94c1c21b3d2c8a902c89d6efbfe3f92cc527618", func := "loop.example/g02078/laws.FnExactBridgesOf", spec := "fnExactBridgesOf", unfollowed := true, recurses := true, apart := false }
def FnExactBridgesOfSaid : Prop := fnExactBridgesOfRow.holds Try.pinned (OpenSpec.ofChange fnExactBridgesOfSpec)

/-- ITS FALSE NEIGHBOUR: 'it returns false'. Refute it at one input. -/
def fnExactBridgesOfWrong : ChangeSpec := { name := "fnExactBridgesOf", fn := fun _ => fun
  | [d1, d2, d3] => { results := [.lit (.bool false)], args := [d1, d2, d3] }
  | _ => none }
def FnExactBridgesOfWrongFalsely : Prop := fnExactBridgesOfRow.holds Try.pinned (OpenSpec.ofChange fnExactBridgesOfWrong)

/-- 'laws.FnExactRankOfSet': WHATEVER THE INPUT: true; the input reads as it did. -/
def fnExactRankOfSetSpec : ChangeSpec := { name := "fnExactRankOfSet", fn := fun _ => fun
  | [d1, d2, d3, d4] => { results := [.lit (.bool true)], args := [d1, d2, d3, d4] }
  | _ => none }
def fnExactRankOfSetRow : OpenClaim := { program := "ytgmcibcjplncaaa", sum := "29be2f65562432d6fad7d54fe94c1c21b3d2c8a902c89d6efbfe3f92cc527618", func := "loop.example/g02078/laws.FnExactRankOfSet", spec := "fnExactRankOfSet", unfollowed := true, recurses := true, apart := false }
def FnExactRankOfSetSaid : Prop := fnExactRankOfSetRow.holds Try.pinned (OpenSpec.ofChange fnExactRankOfSetSpec)

/-- ITS FALSE NEIGHBOUR: 'it returns false'. Refute it at one input. -/
def fnExactRankOfSetWrong : ChangeSpec := { name := "fnExactRankOfSet", fn := fun _ => fun
  | [d1, d2, d3, d4] => { results := [.lit (.bool false)], args := [d1, d2, d3, d4] }
  | _ => none }
def FnExactRankOfSetWrongFalsely : Prop := fnExactRankOfSetRow.holds Try.pinned (OpenSpec.ofChange fnExactRankOfSetWrong)

/- THE SECOND FORM. 'bulk': how many values and letters a reading holds, each counted each time it is reached (what is shared counts as often as it is met; a slice's spare places count too). A statement '..UptoSaid' is the law's where the arguments, and the package variables that the reading takes, are together of bulk at most 1048576: NARROWER than '..Said'. Prove '..Said' where nothing that the law and all that it calls make is longer than what came in: it says more and counts as full. Else prove '..UptoSaid'. A law counts once. -/
mutual
def uptoBulk {H : Type} : DataW H → Nat
  | .lit (.string bytes) => bytes.length + 1
  | .lit _ => 1
  | .nil => 1
  | .ptr d => uptoBulk d + 1
  | .slice elems spare => uptoBulkAll elems + uptoBulkAll spare + 1
  | .agg parts => uptoBulkAll parts + 1
  | .iface _ d => uptoBulk d + 1
  | .map entries => uptoBulkEntries entries + 1
  | .held _ => 1
def uptoBulkAll {H : Type} : List (DataW H) → Nat
  | [] => 0
  | d :: r => uptoBulk d + uptoBulkAll r
def uptoBulkEntries {H : Type} : List (Lit × DataW H) → Nat
  | [] => 0
  | x :: r => uptoBulkEntry x + uptoBulkEntries r
def uptoBulkEntry {H : Type} : Lit × DataW H → Nat
  | (.string bytes, d) => bytes.length + uptoBulk d + 1
  | (_, d) => uptoBulk d + 1
 end
def uptoSmall : (H : Type) → List (DataW H) → Bool := fun _ ds => decide (uptoBulkAll ds ≤ 1048576)
def OpenSpec.upto (s : _root_.Go.ChangeSpec) : _root_.Go.OpenSpec := { _root_.Go.OpenSpec.ofChange s with cond := some uptoSmall }

/-- 'laws.FnExactGatherPebbles', WHERE WHAT IT READS IS OF BULK AT MOST 1048576: true; the input reads as it did. -/
def fnExactGatherPebblesUptoRow : OpenClaim := { program := "ytgmcibcjplncaaa", sum := "29be2f65562432d6fad7d54fe94c1c21b3d2c8a902c89d6efbfe3f92cc527618", func := "loop.example/g02078/laws.FnExactGatherPebbles", spec := "fnExactGatherPebbles", unfollowed := true, recurses := true, apart := false, narrowed := true }
def FnExactGatherPebblesUptoSaid : Prop := fnExactGatherPebblesUptoRow.holds Try.pinned (OpenSpec.upto fnExactGatherPebblesSpec)

/-- 'laws.FnExactPlaceBar', WHERE WHAT IT READS IS OF BULK AT MOST 1048576: true; the input reads as it did. -/
def fnExactPlaceBarUptoRow : OpenClaim := { program := "ytgmcibcjplncaaa", sum := "29be2f65562432d6fad7d54fe94c1c21b3d2c8a902c89d6efbfe3f92cc527618", func := "loop.example/g02078/laws.FnExactPlaceBar", spec := "fnExactPlaceBar", unfollowed := true, recurses := true, apart := false, narrowed := true }
def FnExactPlaceBarUptoSaid : Prop := fnExactPlaceBarUptoRow.holds Try.pinned (OpenSpec.upto fnExactPlaceBarSpec)

/-- 'laws.FnExactRunPebbles', WHERE WHAT IT READS IS OF BULK AT MOST 1048576: true; the input reads as it did. -/
def fnExactRunPebblesUptoRow : OpenClaim := { program := "ytgmcibcjplncaaa", sum := "29be2f65562432d6fad7d54fe94c1c21b3d2c8a902c89d6efbfe3f92cc527618", func := "loop.example/g02078/laws.FnExactRunPebbles", spec := "fnExactRunPebbles", unfollowed := true, recurses := true, apart := false, narrowed := true }
def FnExactRunPebblesUptoSaid : Prop := fnExactRunPebblesUptoRow.holds Try.pinned (OpenSpec.upto fnExactRunPebblesSpec)

/-- 'laws.FnExactAcceptedBars', WHERE WHAT IT READS IS OF BULK AT MOST 1048576: true; the input reads as it did. -/
def fnExactAcceptedBarsUptoRow : OpenClaim := { program := "ytgmcibcjplncaaa", sum := "29be2f65562432d6fad7d54fe94c1c21b3d2c8a902c89d6efbfe3f92cc527618", func := "loop.example/g02078/laws.FnExactAcceptedBars", spec := "fnExactAcceptedBars", unfollowed := true, recurses := true, apart := false, narrowed := true }
def FnExactAcceptedBarsUptoSaid : Prop := fnExactAcceptedBarsUptoRow.holds Try.pinned (OpenSpec.upto fnExactAcceptedBarsSpec)

/-- 'laws.FnExactRejectedBars', WHERE WHAT IT READS IS OF BULK AT MOST 1048576: true; the input reads as it did. -/
def fnExactRejectedBarsUptoRow : OpenClaim := { program := "ytgmcibcjplncaaa", sum := "29be2f65562432d6fad7d54fe94c1c21b3d2c8a902c89d6efbfe3f92cc527618", func := "loop.example/g02078/laws.FnExactRejectedBars", spec := "fnExactRejectedBars", unfollowed := true, recurses := true, apart := false, narrowed := true }
def FnExactRejectedBarsUptoSaid : Prop := fnExactRejectedBarsUptoRow.holds Try.pinned (OpenSpec.upto fnExactRejectedBarsSpec)

/-- 'laws.FnExactIsPebbles', WHERE WHAT IT READS IS OF BULK AT MOST 1048576: true; the input reads as it did. -/
def fnExactIsPebblesUptoRow : OpenClaim := { program := "ytgmcibcjplncaaa", sum := "29be2f65562432d6fad7d54fe94c1c21b3d2c8a902c89d6efbfe3f92cc527618", func := "loop.example/g02078/laws.FnExactIsPebbles", spec := "fnExactIsPebbles", unfollowed := true, recurses := true, apart := false, narrowed := true }
def FnExactIsPebblesUptoSaid : Prop := fnExactIsPebblesUptoRow.holds Try.pinned (OpenSpec.upto fnExactIsPebblesSpec)

/-- 'laws.FnPebbles', WHERE WHAT IT READS IS OF BULK AT MOST 1048576: true; the input reads as it did. -/
def fnPebblesUptoRow : OpenClaim := { program := "ytgmcibcjplncaaa", sum := "29be2f65562432d6fad7d54fe94c1c21b3d2c8a902c89d6efbfe3f92cc527618", func := "loop.example/g02078/laws.FnPebbles", spec := "fnPebbles", unfollowed := true, recurses := true, apart := false, narrowed := true }
def FnPebblesUptoSaid : Prop := fnPebblesUptoRow.holds Try.pinned (OpenSpec.upto fnPebblesSpec)

/-- 'laws.FnExactRankOf', WHERE WHAT IT READS IS OF BULK AT MOST 1048576: true; the input reads as it did. -/
def fnExactRankOfUptoRow : OpenClaim := { program := "ytgmcibcjplncaaa", sum := "29be2f65562432d6fad7d54fe94c1c21b3d2c8a902c89d6efbfe3f92cc527618", func := "loop.example/g02078/laws.FnExactRankOf", spec := "fnExactRankOf", unfollowed := true, recurses := true, apart := false, narrowed := true }
def FnExactRankOfUptoSaid : Prop := fnExactRankOfUptoRow.holds Try.pinned (OpenSpec.upto fnExactRankOfSpec)

/-- 'laws.FnExactIsIndependent', WHERE WHAT IT READS IS OF BULK AT MOST 1048576: true; the input reads as it did. -/
def fnExactIsIndependentUptoRow : OpenClaim := { program := "ytgmcibcjplncaaa", sum := "29be2f65562432d6fad7d54fe94c1c21b3d2c8a902c89d6efbfe3f92cc527618", func := "loop.example/g02078/laws.FnExactIsIndependent", spec := "fnExactIsIndependent", unfollowed := true, recurses := true, apart := false, narrowed := true }
def FnExactIsIndependentUptoSaid : Prop := fnExactIsIndependentUptoRow.holds Try.pinned (OpenSpec.upto fnExactIsIndependentSpec)

/-- 'laws.FnExactCircuitOf', WHERE WHAT IT READS IS OF BULK AT MOST 1048576: true; the input reads as it did. -/
def fnExactCircuitOfUptoRow : OpenClaim := { program := "ytgmcibcjplncaaa", sum := "29be2f65562432d6fad7d54fe94c1c21b3d2c8a902c89d6efbfe3f92cc527618", func := "loop.example/g02078/laws.FnExactCircuitOf", spec := "fnExactCircuitOf", unfollowed := true, recurses := true, apart := false, narrowed := true }
def FnExactCircuitOfUptoSaid : Prop := fnExactCircuitOfUptoRow.holds Try.pinned (OpenSpec.upto fnExactCircuitOfSpec)

/-- 'laws.FnExactIsCircuit', WHERE WHAT IT READS IS OF BULK AT MOST 1048576: true; the input reads as it did. -/
def fnExactIsCircuitUptoRow : OpenClaim := { program := "ytgmcibcjplncaaa", sum := "29be2f65562432d6fad7d54fe94c1c21b3d2c8a902c89d6efbfe3f92cc527618", func := "loop.example/g02078/laws.FnExactIsCircuit", spec := "fnExactIsCircuit", unfollowed := true, recurses := true, apart := false, narrowed := true }
def FnExactIsCircuitUptoSaid : Prop := fnExactIsCircuitUptoRow.holds Try.pinned (OpenSpec.upto fnExactIsCircuitSpec)

/-- 'laws.FnExactClosureOf', WHERE WHAT IT READS IS OF BULK AT MOST 1048576: true; the input reads as it did. -/
def fnExactClosureOfUptoRow : OpenClaim := { program := "ytgmcibcjplncaaa", sum := "29be2f65562432d6fad7d54fe94c1c21b3d2c8a902c89d6efbfe3f92cc527618", func := "loop.example/g02078/laws.FnExactClosureOf", spec := "fnExactClosureOf", unfollowed := true, recurses := true, apart := false, narrowed := true }
def FnExactClosureOfUptoSaid : Prop := fnExactClosureOfUptoRow.holds Try.pinned (OpenSpec.upto fnExactClosureOfSpec)

/-- 'laws.FnExactBridgesOf', WHERE WHAT IT READS IS OF BULK AT MOST 1048576: true; the input reads as it did. -/
def fnExactBridgesOfUptoRow : OpenClaim := { program := "ytgmcibcjplncaaa", sum := "29be2f65562432d6fad7d54fe94c1c21b3d2c8a902c89d6efbfe3f92cc527618", func := "loop.example/g02078/laws.FnExactBridgesOf", spec := "fnExactBridgesOf", unfollowed := true, recurses := true, apart := false, narrowed := true }
def FnExactBridgesOfUptoSaid : Prop := fnExactBridgesOfUptoRow.holds Try.pinned (OpenSpec.upto fnExactBridgesOfSpec)

/-- 'laws.FnExactRankOfSet', WHERE WHAT IT READS IS OF BULK AT MOST 1048576: true; the input reads as it did. -/
def fnExactRankOfSetUptoRow : OpenClaim := { program := "ytgmcibcjplncaaa", sum := "29be2f65562432d6fad7d54fe94c1c21b3d2c8a902c89d6efbfe3f92cc527618", func := "loop.example/g02078/laws.FnExactRankOfSet", spec := "fnExactRankOfSet", unfollowed := true, recurses := true, apart := false, narrowed := true }
def FnExactRankOfSetUptoSaid : Prop := fnExactRankOfSetUptoRow.holds Try.pinned (OpenSpec.upto fnExactRankOfSetSpec)

end Rows
end Go.Proofs.Ytgmcibcjplncaaa
