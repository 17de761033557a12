/-
  No cell of these rows narrows 'for every input' (looked for: loops, veiled, ifaces, maps, wideKeys, modest, calm, conditions, laid).
  DERIVED. THE GIVEN ROWS OF THIS SEAT. 10 by the template 'for every input the law returns true; each argument reads behind the call as it read before'; 0 by the template 'total and deterministic' (their statements: YtdnmmjaelgjkaaaTotals.lean).
  GIVEN WITH THE SEED: the statements are not yours to turn. If you find one false, say at which input.
  Laid BY PROGRAM, IN A SANDBOX (cutbox-rows.mjs): the forced cells as the released guide's own fill.sh prints them over the translation 39d7e37130c3ef4b… (all of the seat's roots in one cut). By AI agents, Wed Nov 11 2026. No macro, syntax, notation, axiom, sorry.
-/
import Derived.Test.YtdnmmjaelgjkaaaChecked
import GoSem.Claim
import GoSem.ClaimJoined
import GoSem.ClaimMapViews
import Derived.JoinedTies
import Derived.KernelRfl
namespace Go.Proofs.Ytdnmmjaelgjkaaa
/- THE CELL 'sum', in the pinned program and in every row, IS THE sha256 OF THE DUMP (.gsa) THAT YtdnmmjaelgjkaaaProg.lean LOADS. Nothing in Lean hashes anything: it is a label: what it is worth is what the hold of that sum in a sandbox is worth. -/
noncomputable def Try.pinned : Pinned := { name := "ytdnmmjaelgjkaaa", sum := "39d7e37130c3ef4b7542e10f929a4a361c74ffb2a24fed5d6b5d332e5c32bd81", checked := Try.checked }
namespace Rows
def none {H : Type} : Left H := { results := [], args := [] }

/-- 'laws.FnExactIsImplied': WHATEVER THE INPUT: true; the input reads as it did. -/
def fnExactIsImpliedSpec : ChangeSpec := { name := "fnExactIsImplied", fn := fun _ => fun
  | [d1, d2, d3] => { results := [.lit (.bool true)], args := [d1, d2, d3] }
  | _ => none }
def fnExactIsImpliedRow : OpenClaim := { program := "ytdnmmjaelgjkaaa", sum := "39d7e37130c3ef4b7542e10f929a4a361c74ffb2a24fed5d6b5d332e5c32bd81", func := "loop.example/g02078/laws.FnExactIsImplied", spec := "fnExactIsImplied", unfollowed := true, recurses := true, apart := false }
def FnExactIsImpliedSaid : Prop := fnExactIsImpliedRow.holds Try.pinned (OpenSpec.ofChange fnExactIsImpliedSpec)

/-- ITS FALSE NEIGHBOUR: 'it returns false'. Refute it at one input. -/
def fnExactIsImpliedWrong : ChangeSpec := { name := "fnExactIsImplied", fn := fun _ => fun
  | [d1, d2, d3] => { results := [.lit (.bool false)], args := [d1, d2, d3] }
  | _ => none }
def FnExactIsImpliedWrongFalsely : Prop := fnExactIsImpliedRow.holds Try.pinned (OpenSpec.ofChange fnExactIsImpliedWrong)

/-- 'laws.FnExactIsRigid': WHATEVER THE INPUT: true; the input reads as it did. -/
def fnExactIsRigidSpec : ChangeSpec := { name := "fnExactIsRigid", fn := fun _ => fun
  | [d] => { results := [.lit (.bool true)], args := [d] }
  | _ => none }
def fnExactIsRigidRow : OpenClaim := { program := "ytdnmmjaelgjkaaa", sum := "39d7e37130c3ef4b7542e10f929a4a361c74ffb2a24fed5d6b5d332e5c32bd81", func := "loop.example/g02078/laws.FnExactIsRigid", spec := "fnExactIsRigid", unfollowed := true, recurses := true, apart := false }
def FnExactIsRigidSaid : Prop := fnExactIsRigidRow.holds Try.pinned (OpenSpec.ofChange fnExactIsRigidSpec)

/-- ITS FALSE NEIGHBOUR: 'it returns false'. Refute it at one input. -/
def fnExactIsRigidWrong : ChangeSpec := { name := "fnExactIsRigid", fn := fun _ => fun
  | [d] => { results := [.lit (.bool false)], args := [d] }
  | _ => none }
def FnExactIsRigidWrongFalsely : Prop := fnExactIsRigidRow.holds Try.pinned (OpenSpec.ofChange fnExactIsRigidWrong)

/-- 'laws.FnExactIsMinimallyRigid': WHATEVER THE INPUT: true; the input reads as it did. -/
def fnExactIsMinimallyRigidSpec : ChangeSpec := { name := "fnExactIsMinimallyRigid", fn := fun _ => fun
  | [d] => { results := [.lit (.bool true)], args := [d] }
  | _ => none }
def fnExactIsMinimallyRigidRow : OpenClaim := { program := "ytdnmmjaelgjkaaa", sum := "39d7e37130c3ef4b7542e10f929a4a361c74ffb2a24fed5d6b5d332e5c32bd81", func := "loop.example/g02078/laws.FnExactIsMinimallyRigid", spec := "fnExactIsMinimallyRigid", unfollowed := true, recurses := true, apart := false }
def FnExactIsMinimallyRigidSaid : Prop := fnExactIsMinimallyRigidRow.holds Try.pinned (OpenSpec.ofChange fnExactIsMinimallyRigidSpec)

/-- ITS FALSE NEIGHBOUR: 'it returns false'. Refute it at one input. -/
def fnExactIsMinimallyRigidWrong : ChangeSpec := { name := "fnExactIsMinimallyRigid", fn := fun _ => fun
  | [d] => { results := [.lit (.bool false)], args := [d] }
  | _ => none }
def FnExactIsMinimallyRigidWrongFalsely : Prop := fnExactIsMinimallyRigidRow.holds Try.pinned (OpenSpec.ofChange fnExactIsMinimallyRigidWrong)

/-- 'laws.FnExactComponentsOf': WHATEVER THE INPUT: true; the input reads as it did. -/
def fnExactComponentsOfSpec : ChangeSpec := { name := "fnExactComponentsOf", fn := fun _ => fun
  | [d] => { results := [.lit (.bool true)], args := [d] }
  | _ => none }
def fnExactComponentsOfRow : OpenClaim := { program := "ytdnmmjaelgjkaaa", sum := "39d7e37130c3ef4b7542e10f929a4a361c74ffb2a24fed5d6b5d332e5c32bd81", func := "loop.example/g02078/laws.FnExactComponentsOf", spec := "fnExactComponentsOf", unfollowed := true, recurses := true, apart := false }
def FnExactComponentsOfSaid : Prop := fnExactComponentsOfRow.holds Try.pinned (OpenSpec.ofChange fnExactComponentsOfSpec)

/-- ITS FALSE NEIGHBOUR: 'it returns false'. Refute it at one input. -/
def fnExactComponentsOfWrong : ChangeSpec := { name := "fnExactComponentsOf", fn := fun _ => fun
  | [d] => { results := [.lit (.bool false)], args := [d] }
  | _ => none }
def FnExactComponentsOfWrongFalsely : Prop := fnExactComponentsOfRow.holds Try.pinned (OpenSpec.ofChange fnExactComponentsOfWrong)

/-- 'laws.FnExactComponentOfBar': WHATEVER THE INPUT: true; the input reads as it did. -/
def fnExactComponentOfBarSpec : ChangeSpec := { name := "fnExactComponentOfBar", fn := fun _ => fun
  | [d1, d2] => { results := [.lit (.bool true)], args := [d1, d2] }
  | _ => none }
def fnExactComponentOfBarRow : OpenClaim := { program := "ytdnmmjaelgjkaaa", sum := "39d7e37130c3ef4b7542e10f929a4a361c74ffb2a24fed5d6b5d332e5c32bd81", func := "loop.example/g02078/laws.FnExactComponentOfBar", spec := "fnExactComponentOfBar", unfollowed := true, recurses := true, apart := false }
def FnExactComponentOfBarSaid : Prop := fnExactComponentOfBarRow.holds Try.pinned (OpenSpec.ofChange fnExactComponentOfBarSpec)

/-- ITS FALSE NEIGHBOUR: 'it returns false'. Refute it at one input. -/
def fnExactComponentOfBarWrong : ChangeSpec := { name := "fnExactComponentOfBar", fn := fun _ => fun
  | [d1, d2] => { results := [.lit (.bool false)], args := [d1, d2] }
  | _ => none }
def FnExactComponentOfBarWrongFalsely : Prop := fnExactComponentOfBarRow.holds Try.pinned (OpenSpec.ofChange fnExactComponentOfBarWrong)

/-- 'laws.FnExactFreedomOf': WHATEVER THE INPUT: true; the input reads as it did. -/
def fnExactFreedomOfSpec : ChangeSpec := { name := "fnExactFreedomOf", fn := fun _ => fun
  | [d] => { results := [.lit (.bool true)], args := [d] }
  | _ => none }
def fnExactFreedomOfRow : OpenClaim := { program := "ytdnmmjaelgjkaaa", sum := "39d7e37130c3ef4b7542e10f929a4a361c74ffb2a24fed5d6b5d332e5c32bd81", func := "loop.example/g02078/laws.FnExactFreedomOf", spec := "fnExactFreedomOf", unfollowed := true, recurses := true, apart := false }
def FnExactFreedomOfSaid : Prop := fnExactFreedomOfRow.holds Try.pinned (OpenSpec.ofChange fnExactFreedomOfSpec)

/-- ITS FALSE NEIGHBOUR: 'it returns false'. Refute it at one input. -/
def fnExactFreedomOfWrong : ChangeSpec := { name := "fnExactFreedomOf", fn := fun _ => fun
  | [d] => { results := [.lit (.bool false)], args := [d] }
  | _ => none }
def FnExactFreedomOfWrongFalsely : Prop := fnExactFreedomOfRow.holds Try.pinned (OpenSpec.ofChange fnExactFreedomOfWrong)

/-- 'laws.FnExactCircuitOf': WHATEVER THE INPUT: true; the input reads as it did. -/
def fnExactCircuitOfSpec : ChangeSpec := { name := "fnExactCircuitOf", fn := fun _ => fun
  | [d1, d2, d3, d4] => { results := [.lit (.bool true)], args := [d1, d2, d3, d4] }
  | _ => none }
def fnExactCircuitOfRow : OpenClaim := { program := "ytdnmmjaelgjkaaa", sum := "39d7e37130c3ef4b7542e10f929a4a361c74ffb2a24fed5d6b5d332e5c32bd81", func := "loop.example/g02078/laws.FnExactCircuitOf", spec := "fnExactCircuitOf", unfollowed := true, recurses := true, apart := false }
def FnExactCircuitOfSaid : Prop := fnExactCircuitOfRow.holds Try.pinned (OpenSpec.ofChange fnExactCircuitOfSpec)

/-- ITS FALSE NEIGHBOUR: 'it returns false'. Refute it at one input. -/
def fnExactCircuitOfWrong : ChangeSpec := { name := "fnExactCircuitOf", fn := fun _ => fun
  | [d1, d2, d3, d4] => { results := [.lit (.bool false)], args := [d1, d2, d3, d4] }
  | _ => none }
def FnExactCircuitOfWrongFalsely : Prop := fnExactCircuitOfRow.holds Try.pinned (OpenSpec.ofChange fnExactCircuitOfWrong)

/-- 'laws.FnExactBridgesOf': WHATEVER THE INPUT: true; the input reads as it did. -/
def fnExactBridgesOfSpec : ChangeSpec := { name := "fnExactBridgesOf", fn := fun _ => fun
  | [d1, d2, d3] => { results := [.lit (.bool true)], args := [d1, d2, d3] }
  | _ => none }
def fnExactBridgesOfRow : OpenClaim := { program := "ytdnmmjaelgjkaaa", sum := "39d7e37130c3ef4b7542e10f929a4a361c74ffb2a24fed5d6b5d332e5c32bd81", func := "loop.example/g02078/laws.FnExactBridgesOf", spec := "fnExactBridgesOf", unfollowed := true, recurses := true, apart := false }
def FnExactBridgesOfSaid : Prop := fnExactBridgesOfRow.holds Try.pinned (OpenSpec.ofChange fnExactBridgesOfSpec)

/-- ITS FALSE NEIGHBOUR: 'it returns false'. Refute it at one input. -/
def fnExactBridgesOfWrong : ChangeSpec := { name := "fnExactBridgesOf", fn := fun _ => fun
  | [d1, d2, d3] => { results := [.lit (.bool false)], args := [d1, d2, d3] }
  | _ => none }
def FnExactBridgesOfWrongFalsely : Prop := fnExactBridgesOfRow.holds Try.pinned (OpenSpec.ofChange fnExactBridgesOfWrong)

/-- 'laws.FnMatroids': WHATEVER THE INPUT: true; the input reads as it did. -/
def fnMatroidsSpec : ChangeSpec := { name := "fnMatroids", fn := fun _ => fun
  | [d] => { results := [.lit (.bool true)], args := [d] }
  | _ => none }
def fnMatroidsRow : OpenClaim := { program := "ytdnmmjaelgjkaaa", sum := "39d7e37130c3ef4b7542e10f929a4a361c74ffb2a24fed5d6b5d332e5c32bd81", func := "loop.example/g02078/laws.FnMatroids", spec := "fnMatroids", unfollowed := true, recurses := true, apart := false }
def FnMatroidsSaid : Prop := fnMatroidsRow.holds Try.pinned (OpenSpec.ofChange fnMatroidsSpec)

/-- ITS FALSE NEIGHBOUR: 'it returns false'. Refute it at one input. -/
def fnMatroidsWrong : ChangeSpec := { name := "fnMatroids", fn := fun _ => fun
  | [d] => { results := [.lit (.bool false)], args := [d] }
  | _ => none }
def FnMatroidsWrongFalsely : Prop := fnMatroidsRow.holds Try.pinned (OpenSpec.ofChange fnMatroidsWrong)

/-- 'laws.FnPebbles': WHATEVER THE INPUT: true; the input reads as it did. -/
def fnPebblesSpec : ChangeSpec := { name := "fnPebbles", fn := fun _ => fun
  | [d] => { results := [.lit (.bool true)], args := [d] }
  | _ => none }
def fnPebblesRow : OpenClaim := { program := "ytdnmmjaelgjkaaa", sum := "39d7e37130c3ef4b7542e10f929a4a361c74ffb2a24fed5d6b5d332e5c32bd81", func := "loop.example/g02078/laws.FnPebbles", spec := "fnPebbles", unfollowed := true, recurses := true, apart := false }
def FnPebblesSaid : Prop := fnPebblesRow.holds Try.pinned (OpenSpec.ofChange fnPebblesSpec)

/-- ITS FALSE NEIGHBOUR: 'it returns false'. Refute it at one input. -/
def fnPebblesWrong : ChangeSpec := { name := "fnPebbles", fn := fun _ => fun
  | [d] => { results := [.lit (.bool false)], args := [d] }
  | _ => none }
def FnPebblesWrongFalsely : Prop := fnPebblesRow.holds Try.pinned (OpenSpec.ofChange fnPebblesWrong)

/- THE SECOND FORM. 'bulk': how many values and letters a reading holds, each counted each time it is reached (what is shared counts as often as it is met; a slice's spare places count too). A statement '..UptoSaid' is the law's where the arguments, and the package variables that the reading takes, are together of bulk at most 1048576: NARROWER than '..Said'. Prove '..Said' where nothing that the law and all that it calls make is longer than what came in: it says more and counts as full. Else prove '..UptoSaid'. A law counts once. -/
mutual
def uptoBulk {H : Type} : DataW H → Nat
  | .lit (.string bytes) => bytes.length + 1
  | .lit _ => 1
  | .nil => 1
  | .ptr d => uptoBulk d + 1
  | .slice elems spare => uptoBulkAll elems + uptoBulkAll spare + 1
  | .agg parts => uptoBulkAll parts + 1
  | .iface _ d => uptoBulk d + 1
  | .map entries => uptoBulkEntries entries + 1
  | .held _ => 1
def uptoBulkAll {H : Type} : List (DataW H) → Nat
  | [] => 0
  | d :: r => uptoBulk d + uptoBulkAll r
def uptoBulkEntries {H : Type} : List (Lit × DataW H) → Nat
  | [] => 0
  | x :: r => uptoBulkEntry x + uptoBulkEntries r
def uptoBulkEntry {H : Type} : Lit × DataW H → Nat
  | (.string bytes, d) => bytes.length + uptoBulk d + 1
  | (_, d) => uptoBulk d + 1
 end
def uptoSmall : (H : Type) → List (DataW H) → Bool := fun _ ds => decide (uptoBulkAll ds ≤ 1048576)
def OpenSpec.upto (s : _root_.Go.ChangeSpec) : _root_.Go.OpenSpec := { _root_.Go.OpenSpec.ofChange s with cond := some uptoSmall }

/-- 'laws.FnExactIsImplied', WHERE WHAT IT READS IS OF BULK AT MOST 1048576: true; the input reads as it did. -/
def fnExactIsImpliedUptoRow : OpenClaim := { program := "ytdnmmjaelgjkaaa", sum := "39d7e37130c3ef4b7542e10f929a4a361c74ffb2a24fed5d6b5d332e5c32bd81", func := "loop.example/g02078/laws.FnExactIsImplied", spec := "fnExactIsImplied", unfollowed := true, recurses := true, apart := false, narrowed := true }
def FnExactIsImpliedUptoSaid : Prop := fnExactIsImpliedUptoRow.holds Try.pinned (OpenSpec.upto fnExactIsImpliedSpec)

/-- 'laws.FnExactIsRigid', WHERE WHAT IT READS IS OF BULK AT MOST 1048576: true; the input reads as it did. -/
def fnExactIsRigidUptoRow : OpenClaim := { program := "ytdnmmjaelgjkaaa", sum := "39d7e37130c3ef4b7542e10f929a4a361c74ffb2a24fed5d6b5d332e5c32bd81", func := "loop.example/g02078/laws.FnExactIsRigid", spec := "fnExactIsRigid", unfollowed := true, recurses := true, apart := false, narrowed := true }
def FnExactIsRigidUptoSaid : Prop := fnExactIsRigidUptoRow.holds Try.pinned (OpenSpec.upto fnExactIsRigidSpec)

/-- 'laws.FnExactIsMinimallyRigid', WHERE WHAT IT READS IS OF BULK AT MOST 1048576: true; the input reads as it did. -/
def fnExactIsMinimallyRigidUptoRow : OpenClaim := { program := "ytdnmmjaelgjkaaa", sum := "39d7e37130c3ef4b7542e10f929a4a361c74ffb2a24fed5d6b5d332e5c32bd81", func := "loop.example/g02078/laws.FnExactIsMinimallyRigid", spec := "fnExactIsMinimallyRigid", unfollowed := true, recurses := true, apart := false, narrowed := true }
def FnExactIsMinimallyRigidUptoSaid : Prop := fnExactIsMinimallyRigidUptoRow.holds Try.pinned (OpenSpec.upto fnExactIsMinimallyRigidSpec)

/-- 'laws.FnExactComponentsOf', WHERE WHAT IT READS IS OF BULK AT MOST 1048576: true; the input reads as it did. -/
def fnExactComponentsOfUptoRow : OpenClaim := { program := "ytdnmmjaelgjkaaa", sum := "39d7e37130c3ef4b7542e10f929a4a361c74ffb2a24fed5d6b5d332e5c32bd81", func := "loop.example/g02078/laws.FnExactComponentsOf", spec := "fnExactComponentsOf", unfollowed := true, recurses := true, apart := false, narrowed := true }
def FnExactComponentsOfUptoSaid : Prop := fnExactComponentsOfUptoRow.holds Try.pinned (OpenSpec.upto fnExactComponentsOfSpec)

/-- 'laws.FnExactComponentOfBar', WHERE WHAT IT READS IS OF BULK AT MOST 1048576: true; the input reads as it did. -/
def fnExactComponentOfBarUptoRow : OpenClaim := { program := "ytdnmmjaelgjkaaa", sum := "39d7e37130c3ef4b7542e10f929a4a361c74ffb2a24fed5d6b5d332e5c32bd81", func := "loop.example/g02078/laws.FnExactComponentOfBar", spec := "fnExactComponentOfBar", unfollowed := true, recurses := true, apart := false, narrowed := true }
def FnExactComponentOfBarUptoSaid : Prop := fnExactComponentOfBarUptoRow.holds Try.pinned (OpenSpec.upto fnExactComponentOfBarSpec)

/-- 'laws.FnExactFreedomOf', WHERE WHAT IT READS IS OF BULK AT MOST 1048576: true; the input reads as it did. -/
def fnExactFreedomOfUptoRow : OpenClaim := { program := "ytdnmmjaelgjkaaa", sum := "39d7e37130c3ef4b7542e10f929a4a361c74ffb2a24fed5d6b5d332e5c32bd81", func := "loop.example/g02078/laws.FnExactFreedomOf", spec := "fnExactFreedomOf", unfollowed := true, recurses := true, apart := false, narrowed := true }
def FnExactFreedomOfUptoSaid : Prop := fnExactFreedomOfUptoRow.holds Try.pinned (OpenSpec.upto fnExactFreedomOfSpec)

/-- 'laws.FnExactCircuitOf', WHERE WHAT IT READS IS OF BULK AT MOST 1048576: true; the input reads as it did. -/
def fnExactCircuitOfUptoRow : OpenClaim := { program := "ytdnmmjaelgjkaaa", sum := "39d7e37130c3ef4b7542e10f929a4a361c74ffb2a24fed5d6b5d332e5c32bd81", func := "loop.example/g02078/laws.FnExactCircuitOf", spec := "fnExactCircuitOf", unfollowed := true, recurses := true, apart := false, narrowed := true }
def FnExactCircuitOfUptoSaid : Prop := fnExactCircuitOfUptoRow.holds Try.pinned (OpenSpec.upto fnExactCircuitOfSpec)

/-- 'laws.FnExactBridgesOf', WHERE WHAT IT READS IS OF BULK AT MOST 1048576: true; the input reads as it did. -/
def fnExactBridgesOfUptoRow : OpenClaim := { program := "ytdnmmjaelgjkaaa", sum := "39d7e37130c3ef4b7542e10f929a4a361c74ffb2a24fed5d6b5d332e5c32bd81", func := "loop.example/g02078/laws.FnExactBridgesOf", spec := "fnExactBridgesOf", unfollowed := true, recurses := true, apart := false, narrowed := true }
def FnExactBridgesOfUptoSaid : Prop := fnExactBridgesOfUptoRow.holds Try.pinned (OpenSpec.upto fnExactBridgesOfSpec)

/-- 'laws.FnMatroids', WHERE WHAT IT READS IS OF BULK AT MOST 1048576: true; the input reads as it did. -/
def fnMatroidsUptoRow : OpenClaim := { program := "ytdnmmjaelgjkaaa", sum := "39d7e37130c3ef4b7542e10f929a4a361c74ffb2a24fed5d6b5d332e5c32bd81", func := "loop.example/g02078/laws.FnMatroids", spec := "fnMatroids", unfollowed := true, recurses := true, apart := false, narrowed := true }
def FnMatroidsUptoSaid : Prop := fnMatroidsUptoRow.holds Try.pinned (OpenSpec.upto fnMatroidsSpec)

/-- 'laws.FnPebbles', WHERE WHAT IT READS IS OF BULK AT MOST 1048576: true; the input reads as it did. -/
def fnPebblesUptoRow : OpenClaim := { program := "ytdnmmjaelgjkaaa", sum := "39d7e37130c3ef4b7542e10f929a4a361c74ffb2a24fed5d6b5d332e5c32bd81", func := "loop.example/g02078/laws.FnPebbles", spec := "fnPebbles", unfollowed := true, recurses := true, apart := false, narrowed := true }
def FnPebblesUptoSaid : Prop := fnPebblesUptoRow.holds Try.pinned (OpenSpec.upto fnPebblesSpec)

end Rows
end Go.Proofs.Ytdnmmjaelgjkaaa
