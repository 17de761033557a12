/- That the law FnExactIsGenericHere returns true at every input and leaves its arguments as they were. No condition. -/
import Derived.Test.YtdkpmaahinbhlaaPk6
import Derived.Test.YtdkpmaahinbhlaaRows
import Derived.WalkKit
import Derived.ProofKit
import Derived.OpenShut
import Derived.ShutString
import Derived.ChangeOld
import Derived.Below
namespace Go.Proofs.Ytdkpmaahinbhlaa.fnExactIsGenericHere
open Go
open Go.ChangeShapes Go.WideShapes Go.ChangeAt Go.RowKit
open Go.ChangeMaps (open_string shut_string)
set_option linter.unusedVariables false

theorem own : ownKnob Try.prog.godebug = none := by kernel_rfl
theorem laidOut : laidOutB Try.prog = true := by kernel_rfl

theorem walk (q0 : Int) (A0 : Option Addr) (ca0 : Nat) (l0 : List (Int × Int)) (B0 : Option Addr) (cb0 : Nat) (m0 : List (Int × Int)) (w : World) (hl0 : l0.length ≤ maxLen ∧ m0.length ≤ maxLen) (hb0 : BarsAt w w.heap.size A0 l0) (hc0 : BarsAt w w.heap.size B0 m0) :
    Calls Try.prog 12 #[.agg #[.int .i64 q0, .slice A0 l0.length ca0, .slice B0 m0.length cb0]] w fun e w' => e = .returned (.bool true) ∧ Below w.heap.size w w' :=
  lawIsGenericHere q0 A0 ca0 l0 B0 cb0 m0 w hl0 hb0 hc0

set_option maxRecDepth 100000 in
theorem lifted (os : Os) (started : os.Started) (H : Type) (enc : TypeId × Value → H) :
    ReturnsInHanded {} Try.checked os 12 .any (Rows.fnExactIsGenericHereSpec.pre6 enc Try.prog Try.f12 Rows.fnExactIsGenericHereRow.domain false) (Rows.fnExactIsGenericHereSpec.post enc Try.prog Try.f12 false true false false) := by
  refine returnsInHanded_of_change (C := Try.checked) own started (by kernel_rfl) Try.func12
    (ChangeSpec.witness6 (enc := enc) (C := Try.checked) false ⟨#[], #[.agg #[.int .i64 0, .slice none 0 0, .slice none 0 0]], []⟩ 8 (by kernel_rfl) (by kernel_rfl) (by kernel_rfl) (by kernel_rfl)) ?_
  intro W base args ds gs before hval0 hW hcnd _
  have hval : ∀ (j : Nat) t v, Try.f12.params[j]? = some t → args[j]? = some v → Value.okWide Try.prog W .any base t v := hval0
  have hW' := hW
  obtain ⟨p, q, hA0, hV, rfl, hfz, hnd⟩ := hW
  have hA : DataW.TrodAll enc Try.prog W 0 (fun _ => true) true Try.f12.params.toList args.toList ds p := hA0
  rw [Try.params12] at hA hval
  obtain ⟨v0, vs0, d0, ds0, p0, q0', hargs, rfl, rfl, h0, r0⟩ := trodAll_cons hA
  obtain ⟨rfl, rfl, rfl⟩ := trodAll_nil r0
  obtain rfl : args = #[v0] := by cases args; simp_all
  obtain ⟨rfl, rfl⟩ := trodVars_none hV
  have k0 := h0
  have lt0 : ∀ x ∈ p0, x.block < W.heap.size := by obtain ⟨m, hm⟩ := k0; exact DataW.trod_lt m _ _ _ hm
  obtain ⟨q0, A0, ca0, l0, B0, cb0, m0, rfl, hl0, hb0, hc0⟩ := open_fw (hval 0 92 v0 rfl rfl) h0
  clear hA0 hval0
  refine (walk q0 A0 ca0 l0 B0 cb0 m0 W hl0 hb0 hc0).mono fun e W' ⟨he, bel⟩ => ?_
  subst he
  exact ⟨_, rfl, _, _, _, [], _, [], hW', trodAll_mk1 (shut_bool Try.underlying4 _), (trodAll_cons_mk (Below.trod laidOut (by kernel_rfl) (of_decide_eq_true (by kernel_rfl)) k0 bel lt0) trodAll_mk0), rfl, bel.frame _, fun h => by cases h⟩

theorem named : Try.pinned.checked.prog.funcNamed Rows.fnExactIsGenericHereRow.func = some 12 := by kernel_rfl
theorem facts : joinedFacts Try.pinned.checked.prog 12 Try.f12 Rows.fnExactIsGenericHereSpec Rows.fnExactIsGenericHereRow = true := by kernel_rfl

theorem over : Rows.fnExactIsGenericHereRow.holds Try.pinned (OpenSpec.ofChange Rows.fnExactIsGenericHereSpec) :=
  OpenClaim.holds_of_wide 12 Try.f12 rfl rfl rfl rfl rfl rfl rfl ⟨rfl, rfl, rfl, rfl, rfl⟩ rfl rfl rfl rfl rfl named Try.func12 facts
    (of_decide_eq_true (by kernel_rfl)) (by unfold Func.isWrapper; first | (rw [if_pos (by decide +kernel)]; kernel_rfl) | (rw [if_neg (by decide +kernel)]; exact ⟨rfl, rfl⟩))
    (fun os started H enc _ => lifted os started H enc)

theorem proved : Rows.FnExactIsGenericHereSaid := over
end Go.Proofs.Ytdkpmaahinbhlaa.fnExactIsGenericHere
