/- That the law FnExactFreePebbles returns true at every input and leaves its arguments as they were. No condition. -/
import Derived.Test.YtbmfdkaggbfmmaaRows
import Derived.Test.YtbmfdkaggbfmmaaFreePL
import Derived.Test.YtbmfdkaggbfmmaaPebA
import Derived.WalkKit
import Derived.ProofKit
import Derived.OpenShut
import Derived.ShutString
import Derived.ChangeOld
import Derived.Below
namespace Go.Proofs.Ytbmfdkaggbfmmaa.fnExactFreePebbles
open Go
open Go.ChangeShapes Go.WideShapes Go.ChangeAt Go.RowKit
open Go.ChangeMaps (open_string shut_string)
set_option linter.unusedVariables false

theorem own : ownKnob Try.prog.godebug = none := by kernel_rfl
theorem laidOut : laidOutB Try.prog = true := by kernel_rfl

theorem walk (AF0 : Option Addr) (cF0 : Nat) (F0 : List Int) (AT0 : Option Addr) (cT0 : Nat) (T0 : List Int) (AZ0 : Option Addr) (cZ0 : Nat) (Z0 : List Int) (w : World) (hp0 : F0.length ≤ maxLen ∧ T0.length ≤ maxLen ∧ Z0.length ≤ maxLen) (hq0 : Peb3 w 0 w.heap.size AF0 AT0 AZ0 F0 T0 Z0) (hv0 : WfI F0 ∧ WfI T0 ∧ WfI Z0) :
    Calls Try.prog 11 #[pebV AF0 F0.length cF0 AT0 T0.length cT0 AZ0 Z0.length cZ0] w fun e w' => e = .returned (.bool true) ∧ Below w.heap.size w w' :=
  lawFreePebbles AF0 cF0 F0 AT0 cT0 T0 AZ0 cZ0 Z0 w hp0 hq0 hv0

set_option maxRecDepth 100000 in
theorem lifted (os : Os) (started : os.Started) (H : Type) (enc : TypeId × Value → H) :
    ReturnsInHanded {} Try.checked os 11 .any (Rows.fnExactFreePebblesSpec.pre6 enc Try.prog Try.f11 Rows.fnExactFreePebblesRow.domain false) (Rows.fnExactFreePebblesSpec.post enc Try.prog Try.f11 false true false false) := by
  refine returnsInHanded_of_change (C := Try.checked) own started (by kernel_rfl) Try.func11
    (ChangeSpec.witness6 (enc := enc) (C := Try.checked) false ⟨#[], #[.agg #[.slice none 0 0, .slice none 0 0, .slice none 0 0]], []⟩ 8 (by kernel_rfl) (by kernel_rfl) (by kernel_rfl) (by kernel_rfl)) ?_
  intro W base args ds gs before hval0 hW hcnd _
  have hval : ∀ (j : Nat) t v, Try.f11.params[j]? = some t → args[j]? = some v → Value.okWide Try.prog W .any base t v := hval0
  have hW' := hW
  obtain ⟨p, q, hA0, hV, rfl, hfz, hnd⟩ := hW
  have hA : DataW.TrodAll enc Try.prog W 0 (fun _ => true) true Try.f11.params.toList args.toList ds p := hA0
  rw [Try.params11] at hA hval
  obtain ⟨v0, vs0, d0, ds0, p0, q0', hargs, rfl, rfl, h0, r0⟩ := trodAll_cons hA
  obtain ⟨rfl, rfl, rfl⟩ := trodAll_nil r0
  obtain rfl : args = #[v0] := by cases args; simp_all
  obtain ⟨rfl, rfl⟩ := trodVars_none hV
  have k0 := h0
  have lt0 : ∀ x ∈ p0, x.block < W.heap.size := by obtain ⟨m, hm⟩ := k0; exact DataW.trod_lt m _ _ _ hm
  obtain ⟨AF0, cF0, F0, AT0, cT0, T0, AZ0, cZ0, Z0, rfl, hp0, hq0, hv0⟩ := open_peb (hval 0 61 v0 rfl rfl) h0
  clear hA0 hval0
  refine (walk AF0 cF0 F0 AT0 cT0 T0 AZ0 cZ0 Z0 W hp0 hq0 hv0).mono fun e W' ⟨he, bel⟩ => ?_
  subst he
  exact ⟨_, rfl, _, _, _, [], _, [], hW', trodAll_mk1 (shut_bool Try.underlying4 _), (trodAll_cons_mk (Below.trod laidOut (by kernel_rfl) (of_decide_eq_true (by kernel_rfl)) k0 bel lt0) trodAll_mk0), rfl, bel.frame _, fun h => by cases h⟩

theorem over : Rows.fnExactFreePebblesRow.holds Try.pinned (OpenSpec.ofChange Rows.fnExactFreePebblesSpec) :=
  OpenClaim.holds_of_wide 11 Try.f11 rfl rfl rfl rfl rfl rfl rfl ⟨rfl, rfl, rfl, rfl, rfl⟩ rfl rfl rfl rfl rfl (by kernel_rfl) Try.func11 (by kernel_rfl)
    (of_decide_eq_true (by kernel_rfl)) (by unfold Func.isWrapper; first | (rw [if_pos (by decide +kernel)]; kernel_rfl) | (rw [if_neg (by decide +kernel)]; exact ⟨rfl, rfl⟩))
    (fun os started H enc _ => lifted os started H enc)

theorem proved : Rows.FnExactFreePebblesSaid := over
end Go.Proofs.Ytbmfdkaggbfmmaa.fnExactFreePebbles
