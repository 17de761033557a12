/- That the law FnExactArePackedTrees returns true at every input and leaves its arguments as they were. No condition. -/
import Derived.Test.YtedjhnedkghhoaaPkA
import Derived.Test.YtedjhnedkghhoaaRows
import Derived.WalkKit
import Derived.ProofKit
import Derived.OpenShut
import Derived.ShutString
import Derived.ChangeOld
import Derived.Below
namespace Go.Proofs.Ytedjhnedkghhoaa.fnExactArePackedTrees
open Go
open Go.ChangeShapes Go.WideShapes Go.ChangeAt Go.RowKit
open Go.ChangeMaps (open_string shut_string)
set_option linter.unusedVariables false

theorem own : ownKnob Try.prog.godebug = none := by kernel_rfl
theorem laidOut : laidOutB Try.prog = true := by kernel_rfl

theorem walk (q0 : Int) (A0 : Option Addr) (cap0 : Nat) (l0 : List (Int × Int)) (a1 : Int) (a2 : Option Addr) (cap2 : Nat) (r2' : List (List Int)) (w : World) (hl0 : l0.length ≤ maxLen) (hb0 : BarsAt w w.heap.size A0 l0) (w1 : (Lit.int .i64 a1).wf = true) (hl2 : r2'.length ≤ maxLen) (hs2 : RowsD w 0 w.heap.size a2 r2') (hw2 : ∀ k, k < r2'.length → (r2'.getD k []).length ≤ maxLen ∧ WfZ (r2'.getD k [])) :
    Calls Try.prog 6 #[.agg #[.int .i64 q0, .slice A0 l0.length cap0], .int .i64 a1, .slice a2 r2'.length cap2] w fun e w' => e = .returned (.bool true) ∧ Below w.heap.size w w' :=
  lawArePackedTrees q0 A0 cap0 l0 a1 a2 cap2 r2' w hl0 hb0 w1 hl2 hs2 hw2

set_option maxRecDepth 100000 in
theorem lifted (os : Os) (started : os.Started) (H : Type) (enc : TypeId × Value → H) :
    ReturnsInHanded {} Try.checked os 6 .any (Rows.fnExactArePackedTreesSpec.pre6 enc Try.prog Try.f6 Rows.fnExactArePackedTreesRow.domain false) (Rows.fnExactArePackedTreesSpec.post enc Try.prog Try.f6 false true false false) := by
  refine returnsInHanded_of_change (C := Try.checked) own started (by kernel_rfl) Try.func6
    (ChangeSpec.witness6 (enc := enc) (C := Try.checked) false ⟨#[], #[.agg #[.int .i64 0, .slice none 0 0], .int .i64 0, .slice none 0 0], []⟩ 8 (by kernel_rfl) (by kernel_rfl) (by kernel_rfl) (by kernel_rfl)) ?_
  intro W base args ds gs before hval0 hW hcnd _
  have hval : ∀ (j : Nat) t v, Try.f6.params[j]? = some t → args[j]? = some v → Value.okWide Try.prog W .any base t v := hval0
  have hW' := hW
  obtain ⟨p, q, hA0, hV, rfl, hfz, hnd⟩ := hW
  have hA : DataW.TrodAll enc Try.prog W 0 (fun _ => true) true Try.f6.params.toList args.toList ds p := hA0
  rw [Try.params6] at hA hval
  obtain ⟨v0, vs0, d0, ds0, p0, q0', hargs, rfl, rfl, h0, r0⟩ := trodAll_cons hA
  obtain ⟨v1, vs1, d1, ds1, p1, q1', rfl, rfl, rfl, h1, r1⟩ := trodAll_cons r0
  obtain ⟨v2, vs2, d2, ds2, p2, q2', rfl, rfl, rfl, h2, r2⟩ := trodAll_cons r1
  obtain ⟨rfl, rfl, rfl⟩ := trodAll_nil r2
  obtain rfl : args = #[v0, v1, v2] := by cases args; simp_all
  obtain ⟨rfl, rfl⟩ := trodVars_none hV
  have k0 := h0
  have lt0 : ∀ x ∈ p0, x.block < W.heap.size := by obtain ⟨m, hm⟩ := k0; exact DataW.trod_lt m _ _ _ hm
  obtain ⟨q0, A0, cap0, l0, rfl, hl0, hb0⟩ := open_graph (hval 0 24 v0 rfl rfl) h0
  obtain ⟨a1, rfl, rfl, rfl, w1⟩ := open_int Try.underlying3 (hval 1 3 v1 rfl rfl) h1
  have k2 := h2
  have lt2 : ∀ x ∈ p2, x.block < W.heap.size := by obtain ⟨m, hm⟩ := k2; exact DataW.trod_lt m _ _ _ hm
  obtain ⟨a2, len2, cap2, rfl⟩ := okWide_slice Try.underlying36 (hval 2 36 v2 rfl rfl)
  obtain ⟨r2', rfl, hl2, hs2, hw2⟩ : ∃ l : List (List Int), len2 = l.length ∧ l.length ≤ maxLen ∧ RowsD W 0 W.heap.size a2 l ∧ ∀ k, k < l.length → (l.getD k []).length ≤ maxLen ∧ WfZ (l.getD k []) := by
    obtain ⟨fuel, hf⟩ := h2
    obtain ⟨A', c', l', e, h1, h2, h3⟩ := open_rows hf
    cases e
    exact ⟨l', rfl, h1, h2, h3⟩
  clear hA0 hval0
  refine (walk q0 A0 cap0 l0 a1 a2 cap2 r2' W hl0 hb0 w1 hl2 hs2 hw2).mono fun e W' ⟨he, bel⟩ => ?_
  subst he
  exact ⟨_, rfl, _, _, _, [], _, [], hW', trodAll_mk1 (shut_bool Try.underlying4 _), (trodAll_cons_mk (Below.trod laidOut (by kernel_rfl) (of_decide_eq_true (by kernel_rfl)) k0 bel lt0) (trodAll_cons_mk (shut_int Try.underlying3 w1) (trodAll_cons_mk (Below.trod laidOut (by kernel_rfl) (of_decide_eq_true (by kernel_rfl)) k2 bel lt2) trodAll_mk0))), rfl, bel.frame _, fun h => by cases h⟩

theorem over : Rows.fnExactArePackedTreesRow.holds Try.pinned (OpenSpec.ofChange Rows.fnExactArePackedTreesSpec) :=
  OpenClaim.holds_of_wide 6 Try.f6 rfl rfl rfl rfl rfl rfl rfl ⟨rfl, rfl, rfl, rfl, rfl⟩ rfl rfl rfl rfl rfl (by kernel_rfl) Try.func6 (by kernel_rfl)
    (of_decide_eq_true (by kernel_rfl)) (by unfold Func.isWrapper; first | (rw [if_pos (by decide +kernel)]; kernel_rfl) | (rw [if_neg (by decide +kernel)]; exact ⟨rfl, rfl⟩))
    (fun os started H enc _ => lifted os started H enc)

theorem proved : Rows.FnExactArePackedTreesSaid := over
end Go.Proofs.Ytedjhnedkghhoaa.fnExactArePackedTrees
