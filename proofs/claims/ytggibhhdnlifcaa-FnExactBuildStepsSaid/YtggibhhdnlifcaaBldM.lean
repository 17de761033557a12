/- Building a graph by steps: mathematics of the list of bars after the first steps; a row of the call's own holds no more than it has room for. No condition. -/
import Derived.Test.YtggibhhdnlifcaaStepM
import Derived.Test.YtggibhhdnlifcaaState
import Derived.Test.YtggibhhdnlifcaaRemoveS
namespace Go.Proofs.Ytggibhhdnlifcaa
open Go.RowKit

theorem own_cap {W : World} {lo hi : Nat} {A : Option Addr} {cap : Nat} {l : List (Int × Int)} (h : OwnIn W lo hi A cap l) : l.length ≤ cap ∧ (0 < l.length → ∃ a, A = some a) := by
  rcases h.2 with h2 | ⟨g, e, _, _, ho⟩
  · subst h2; exact ⟨Nat.zero_le _, fun h => absurd h (by simp)⟩
  · refine ⟨?_, fun _ => ⟨_, e⟩⟩
    rcases ho.2 with ⟨h1, _⟩ | ⟨g', cap', cur, h1, _, _, h4, _⟩
    · cases h1
    · cases h1; exact h4
theorem OwnIn.widen {W : World} {lo lo' hi hi' : Nat} {A : Option Addr} {cap : Nat} {l : List (Int × Int)} (h : OwnIn W lo hi A cap l) (h1 : lo' ≤ lo) (h2 : hi ≤ hi') (h3 : hi' ≤ W.heap.size) : OwnIn W lo' hi' A cap l := by
  refine ⟨h3, ?_⟩
  rcases h.2 with e | ⟨g, e, k1, k2, ho⟩
  · exact .inl e
  · exact .inr ⟨g, e, Nat.le_trans h1 k1, Nat.lt_of_lt_of_le k2 h2, own_base ho h1⟩
/-- As GraphRB, and the row's room is told. -/
def GraphRC (w : World) (p : Int) (l : List (Int × Int)) (r : Bool) (e : Ending) (w' : World) : Prop :=
  ∃ A cap, e = .returned (.tuple #[.agg #[.int .i64 p, .slice A l.length cap], .bool r]) ∧ BarsAt w' w'.heap.size A l ∧ Below w.heap.size w w' ∧ l.length ≤ cap
theorem GraphRC.rb {w : World} {p : Int} {l : List (Int × Int)} {r : Bool} {e : Ending} {w' : World} (h : GraphRC w p l r e w') : GraphRB w p l r e w' := by
  obtain ⟨A, cap, h1, h2, h3, _⟩ := h
  exact ⟨A, cap, h1, h2, h3⟩
theorem cells5_new (w : World) (k p a c d : Int) (t : TypeId) : (w.alloc (.cells #[.int .i64 k, .int .i64 p, .int .i64 a, .int .i64 c, .int .i64 d] t)).cell? ⟨w.heap.size, 0, none⟩ = some (.int .i64 k) ∧ (w.alloc (.cells #[.int .i64 k, .int .i64 p, .int .i64 a, .int .i64 c, .int .i64 d] t)).cell? ⟨w.heap.size, 1, none⟩ = some (.int .i64 p) ∧ (w.alloc (.cells #[.int .i64 k, .int .i64 p, .int .i64 a, .int .i64 c, .int .i64 d] t)).cell? ⟨w.heap.size, 2, none⟩ = some (.int .i64 a) ∧ (w.alloc (.cells #[.int .i64 k, .int .i64 p, .int .i64 a, .int .i64 c, .int .i64 d] t)).cell? ⟨w.heap.size, 3, none⟩ = some (.int .i64 c) ∧ (w.alloc (.cells #[.int .i64 k, .int .i64 p, .int .i64 a, .int .i64 c, .int .i64 d] t)).cell? ⟨w.heap.size, 4, none⟩ = some (.int .i64 d) :=
  ⟨by rw [World.cell?_alloc_at _ _ _ _ rfl]; rfl, by rw [World.cell?_alloc_at _ _ _ _ rfl]; rfl, by rw [World.cell?_alloc_at _ _ _ _ rfl]; rfl, by rw [World.cell?_alloc_at _ _ _ _ rfl]; rfl, by rw [World.cell?_alloc_at _ _ _ _ rfl]; rfl⟩
/-- The bars after the first n steps. -/
noncomputable def bldL (p : Int) (l : List Stp) : Nat → List (Int × Int)
  | 0 => []
  | n + 1 => stepL p (bldL p l n) (l.getD n zS)
/-- The first n steps can be taken. -/
noncomputable def bldR (p : Int) (l : List Stp) : Nat → Bool
  | 0 => true
  | n + 1 => bldR p l n && stepR p (bldL p l n) (l.getD n zS)
theorem bldL_len (p : Int) (l : List Stp) (n : Nat) : (bldL p l n).length ≤ 1048576 := by
  induction n with
  | zero => simp [bldL]
  | succ n ih => rw [bldL]; exact stepL_len ih
theorem step_pos {p : Int} {l : List (Int × Int)} {s : Stp} (h : stepR p l s = true) : 0 < (stepL p l s).length := by
  rw [step_yes h]
  unfold stepF
  split
  · rw [joinL_len]; omega
  · split
    · rw [joinL_len]; omega
    · rw [joinL_len]; omega
theorem bldR_later {p : Int} {l : List Stp} {n : Nat} (h : bldR p l n = false) : ∀ m, n ≤ m → bldR p l m = false := by
  intro m
  induction m with
  | zero =>
    intro hm
    obtain rfl : n = 0 := by omega
    exact h
  | succ m ih =>
    intro hm
    by_cases e : n = m + 1
    · subst e; exact h
    · rw [bldR, ih (by omega)]; rfl
/-- The answer of BuildSteps. -/
noncomputable def bldB (p : Int) (l : List Stp) : Bool := isGB p [] && bldR p l l.length
noncomputable def bldP (p : Int) (l : List Stp) : Int := if bldB p l = true then p else 0
noncomputable def bldV (p : Int) (l : List Stp) : List (Int × Int) := if bldB p l = true then bldL p l l.length else []
theorem bld_false {p : Int} {l : List Stp} (h : bldB p l = false) : bldP p l = 0 ∧ bldV p l = [] := by
  unfold bldP bldV
  rw [h]
  exact ⟨rfl, rfl⟩
theorem bld_true {p : Int} {l : List Stp} (h : bldB p l = true) : bldP p l = p ∧ bldV p l = bldL p l l.length := by
  unfold bldP bldV
  rw [h]
  exact ⟨rfl, rfl⟩
theorem bld_no0 {p : Int} {l : List Stp} (h : isGB p [] = false) : bldB p l = false := by unfold bldB; rw [h]; rfl
theorem bld_no {p : Int} {l : List Stp} {k : Nat} (hk : k < l.length) (h : stepR p (bldL p l k) (l.getD k zS) = false) : bldB p l = false := by
  have h1 : bldR p l (k + 1) = false := by rw [bldR, h]; simp
  unfold bldB
  rw [bldR_later h1 l.length (by omega)]
  simp
theorem bld_yes {p : Int} {l : List Stp} (h0 : isGB p [] = true) (h : bldR p l l.length = true) : bldB p l = true := by unfold bldB; rw [h0, h]; rfl
end Go.Proofs.Ytggibhhdnlifcaa
