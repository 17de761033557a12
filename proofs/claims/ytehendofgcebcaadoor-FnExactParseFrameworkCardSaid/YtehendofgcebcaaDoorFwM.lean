/- The mathematics of a framework: which are valid, the squares of the lengths, mirror images and turns. No condition. -/
import Derived.Test.YtehendofgcebcaaDoorIsGraphI
import Derived.Test.YtehendofgcebcaaDoorGMath
namespace Go.Proofs.YtehendofgcebcaaDoor
open Go.RowKit

/-- A place of the grid. -/
def OnG (x : Int × Int) : Prop := (0 ≤ x.1 ∧ x.1 ≤ 4) ∧ 0 ≤ x.2 ∧ x.2 ≤ 4
instance (x : Int × Int) : Decidable (OnG x) := by unfold OnG; exact inferInstance
/-- The place of a joint. -/
def plc (m : List (Int × Int)) (v : Int) : Int × Int := m.getD v.toNat (0, 0)
/-- The bar at place i has a length, and is no second one of its kind. -/
def OkF (l m : List (Int × Int)) (i : Nat) : Prop :=
  plc m (l.getD i (0, 0)).1 ≠ plc m (l.getD i (0, 0)).2 ∧ (0 < i → l.getD (i - 1) (0, 0) ≠ l.getD i (0, 0))
/-- A framework. -/
structure IsF (p : Int) (l m : List (Int × Int)) : Prop where
  g : IsG p l
  six : p ≤ 6
  len : (m.length : Int) = p
  bars : l.length ≤ 15
  grid : ∀ i, i < m.length → OnG (m.getD i (0, 0))
  ok : ∀ i, i < l.length → OkF l m i
open Classical in
noncomputable def isFB (p : Int) (l m : List (Int × Int)) : Bool := if IsF p l m then true else false
theorem isFB_yes {p : Int} {l m : List (Int × Int)} (h : IsF p l m) : isFB p l m = true := by unfold isFB; rw [if_pos h]
theorem isFB_no {p : Int} {l m : List (Int × Int)} (h : ¬ IsF p l m) : isFB p l m = false := by unfold isFB; rw [if_neg h]
theorem isFB_iff {p : Int} {l m : List (Int × Int)} : isFB p l m = true ↔ IsF p l m := by
  constructor
  · intro h
    exact Classical.byContradiction fun hn => by rw [isFB_no hn] at h; cases h
  · exact isFB_yes
theorem IsF.ends {p : Int} {l m : List (Int × Int)} (h : IsF p l m) {i : Nat} (hi : i < l.length) :
    0 ≤ (l.getD i (0, 0)).1 ∧ (l.getD i (0, 0)).1 < (l.getD i (0, 0)).2 ∧ (l.getD i (0, 0)).2 < p := ⟨(h.g.2.2 i hi).1, (h.g.2.2 i hi).2.1, (h.g.2.2 i hi).2.2.1⟩
theorem IsF.on {p : Int} {l m : List (Int × Int)} (h : IsF p l m) {v : Int} (h0 : 0 ≤ v) (h1 : v < p) : OnG (plc m v) := h.grid _ (by have := h.len; omega)
/-- The square of the distance of two places. -/
def sqD (a b : Int × Int) : Int := (a.1 - b.1) * (a.1 - b.1) + (a.2 - b.2) * (a.2 - b.2)
def sqB (m : List (Int × Int)) (x : Int × Int) : Int := sqD (plc m x.1) (plc m x.2)
/-- What SquareLengths answers. -/
noncomputable def sqL (p : Int) (l m : List (Int × Int)) : List Int := if isFB p l m = true then l.map (sqB m) else []
theorem sqL_yes {p : Int} {l m : List (Int × Int)} (h : isFB p l m = true) : sqL p l m = l.map (sqB m) := by unfold sqL; rw [if_pos h]
theorem sqL_no {p : Int} {l m : List (Int × Int)} (h : isFB p l m = false) : sqL p l m = [] := by unfold sqL; rw [if_neg (by rw [h]; simp)]
theorem sqL_len (p : Int) (l m : List (Int × Int)) : (sqL p l m).length ≤ 15 := by
  by_cases h : isFB p l m = true
  · rw [sqL_yes h, List.length_map]
    exact (isFB_iff.1 h).bars
  · rw [sqL_no (by simpa using h)]
    simp
/-- A framework's places after a change of each. -/
noncomputable def chgL (f : Int × Int → Int × Int) (p : Int) (l m : List (Int × Int)) : List (Int × Int) := if isFB p l m = true then m.map f else m
theorem chgL_yes {f : Int × Int → Int × Int} {p : Int} {l m : List (Int × Int)} (h : isFB p l m = true) : chgL f p l m = m.map f := by unfold chgL; rw [if_pos h]
theorem chgL_no {f : Int × Int → Int × Int} {p : Int} {l m : List (Int × Int)} (h : isFB p l m = false) : chgL f p l m = m := by unfold chgL; rw [if_neg (by rw [h]; simp)]
theorem chgL_len (f : Int × Int → Int × Int) (p : Int) (l m : List (Int × Int)) : (chgL f p l m).length = m.length := by
  unfold chgL
  split <;> simp
def mirF (x : Int × Int) : Int × Int := (4 - x.1, x.2)
def turF (x : Int × Int) : Int × Int := (4 - x.2, x.1)
/-- The places of which the first k are changed. -/
theorem chg_step (f : Int × Int → Int × Int) (m : List (Int × Int)) (k : Nat) (h : k < m.length) :
    ((m.take k).map f ++ m.drop k).set k (f (m.getD k (0, 0))) = (m.take (k + 1)).map f ++ m.drop (k + 1) := by
  have hl : ((m.take k).map f).length = k := by simp; omega
  have e : m.getD k (0, 0) = m[k] := by simp [List.getD, List.getElem?_eq_getElem h]
  rw [e, List.set_append_right _ _ (by omega), hl, Nat.sub_self, List.drop_eq_getElem_cons h, List.set_cons_zero, List.take_succ_eq_append_getElem h, List.map_append, List.append_assoc]
  rfl
theorem chg_get (f : Int × Int → Int × Int) (m : List (Int × Int)) (k : Nat) (h : k < m.length) : ((m.take k).map f ++ m.drop k).getD k (0, 0) = m.getD k (0, 0) := by
  have hl : ((m.take k).map f).length = k := by simp; omega
  rw [List.getD_eq_getElem?_getD, List.getElem?_append_right (by omega), hl, Nat.sub_self, List.getElem?_drop, Nat.add_zero, ← List.getD_eq_getElem?_getD]
/-- What MoveJoint answers. -/
noncomputable def movB (p : Int) (l m : List (Int × Int)) (v : Int) (x : Int × Int) : Bool := if isFB p l m = true ∧ 0 ≤ v ∧ v < p then isFB p l (m.set v.toNat x) else false
noncomputable def movL (p : Int) (l m : List (Int × Int)) (v : Int) (x : Int × Int) : List (Int × Int) := if movB p l m v x = true then m.set v.toNat x else m
theorem movL_len (p : Int) (l m : List (Int × Int)) (v : Int) (x : Int × Int) : (movL p l m v x).length = m.length := by
  unfold movL
  split <;> simp
/-- Three places on a line. -/
def colB (a b c : Int × Int) : Bool := decide (OnG a) && (decide (OnG b) && (decide (OnG c) && decide ((b.1 - a.1) * (c.2 - a.2) = (b.2 - a.2) * (c.1 - a.1))))
/-- Equal lengths. -/
noncomputable def sameF (p : Int) (l m : List (Int × Int)) (q : Int) (l' m' : List (Int × Int)) : Bool :=
  isFB p l m && (isFB q l' m' && (decide (p = q ∧ l = l') && decide (sqL p l m = sqL q l' m')))
end Go.Proofs.YtehendofgcebcaaDoor
