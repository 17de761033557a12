/- Rows of texts of the call's own; texts put together with a separator. No condition. -/
import Derived.Test.YtehendofgcebcaaDoorWords
import Derived.Lib.Join
namespace Go.Proofs.YtehendofgcebcaaDoor
open Go.RowKit

theorem infoStr : (Tryd.prog.info? 9).map (fun i => (i.zero, i.size, i.bytes)) = some (some (.string ⟨#[]⟩), 1, 16) := by kernel_rfl
def strVals (ps : List ByteArray) : List Value := ps.map .string
/-- A row of texts of the call's own. -/
def OwnStrs (W : World) (base : Nat) (v : Value) (ps : List ByteArray) : Prop := W.ownsRow base 9 1 v ps.length (strVals ps)
theorem OwnStrs.put {W : World} {base : Nat} {v : Value} {ps : List ByteArray} {x : ByteArray} (h : W.ownsRow base 9 1 v (ps.length + 1) (strVals ps ++ [.string x])) : OwnStrs W base v (ps ++ [x]) := by
  unfold OwnStrs
  have e : strVals (ps ++ [x]) = strVals ps ++ [.string x] := by simp [strVals]
  rw [e, List.length_append]
  exact h
theorem strs_shape {w : World} {base : Nat} {v : Value} {ps : List ByteArray} (h : OwnStrs w base v ps) : ∃ A c, v = .slice A ps.length c := by
  rcases h.2 with ⟨rfl, h0⟩ | ⟨g, c, _, rfl, _⟩
  · exact ⟨none, 0, by rw [h0]⟩
  · exact ⟨_, c, rfl⟩
theorem strs_cells {w : World} {base : Nat} {bk c : Nat} {ps : List ByteArray} (h : OwnStrs w base (.slice (some ⟨bk, 0, none⟩) ps.length c) ps) : ∀ (j : Nat) x, ps[j]? = some x → w.cell? ⟨bk, 0 + j, none⟩ = some (.string x) := fun j x hj => by
  have hlt : j < ps.length := by
    rcases Nat.lt_or_ge j ps.length with h' | h'
    · exact h'
    · rw [List.getElem?_eq_none h'] at hj; cases hj
  have hc := World.ownsRow.cellAt h j (by omega)
  rw [Nat.zero_add, hc]
  simp [strVals, hj]
theorem strs_caps {w : World} {base : Nat} {bk c : Nat} {ps : List ByteArray} (h : OwnStrs w base (.slice (some ⟨bk, 0, none⟩) ps.length c) ps) : bk < w.heap.size ∧ ps.length ≤ c := by
  refine ⟨(World.ownsRow.lt h bk rfl).2, ?_⟩
  rcases h.2 with ⟨h1, _⟩ | ⟨g, c', cur, h1, h2, h3, h4⟩
  · cases h1
  · cases h1
    have := h4
    omega
theorem join_snoc (xs : List (List UInt8)) (y sep : List UInt8) (h : xs ≠ []) : Lib.join (xs ++ [y]) sep = Lib.join xs sep ++ (sep ++ y) := by
  cases xs with
  | nil => exact absurd rfl h
  | cons x r =>
    rw [List.cons_append, Lib.join_cons, Lib.join_cons]
    simp [Lib.joinTail]
/-- The first n texts, with the separator between them. -/
def accS (sep : ByteArray) (f : Nat → ByteArray) : Nat → ByteArray
  | 0 => ⟨#[]⟩
  | k + 1 => (if 0 < k then accS sep f k ++ sep else accS sep f k) ++ f k
def partsS (f : Nat → ByteArray) (n : Nat) : List ByteArray := (List.range n).map f
theorem parts_snoc (f : Nat → ByteArray) (n : Nat) : partsS f (n + 1) = partsS f n ++ [f n] := by simp [partsS, List.range_succ]
theorem parts_len (f : Nat → ByteArray) (n : Nat) : (partsS f n).length = n := by simp [partsS]
theorem bytes_eq {a b : ByteArray} (h : a.data.toList = b.data.toList) : a = b := by
  cases a; cases b
  congr
  exact Array.toList_inj.1 h
theorem bytes_app (a b : ByteArray) : (a ++ b).data.toList = a.data.toList ++ b.data.toList := by simp
theorem acc_join (sep : ByteArray) (f : Nat → ByteArray) (n : Nat) : accS sep f n = ⟨(Lib.join ((partsS f n).map (·.data.toList)) sep.data.toList).toArray⟩ := by
  induction n with
  | zero => rfl
  | succ n ih =>
    apply bytes_eq
    rw [accS, parts_snoc, List.map_append, List.map_cons, List.map_nil]
    by_cases h : 0 < n
    · rw [if_pos h, join_snoc _ _ _ (by intro e; have := congrArg List.length e; simp [parts_len] at this; omega), bytes_app, bytes_app, ih]
      exact List.append_assoc _ _ _
    · obtain rfl : n = 0 := by omega
      rw [if_neg (by omega)]
      simp [accS, partsS, Lib.join_one]
theorem acc_size (sep : ByteArray) (f : Nat → ByteArray) (m n : Nat) (h : ∀ k, k < n → (f k).size ≤ m) : (accS sep f n).size ≤ n * (m + sep.size) := by
  induction n with
  | zero => rw [Nat.zero_mul]; exact Nat.le_refl 0
  | succ n ih =>
    have h1 := ih fun k hk => h k (by omega)
    have h2 := h n (by omega)
    rw [accS, ByteArray.size_append]
    have : (if 0 < n then accS sep f n ++ sep else accS sep f n).size ≤ (accS sep f n).size + sep.size := by
      split
      · rw [ByteArray.size_append]; omega
      · omega
    rw [Nat.add_mul]
    omega
theorem acc_len (sep : ByteArray) (f : Nat → ByteArray) (n : Nat) : (Lib.join ((partsS f n).map (·.data.toList)) sep.data.toList).length = (accS sep f n).size := by
  rw [acc_join]
  rfl
theorem acc_first (sep : ByteArray) (f : Nat → ByteArray) : accS sep f 1 = f 0 := by
  apply bytes_eq
  simp [accS]
theorem acc_more (sep : ByteArray) (f : Nat → ByteArray) (k : Nat) (h : 0 < k) : accS sep f (k + 1) = (accS sep f k ++ sep) ++ f k := by rw [accS, if_pos h]
end Go.Proofs.YtehendofgcebcaaDoor
