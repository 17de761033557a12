/- One number appended onto a row of ints of the call's own; what stands beside it in a walk over a framework. No condition. -/
import Derived.Test.YtehendofgcebcaaIntsO
import Derived.Test.YtehendofgcebcaaFw
import Derived.Test.YtehendofgcebcaaFwM
namespace Go.Proofs.Ytehendofgcebcaa
open Go.RowKit

theorem within_grown {w w' : World} {A : Option Addr} {n cap base size : Nat} {e : TypeId} {m : Nat} {xs : List Value} (hown : w.ownsRow base e size (.slice A n cap) m xs) (hg : w.grownBy w' (Value.slice A n cap).ownBlock) : Within base w.heap.size w w' :=
  ⟨hg.os, hg.tape, hg.output, hg.size, fun k hk hd => hg.block k hk fun e => by
    rcases hown.2 with ⟨h1, _⟩ | ⟨g, c, cur, h1, _⟩
    · rw [h1] at e; cases e
    · rw [h1] at e
      have hlt := hown.lt g (by rw [h1]; rfl)
      have : k = g := by simpa [Value.ownBlock] using e
      omega⟩

/-- One number behind a row of the call's own. -/
theorem wpList_int (w : World) {ops : Array Oper} {rest : List Oper} {o : Oper} {a : Act} {Q : Exit → Act → World → Prop} (hgd : o.guard = none) (s x : Operand)
    (ho : o.op = .call { callee := .builtin .append, args := #[s, x], argTypes := #[30, 30] }) (base : Nat) (A : Option Addr) (cap : Nat) (zs : List Int) (y : Int) (hs : a.eval s = .slice A zs.length cap) (hown : w.ownsRow base 3 1 (.slice A zs.length cap) zs.length (intCells zs))
    (tb : TypeId) (hx : a.eval x = .slice (some ⟨w.heap.size, 0, none⟩) 1 1) (hn : zs.length ≤ 1048576) (hb : base ≤ w.heap.size)
    (h : ∀ A' c' w', w'.ownsRow base 3 1 (.slice A' (zs ++ [y]).length c') (zs ++ [y]).length (intCells (zs ++ [y])) → Within base w.heap.size w w' → wpList Try.prog ops Q rest (a.put o.dst (.slice A' (zs ++ [y]).length c')) w') : wpList Try.prog ops Q (o :: rest) a (w.alloc (.cells #[.int .i64 y] tb)) := by
  have hlen : (zs ++ [y]).length = zs.length + 1 := by simp
  have hcells : intCells (zs ++ [y]) = intCells zs ++ [.int .i64 y] := by simp [intCells]
  refine wpList_at w hgd s x 30 ho base 3 (.int .i64 0) 1 8 Try.underlying30 infoInt rfl (by decide) _ zs.length (intCells zs) hs hown #[.int .i64 y] 1 rfl (by simp [Value.oneCell']) tb 1 hx (by omega) (by unfold maxLen; omega) hb ?_
  intro v' w' ho' hg _ _
  obtain ⟨A', c', rfl⟩ := own_shape ho'
  rw [← hcells, ← hlen] at ho'
  have := h A' c' w' ho' (within_grown hown hg)
  rwa [hlen] at this

section
variable {w a b : World} {lo hi : Nat} {p : Int} {A B : Option Addr} {ca cb : Nat} {l m : List (Int × Int)}
/-- A write beyond the framework's box and rows leaves both. -/
theorem FbI.on (h : FbI w a lo hi p A ca l B cb m) {lo' hi' : Nat} (hw : Within lo' hi' a b) (h1 : w.heap.size + 1 ≤ lo') (h2 : hi ≤ w.heap.size) : FbI w b lo hi p A ca l B cb m :=
  ⟨within_on h.b hw h.b.size (.inl (by omega)), h.x.within hw (.inl (by omega)), h.f.within hw (.inl (by omega))⟩
end
theorem sq_succ (m : List (Int × Int)) (l : List (Int × Int)) (k : Nat) (h : k < l.length) : (l.take (k + 1)).map (sqB m) = (l.take k).map (sqB m) ++ [sqB m (l.getD k (0, 0))] := by
  rw [List.take_succ_eq_append_getElem h, List.map_append]
  simp [List.getD, List.getElem?_eq_getElem h]
end Go.Proofs.Ytehendofgcebcaa
