/- Several texts in one, in the order in which they build on each other: what stands on the way to the laws; each names its own matter. No condition. -/
import Derived.Test.YtdkpmaahinbhlaaRows
import Derived.WalkKit
import Derived.IntWalk
import Derived.Lib.Hide
import Derived.Laws.BytesArg
import Derived.Laws.Concat
import Derived.Deep.Draws
import Derived.Deep.QuietTactic
import Derived.BigQuiet
import Derived.Laws.OwnMore
import Derived.StillTailTactics
import Derived.ProofKit
import Derived.Lib.SmallJoins
import Derived.Deep.SlicePairs
import Derived.Maps.AppendAt
import Derived.Lib.SliceRun
import Derived.Laws.CopyOwn
import Derived.Deep.RegionLaw
import Derived.OrdersHeld
import Derived.Deep.RegionHeld3
/- Words on memory that the later texts use: an append of one element onto a row of the call's own, and the string made of such a row. They hold over any program. No condition. -/
namespace Go.Proofs.Ytdkpmaahinbhlaa
open Go.RowKit

section
variable {P : Program}

/-- An append of one element, just laid, onto a row of the call's own: what stood below 'base' stands as it did. -/
theorem wpList_push (w : World) {ops : Array Oper} {rest : List Oper} {o : Oper} {a : Act} {Q : Exit → Act → World → Prop} (hgd : o.guard = none) (s x : Operand) (t : TypeId)
    (ho : o.op = .call { callee := .builtin .append, args := #[s, x], argTypes := #[t, t] })
    (base : Nat) (e : TypeId) (z : Value) (bytes : Nat) (ht : P.underlying t = some (.slice e)) (hinfo : (P.info? e).map (fun i => (i.zero, i.size, i.bytes)) = some (some z, 1, bytes)) (hzs : z.cells.size = 1)
    (v : Value) (n : Nat) (xs : List Value) (hs : a.eval s = v) (hown : w.ownsRow base e 1 v n xs) (u : Value) (hu : u.oneCell' = true) (tb : TypeId) (hx : a.eval x = .slice (some ⟨w.heap.size, 0, none⟩) 1 1)
    (hbytes : (n + 1) * bytes ≤ 140737488355328) (h63 : n + 1 ≤ maxLen) (hbase : base ≤ w.heap.size)
    (h : ∀ v' w', w'.ownsRow base e 1 v' (n + 1) (xs ++ [u]) → Below base w w' → wpList P ops Q rest (a.put o.dst v') w') : wpList P ops Q (o :: rest) a (w.alloc (.cells #[u] tb)) := by
  obtain ⟨i, hi, hz0, hz1, hz2⟩ := info_parts hinfo
  refine wpList_append_own _ hgd s x t ho base e i z 1 bytes ht hi hz0 hz1 hz2 hzs (by decide) v n xs hs (hown.alloc _) ⟨w.heap.size, 0, none⟩ 1 1 [u] hx rfl ?_ ?_ h63 hbytes (by simp; omega) ?_
  · intro j y hj
    match j, hj with
    | 0, hj =>
      simp at hj
      subst hj
      have : (⟨w.heap.size, 0, none⟩ : Addr).add 0 = ⟨w.heap.size, 0, none⟩ := by simp [Addr.add]
      rw [this, World.cell?_alloc_at _ _ _ _ rfl]
      rfl
  · intro y hy
    simp at hy
    subst hy
    exact hu
  · intro v' w' hown' hg _
    refine h v' w' hown' ?_
    refine ((Below.refl base w).alloc hbase (.cells #[u] tb)).grown hg (by simp; omega) ?_
    intro k hk
    exact (hown.lt k hk).1

/-- An append of several elements, just laid, onto a row of the call's own. -/
theorem wpList_pushes (w : World) {ops : Array Oper} {rest : List Oper} {o : Oper} {a : Act} {Q : Exit → Act → World → Prop} (hgd : o.guard = none) (s x : Operand) (t : TypeId)
    (ho : o.op = .call { callee := .builtin .append, args := #[s, x], argTypes := #[t, t] })
    (base : Nat) (e : TypeId) (z : Value) (bytes : Nat) (ht : P.underlying t = some (.slice e)) (hinfo : (P.info? e).map (fun i => (i.zero, i.size, i.bytes)) = some (some z, 1, bytes)) (hzs : z.cells.size = 1)
    (v : Value) (n : Nat) (xs : List Value) (hs : a.eval s = v) (hown : w.ownsRow base e 1 v n xs) (us : Array Value) (m : Nat) (hm : us.size = m) (hu : ∀ u ∈ us.toList, u.oneCell' = true) (tb : TypeId) (c : Nat) (hx : a.eval x = .slice (some ⟨w.heap.size, 0, none⟩) m c)
    (hbytes : (n + m) * bytes ≤ 140737488355328) (h63 : n + m ≤ maxLen) (hbase : base ≤ w.heap.size)
    (h : ∀ v' w', w'.ownsRow base e 1 v' (n + m) (xs ++ us.toList) → Below base w w' → wpList P ops Q rest (a.put o.dst v') w') : wpList P ops Q (o :: rest) a (w.alloc (.cells us tb)) := by
  obtain ⟨i, hi, hz0, hz1, hz2⟩ := info_parts hinfo
  refine wpList_append_own _ hgd s x t ho base e i z 1 bytes ht hi hz0 hz1 hz2 hzs (by decide) v n xs hs (hown.alloc _) ⟨w.heap.size, 0, none⟩ m c us.toList hx (by simpa using hm) ?_ hu h63 hbytes (by simp; omega) ?_
  · intro j y hj
    have : (⟨w.heap.size, 0, none⟩ : Addr).add j = ⟨w.heap.size, j, none⟩ := by unfold Addr.add; split <;> simp_all
    rw [this, World.cell?_alloc_at _ _ _ _ rfl]
    simpa using hj
  · intro v' w' hown' hg _
    refine h v' w' hown' ?_
    refine ((Below.refl base w).alloc hbase (.cells us tb)).grown hg (by simp; omega) ?_
    intro k hk
    exact (hown.lt k hk).1

/-- The same as one step of a region that draws its order. -/
theorem step_pushes {w : World} {ops : Array Oper} {o : Oper} {a : Act} {K : Act → World → Prop} {Q : Exit → Act → World → Prop} {E : Prop} (hgd : o.guard = none) (s x : Operand) (t : TypeId)
    (ho : o.op = .call { callee := .builtin .append, args := #[s, x], argTypes := #[t, t] })
    (base : Nat) (e : TypeId) (z : Value) (bytes : Nat) (ht : P.underlying t = some (.slice e)) (hinfo : (P.info? e).map (fun i => (i.zero, i.size, i.bytes)) = some (some z, 1, bytes)) (hzs : z.cells.size = 1)
    (v : Value) (n : Nat) (xs : List Value) (hs : a.eval s = v) (hown : w.ownsRow base e 1 v n xs) (us : Array Value) (m : Nat) (hm : us.size = m) (hu : ∀ u ∈ us.toList, u.oneCell' = true) (tb : TypeId) (c : Nat) (hx : a.eval x = .slice (some ⟨w.heap.size, 0, none⟩) m c)
    (hbytes : (n + m) * bytes ≤ 140737488355328) (h63 : n + m ≤ maxLen) (hbase : base ≤ w.heap.size)
    (h : ∀ v' w', w'.ownsRow base e 1 v' (n + m) (xs ++ us.toList) → Below base w w' → K (a.put o.dst v') w') :
    if Region.wanted o (yielded ops a.tmps) = true then Oper.wp P o a (w.alloc (.cells us tb)) K Q else E := by
  have hw : Region.wanted o (yielded ops a.tmps) = true := by simp [Region.wanted, hgd]
  rw [if_pos hw]
  obtain ⟨i, hi, hz0, hz1, hz2⟩ := info_parts hinfo
  refine wp_append_own _ s x t ho base e i z 1 bytes ht hi hz0 hz1 hz2 hzs (by decide) v n xs hs (hown.alloc _) ⟨w.heap.size, 0, none⟩ m c us.toList hx (by simpa using hm) ?_ hu h63 hbytes (by simp; omega) ?_
  · intro j y hj
    have : (⟨w.heap.size, 0, none⟩ : Addr).add j = ⟨w.heap.size, j, none⟩ := by unfold Addr.add; split <;> simp_all
    rw [this, World.cell?_alloc_at _ _ _ _ rfl]
    simpa using hj
  · intro v' w' hown' hg _
    refine h v' w' hown' ?_
    refine ((Below.refl base w).alloc hbase (.cells us tb)).grown hg (by simp; omega) ?_
    intro k hk
    exact (hown.lt k hk).1

theorem grown_below {w w' : World} {base : Nat} (hg : w.grownBy w' none) (hb : base ≤ w.heap.size) : Below base w w' :=
  (Below.refl base w).grown hg hb (fun k hk => by cases hk)

/-- 'make([]T, 0, n)': an empty row of the call's own. -/
theorem wpList_mk0 (w : World) {ops : Array Oper} {rest : List Oper} {o : Oper} {a : Act} {Q : Exit → Act → World → Prop} (hgd : o.guard = none) (l c : Operand) (t : TypeId) (hop : o.op = Op.makeSlice t l c)
    (base : Nat) (e : TypeId) (z : Value) (bytes : Nat) (ht : P.underlying t = some (.slice e)) (hinfo : (P.info? e).map (fun i => (i.zero, i.size, i.bytes)) = some (some z, 1, bytes))
    (kl kc : IntKind) (C : Int) (n : Nat) (hl : a.eval l = .int kl 0) (hc : a.eval c = .int kc C) (hC : C = (n : Int)) (b2 : bytes * n ≤ 281474976710656) (b3 : n ≤ maxLen) (b4 : base ≤ w.heap.size)
    (hK : ∀ w', w'.ownsRow base e 1 (.slice (some ⟨w.heap.size, 0, none⟩) 0 n) 0 [] → Below base w w' → wpList P ops Q rest (a.put o.dst (.slice (some ⟨w.heap.size, 0, none⟩) 0 n)) w') :
    wpList P ops Q (o :: rest) a w := by
  obtain ⟨i, hi, hz0, hz1, hz2⟩ := info_parts hinfo
  exact wpList_make_own w hgd l c t hop base e i z 1 ht hi hz0 hz1 kl kc C n hl hc hC (by rw [hz2]; exact b2) b3 b4 fun w' h1 h2 => hK w' h1 (grown_below h2 b4)

/-- 'make([]T, n)': a row of n zeros of the call's own. -/
theorem wpList_mkn (w : World) {ops : Array Oper} {rest : List Oper} {o : Oper} {a : Act} {Q : Exit → Act → World → Prop} (hgd : o.guard = none) (l c : Operand) (t : TypeId) (hop : o.op = Op.makeSlice t l c)
    (base : Nat) (e : TypeId) (z : Value) (bytes : Nat) (ht : P.underlying t = some (.slice e)) (hinfo : (P.info? e).map (fun i => (i.zero, i.size, i.bytes)) = some (some z, 1, bytes)) (hz : z.cells = #[z])
    (kl kc : IntKind) (L C : Int) (n : Nat) (hl : a.eval l = .int kl L) (hc : a.eval c = .int kc C) (hL : L = (n : Int)) (hC : C = (n : Int)) (b2 : bytes * n ≤ 281474976710656) (b3 : n ≤ maxLen) (b4 : base ≤ w.heap.size)
    (hK : ∀ w', w'.ownsRow base e 1 (.slice (some ⟨w.heap.size, 0, none⟩) n n) n (List.replicate n z) → Below base w w' → wpList P ops Q rest (a.put o.dst (.slice (some ⟨w.heap.size, 0, none⟩) n n)) w') :
    wpList P ops Q (o :: rest) a w := by
  obtain ⟨i, hi, hz0, hz1, hz2⟩ := info_parts hinfo
  refine wpList_make_full w hgd l c t hop base e i z 1 ht hi hz0 hz1 kl kc L C n hl hc hL hC (by rw [hz2]; exact b2) b3 b4 fun w' h1 h2 => hK w' ?_ (grown_below h2 b4)
  have : (madeCells z.cells (n * 1)).toList = List.replicate n z := by rw [hz, Nat.mul_one, toList_madeCells_one]
  rw [this] at h1
  exact h1

/-- 'string(b)' of a row of bytes of the call's own. -/
theorem own_string {w : World} {base : Nat} {src dst e : TypeId} {v : Value} {n : Nat} {ns : List Int} (hs : P.underlying src = some (.slice e)) (he : P.underlying e = some (.int .u8)) (hd : P.underlying dst = some .string)
    (h : w.ownsRow base e 1 v n (ns.map (Value.int .u8))) : (convert src dst v).run P w = .ok (.string (strOfNums ns)) w := by
  rcases h.2 with ⟨rfl, rfl⟩ | ⟨g, cap, cur, rfl, _⟩
  · have : ns = [] := by simpa using h.1
    subst this
    rw [run_convert_bytes_nil w src e hs he 0 0 dst hd]
    rfl
  · have hl : ns.length = n := by simpa using h.1
    refine run_convert_bytes_arg w src e hs he g 0 n cap ns hl ?_ dst hd
    intro i hi
    have hc := h.cellAt i (by omega)
    rw [Nat.zero_add, hc]
    have : i < ns.length := by omega
    simp [List.getD, List.getElem?_eq_getElem this]
end

theorem conv_one {P : Program} (w : World) (src dst e : TypeId) (x : Int) (hs : P.underlying src = some (.slice e)) (he : P.underlying e = some (.int .u8)) (hd : P.underlying dst = some .string) :
    (convert src dst (.slice (some ⟨w.heap.size, 0, none⟩) 1 1)).run P (w.alloc (.cells #[.int .u8 x] e)) = .ok (.string (strOfNums [x])) (w.alloc (.cells #[.int .u8 x] e)) := by
  refine run_convert_bytes_arg _ src e hs he w.heap.size 0 1 1 [x] rfl ?_ dst hd
  intro i hi
  obtain rfl : i = 0 := by omega
  rw [World.cell?_alloc_at _ _ _ _ rfl]
  rfl
theorem nums_append (a b : List Int) : strOfNums a ++ strOfNums b = strOfNums (a ++ b) := by
  apply ByteArray.ext
  simp [strOfNums, ByteArray.data_append]
theorem add_nums {P : Program} (w : World) (a b : List Int) (h : a.length + b.length ≤ 1000000) : (Op.stringOp .add (strOfNums a) (strOfNums b)).run P w = .ok (.string (strOfNums (a ++ b))) w := by
  rw [run_string_add_sum w _ _ (by rw [strOfNums_size, strOfNums_size]; omega), nums_append]

theorem wraps_i64 (n : Int) (h₀ : 0 ≤ n) (h₁ : n < 2 ^ 63) : IntKind.i64.wrap n = n := by rw [IntKind.wrap_i64]; omega
theorem ret_str {a b : ByteArray} (h : a = b) : Ending.returned (.string a) = .returned (.string b) := by rw [h]
theorem ret_int_bool {a b : Int} {c : Bool} (h : a = b) : Ending.returned (.tuple #[.int .i64 a, .bool c]) = .returned (.tuple #[.int .i64 b, .bool c]) := by rw [h]

/-- The k-th byte of s as a number. -/
def byteAt (s : ByteArray) (k : Nat) : Int := ((s.data.toList.getD k 0).toNat : Int)
theorem byteAt_eq (s : ByteArray) (k : Nat) (h : k < s.size) : byteAt s k = (s[k].toNat : Int) := by
  unfold byteAt
  have h' : k < s.data.toList.length := by simpa using h
  rw [List.getD_eq_getElem?_getD, List.getElem?_eq_getElem h']; rfl
theorem byteAt_bd (s : ByteArray) (k : Nat) : 0 ≤ byteAt s k ∧ byteAt s k ≤ 255 := by
  unfold byteAt
  have := (s.data.toList.getD k 0).toNat_lt
  omega
theorem byteAt_extract (s : ByteArray) (k j : Nat) (hj : j < k) : byteAt (s.extract 0 k) j = byteAt s j := by
  unfold byteAt
  congr 2
  simp [List.getD_eq_getElem?_getD, hj]
theorem byteAt_nums (l : List Int) (j : Nat) (hj : j < l.length) (hb : 0 ≤ l[j] ∧ l[j] ≤ 255) : byteAt (strOfNums l) j = l[j] := by
  unfold byteAt
  rw [strOfNums_data, List.getD_eq_getElem?_getD, List.getElem?_map, List.getElem?_eq_getElem hj]
  simp
  omega
theorem below_drewN (B : Nat) (w : World) (n : Nat) : Below B w (w.drewN n) := ⟨rfl, rfl, rfl, Nat.le_refl _, fun _ _ => rfl⟩
theorem iter_below (w : World) (s : ByteArray) (k : Nat) : Below w.heap.size w (w.iter s k) := (Below.refl _ _).alloc (Nat.le_refl _) _
theorem _root_.Go.World.grownBy.trans_ {a b c : World} {r : Option Nat} (h : a.grownBy b r) (k : b.grownBy c r) : a.grownBy c r :=
  ⟨k.os.trans h.os, k.tape.trans h.tape, k.output.trans h.output, Nat.le_trans h.size k.size, fun i hi hr => (k.block i (Nat.lt_of_lt_of_le hi h.size) hr).trans (h.block i hi hr)⟩
theorem grownBy_set (w : World) (g j : Nat) (u : Value) : w.grownBy (w.setCell ⟨g, j, none⟩ u) (some g) :=
  ⟨rfl, rfl, rfl, by simp, fun k _ hk => Below.heap_setCell w ⟨g, j, none⟩ u k (fun e => hk (by simp at e; rw [e]))⟩
theorem grownBy_drewN (w : World) (n : Nat) (r : Option Nat) : w.grownBy (w.drewN n) r := ⟨rfl, rfl, rfl, Nat.le_refl _, fun _ _ _ => rfl⟩
theorem own_base {w : World} {base base' size : Nat} {e : TypeId} {v : Value} {n : Nat} {xs : List Value} (h : w.ownsRow base e size v n xs) (hb : base' ≤ base) : w.ownsRow base' e size v n xs := by
  refine ⟨h.1, ?_⟩
  rcases h.2 with h2 | ⟨g, cap, cur, h1, h2, h3⟩
  · exact .inl h2
  · exact .inr ⟨g, cap, cur, h1, Nat.le_trans hb h2, h3⟩
/-- A store into another block. -/
theorem own_set {w : World} {base size : Nat} {e : TypeId} {g cap : Nat} {n : Nat} {xs : List Value} (h : w.ownsRow base e size (.slice (some ⟨g, 0, none⟩) n cap) n xs) (b j : Nat) (u : Value) (hb : g ≠ b) : (w.setCell ⟨b, j, none⟩ u).ownsRow base e size (.slice (some ⟨g, 0, none⟩) n cap) n xs :=
  h.kept (grownBy_set w b j u) (.inr (by simp [Value.ownBlock]; exact hb))
theorem below_grown {w w' : World} (h : Below w.heap.size w w') (r : Option Nat) : w.grownBy w' r := ⟨h.os, h.tape, h.output, h.size, fun k hk _ => h.block k hk⟩
/-- A row of the call's own stays one while new blocks are made. -/
theorem own_below {w w' : World} {base size : Nat} {e : TypeId} {v : Value} {n : Nat} {xs : List Value} (h : w.ownsRow base e size v n xs) (hb : Below w.heap.size w w') : w'.ownsRow base e size v n xs :=
  h.kept (below_grown hb none) (by cases hv : v.ownBlock <;> simp)
/-- What an older block holds behind a call that only makes new ones: two rules for the walk. -/
theorem bcell {W w1 : World} (hb : Below W.heap.size W w1) : (∀ b o, b < W.heap.size → w1.cell? ⟨b, o, none⟩ = W.cell? ⟨b, o, none⟩) ∧ (∀ b o, b < W.heap.size → w1.frozen? ⟨b, o, none⟩ = W.frozen? ⟨b, o, none⟩) :=
  ⟨fun b o h => hb.cell (p := ⟨b, o, none⟩) h, fun b o h => hb.frozen (p := ⟨b, o, none⟩) h⟩
end Go.Proofs.Ytdkpmaahinbhlaa
/- What the cursor over a code's bytes answers (spec.l1New, l1Byte, l1Below): some number in its bounds, and only the cursor's own block is written. No condition. -/
namespace Go.Proofs.Ytdkpmaahinbhlaa
open Go.RowKit

/-- The code's bytes are zs, and lie below block B. -/
def CodeIs (w : World) (B : Nat) (A : Option Addr) (len : Nat) (zs : Nat → Int) : Prop :=
  (∀ k, 0 ≤ zs k ∧ zs k ≤ 255) ∧ (0 < len → ∃ b off, A = some ⟨b, off, none⟩ ∧ b < B ∧ ∀ k, k < len → w.cell? ⟨b, off + k, none⟩ = some (.int .u8 (zs k)))
/-- Block g, from B on, is a cursor over that code. -/
def CurIs (w : World) (B g : Nat) (A : Option Addr) (len cap : Nat) : Prop :=
  B ≤ g ∧ ∃ (i : Nat) (h : Int), w.heap[g]? = some (.cells #[.slice A len cap, .int .i64 i, .int .i64 h] 181 (0, 0)) ∧ i ≤ len
/-- A number with P is drawn; the cursor is one still; no other block is written. -/
def DrawP (w : World) (B g : Nat) (A : Option Addr) (len cap : Nat) (P : Int → Prop) (e : Ending) (w' : World) : Prop :=
  ∃ x, P x ∧ e = .returned (.int .i64 x) ∧ CurIs w' B g A len cap ∧ w.grownBy w' (some g)

theorem CodeIs.kept {w w' : World} {B : Nat} {A : Option Addr} {len : Nat} {zs : Nat → Int} (h : CodeIs w B A len zs) (hb : Below B w w') : CodeIs w' B A len zs :=
  ⟨h.1, fun hl => by
    obtain ⟨b, off, e, hlt, hc⟩ := h.2 hl
    exact ⟨b, off, e, hlt, fun k hk => (hb.cell (p := ⟨b, off + k, none⟩) hlt).trans (hc k hk)⟩⟩
theorem grown_cur {w w' : World} {B g : Nat} (hB : B ≤ g) (hw : B ≤ w.heap.size) (h : w.grownBy w' (some g)) : Below B w w' := (Below.refl B w).grown h hw fun k hk => by
  injection hk with hk
  subst hk
  exact hB
theorem CurIs.lt {w : World} {B g : Nat} {A : Option Addr} {len cap : Nat} (h : CurIs w B g A len cap) : g < w.heap.size := by
  obtain ⟨_, i, hh, hg, _⟩ := h
  exact (Array.getElem?_eq_some_iff.1 hg).1
theorem CurIs.grown {w w' : World} {B g : Nat} {A : Option Addr} {len cap : Nat} (h : CurIs w B g A len cap) {r : Option Nat} (hw : w.grownBy w' r) (hr : r ≠ some g) : CurIs w' B g A len cap := by
  have hlt := h.lt
  obtain ⟨hB, i, hh, hg, h1⟩ := h
  exact ⟨hB, i, hh, (hw.block g hlt (fun e => hr e.symm)).trans hg, h1⟩
theorem DrawP.mono {w : World} {B g : Nat} {A : Option Addr} {len cap : Nat} {P Q : Int → Prop} {e : Ending} {w' : World} (h : DrawP w B g A len cap P e w') (hq : ∀ x, P x → Q x) : DrawP w B g A len cap Q e w' := by
  obtain ⟨x, hp, r⟩ := h
  exact ⟨x, hq x hp, r⟩

theorem and255 (X : Int) : 0 ≤ bits .and .i64 X 255 ∧ bits .and .i64 X 255 ≤ 255 := by
  have h : ((BitVec.ofInt 64 X) &&& (BitVec.ofInt 64 255)).toNat ≤ 255 := by
    rw [BitVec.toNat_and]
    exact Nat.le_trans Nat.and_le_right (by decide)
  have e : bits .and .i64 X 255 = IntKind.i64.wrap (((BitVec.ofInt 64 X) &&& (BitVec.ofInt 64 255)).toNat : Int) := rfl
  rw [e, IntWalk.i64_in _ (by omega)]
  omega

theorem cur_cells {w : World} {g : Nat} {a b c : Value} {T : TypeId} (h : w.heap[g]? = some (.cells #[a, b, c] T (0, 0))) :
    w.cell? ⟨g, 0, none⟩ = some a ∧ w.cell? ⟨g, 1, none⟩ = some b ∧ w.cell? ⟨g, 2, none⟩ = some c ∧ (∀ j, w.frozen? ⟨g, j, none⟩ = false) := by
  refine ⟨?_, ?_, ?_, fun j => frozen_of_row w g j _ T h⟩
  · rw [cell_of_row w g 0 _ T (0, 0) h]; rfl
  · rw [cell_of_row w g 1 _ T (0, 0) h]; rfl
  · rw [cell_of_row w g 2 _ T (0, 0) h]; rfl

set_option maxHeartbeats 800000 in
set_option maxRecDepth 100000 in
theorem byte_c (w : World) (B g : Nat) (A : Option Addr) (len cap : Nat) (zs : Nat → Int) (hc : CodeIs w B A len zs) (hu : CurIs w B g A len cap) (hlen : len ≤ 140737488351232) :
    Calls Try.prog 191 #[.pointer (some ⟨g, 0, none⟩)] w (DrawP w B g A len cap fun x => 0 ≤ x ∧ x ≤ 255) := by
  have hlw := hu.lt
  obtain ⟨hB, i, h, hg, hi1⟩ := hu
  obtain ⟨c0, c1, c2, cf⟩ := cur_cells hg
  have f2 := cf 2
  have HG := Lib.hid hg
  have HC := Lib.hid hc
  clear hg hc cf
  go_enter Try.func191, Try.ntmps191
  go_wp2_with fail
  generalize wrap64 (wrap64 (h * 6364136223846793005) + 1442695040888963407) = h2
  have hg2 := heap_setCell_same w g 2 _ _ (.int .i64 h2) HG.out
  have hg2' : (w.setCell ⟨g, 2, none⟩ (.int .i64 h2)).heap[g]? = some (.cells #[.slice A len cap, .int .i64 i, .int .i64 h2] 181 (0, 0)) := hg2
  have hgr := grownBy_set w g 2 (.int .i64 h2)
  have hc2 := HC.out.kept (grown_cur hB (by omega) hgr)
  clear hg2 HG c0 c1 c2 f2
  generalize w.setCell ⟨g, 2, none⟩ (.int .i64 h2) = w2 at *
  obtain ⟨c0, c1, c2, cf⟩ := cur_cells hg2'
  have f1 := cf 1
  have HG := Lib.hid hg2'
  have HGR := Lib.hid hgr
  clear hg2' cf hgr HC
  by_cases hlt : i < len
  · have hi : (i : Int) < (len : Int) := by omega
    obtain ⟨b, off, rfl, hbB, hcell⟩ := hc2.2 (by omega)
    have hz := hc2.1 i
    have hci := hcell i hlt
    clear hcell hc2
    go_quiet (fail)
    go_wp2_with fail
    go_quiet (fail)
    go_wp2_with fail
    go_quiet (fail)
    go_wp2_with fail
    go_ret
    exact ⟨_, and255 _, rfl, ⟨hB, i + 1, h2, heap_setCell_same w2 g 1 _ _ _ HG.out, by omega⟩, (HGR.out.trans_ (grownBy_set w2 g 1 _)).trans_ (grownBy_drewN _ _ _)⟩
  · have hi : (len : Int) ≤ (i : Int) := by omega
    go_quiet (fail)
    go_wp2_with fail
    go_quiet (fail)
    go_wp2_with fail
    go_ret
    exact ⟨_, and255 _, rfl, ⟨hB, i, h2, HG.out, hi1⟩, (HGR.out.trans_ (grownBy_drewN _ _ _)).trans_ (grownBy_drewN _ _ _)⟩

set_option maxHeartbeats 400000 in
set_option maxRecDepth 100000 in
theorem below_c (n : Int) (w : World) (B g : Nat) (A : Option Addr) (len cap : Nat) (zs : Nat → Int) (hc : CodeIs w B A len zs) (hu : CurIs w B g A len cap) (hlen : len ≤ 140737488351232) (h0 : 0 < n) (h1 : n ≤ 256) :
    Calls Try.prog 121 #[.pointer (some ⟨g, 0, none⟩), .int .i64 n] w (DrawP w B g A len cap fun x => 0 ≤ x ∧ x < n) := by
  have HC := Lib.hid hc
  have HU := Lib.hid hu
  clear hc hu
  go_enter Try.func121, Try.ntmps121
  go_wp2_with fail
  refine (byte_c w B g A len cap zs HC.out HU.out hlen).mono ?_
  rintro e w1 ⟨x, hx, rfl, hu1, hg1⟩
  have HU1 := Lib.hid hu1
  have HG1 := Lib.hid hg1
  clear hu1 hg1
  have hn : (n == 0) = false := by simp; omega
  go_wp2_with fail
  go_ret
  exact ⟨_, ⟨Int.emod_nonneg _ (by omega), Int.emod_lt_of_pos _ h0⟩, rfl, HU1.out, HG1.out⟩

set_option maxHeartbeats 800000 in
set_option maxRecDepth 100000 in
theorem below_big (n : Int) (w : World) (B g : Nat) (A : Option Addr) (len cap : Nat) (zs : Nat → Int) (hc : CodeIs w B A len zs) (hu : CurIs w B g A len cap) (hlen : len ≤ 140737488351232) (hBw : B ≤ w.heap.size) (h0 : 256 < n) :
    Calls Try.prog 121 #[.pointer (some ⟨g, 0, none⟩), .int .i64 n] w (DrawP w B g A len cap fun x => 0 ≤ x ∧ x < n) := by
  have HC := Lib.hid hc
  have HU := Lib.hid hu
  clear hc hu
  have hB := HU.out.1
  go_enter Try.func121, Try.ntmps121
  go_wp2_with fail
  refine (byte_c w B g A len cap zs HC.out HU.out hlen).mono ?_
  rintro e w1 ⟨x, hx, rfl, hu1, hg1⟩
  have HU1 := Lib.hid hu1
  have HG1 := Lib.hid hg1
  have HC1 := Lib.hid (HC.out.kept (grown_cur hB hBw hg1))
  have hs1 := hg1.size
  clear hu1 hg1
  go_wp2_with fail
  refine (byte_c w1 B g A len cap zs HC1.out HU1.out hlen).mono ?_
  rintro e w2 ⟨y, hy, rfl, hu2, hg2⟩
  have HU2 := Lib.hid hu2
  have HG2 := Lib.hid hg2
  have HC2 := Lib.hid (HC1.out.kept (grown_cur hB (by omega) hg2))
  have hs2 := hg2.size
  clear hu2 hg2
  go_wp2_with fail
  refine (byte_c w2 B g A len cap zs HC2.out HU2.out hlen).mono ?_
  rintro e w3 ⟨z, hz, rfl, hu3, hg3⟩
  have HU3 := Lib.hid hu3
  have HG3 := Lib.hid hg3
  have HC3 := Lib.hid (HC2.out.kept (grown_cur hB (by omega) hg3))
  have hs3 := hg3.size
  clear hu3 hg3
  go_wp2_with fail
  refine (byte_c w3 B g A len cap zs HC3.out HU3.out hlen).mono ?_
  rintro e w4 ⟨v, hv, rfl, hu4, hg4⟩
  have HU4 := Lib.hid hu4
  have HG4 := Lib.hid hg4
  clear hu4 hg4
  have hn : (n == 0) = false := by simp; omega
  go_wp2_with fail
  go_ret
  exact ⟨_, ⟨Int.emod_nonneg _ (by omega), Int.emod_lt_of_pos _ (by omega)⟩, rfl, HU4.out, ((HG1.out.trans_ HG2.out).trans_ HG3.out).trans_ HG4.out⟩

/-- spec.l1Below at a bound that is positive. -/
theorem below_any (n : Int) (w : World) (B g : Nat) (A : Option Addr) (len cap : Nat) (zs : Nat → Int) (hc : CodeIs w B A len zs) (hu : CurIs w B g A len cap) (hlen : len ≤ 140737488351232) (hBw : B ≤ w.heap.size) (h0 : 0 < n) :
    Calls Try.prog 121 #[.pointer (some ⟨g, 0, none⟩), .int .i64 n] w (DrawP w B g A len cap fun x => 0 ≤ x ∧ x < n) := by
  by_cases h : n ≤ 256
  · exact below_c n w B g A len cap zs hc hu hlen h0 h
  · exact below_big n w B g A len cap zs hc hu hlen hBw (by omega)

/-- spec.l1New: a cursor of its own. -/
def NewCur (w : World) (A : Option Addr) (len cap : Nat) (e : Ending) (w' : World) : Prop :=
  ∃ g, e = .returned (.pointer (some ⟨g, 0, none⟩)) ∧ CurIs w' w.heap.size g A len cap ∧ Below w.heap.size w w'

set_option maxHeartbeats 800000 in
set_option maxRecDepth 100000 in
theorem new_c (w : World) (A : Option Addr) (len cap : Nat) (zs : Nat → Int) (hc : CodeIs w w.heap.size A len zs) (hlen : len ≤ 140737488351232) :
    Calls Try.prog 119 #[.slice A len cap] w (NewCur w A len cap) := by
  have HC := Lib.hid hc
  clear hc
  go_enter Try.func119, Try.ntmps119
  go_wp2_with fail
  go_loop [3, 4] (fun h i => ∃ (k : Nat) (x : Int), k ≤ len ∧ k ≤ 4000 ∧ i = .int .i64 k ∧ h = .int .i64 x) (fun _ i => 4000 - (intOf i).toNat)
  case atStart => exact ⟨0, _, by omega, by omega, rfl, rfl⟩
  case round =>
    obtain ⟨k, x, hk, hk4, rfl, rfl⟩ := hrel
    by_cases hlt : k < len ∧ k < 4000
    · obtain ⟨hl, h4⟩ := hlt
      obtain ⟨b, off, rfl, _, hcell⟩ := HC.out.2 (by omega)
      have hz := HC.out.1 k
      have hci := hcell k hl
      have hi : (k : Int) < (len : Int) := by omega
      have hi4 : (k : Int) < 4000 := by omega
      clear hcell
      go_wp2_with fail
      go_round
      case rel => exact ⟨k + 1, _, by omega, by omega, by go_num, rfl⟩
      case measure => simp [intOf]; omega
    · by_cases hl : (k : Int) < (len : Int)
      · have h4 : ¬ (k : Int) < 4000 := by omega
        clear hlt
        go_wp2_with fail
        go_ret
        exact ⟨w.heap.size, rfl, ⟨Nat.le_refl _, 0, x, heap_alloc_new w _, by omega⟩, (Below.refl _ _).alloc (Nat.le_refl _) _⟩
      · clear hlt
        go_wp2_with fail
        go_ret
        exact ⟨w.heap.size, rfl, ⟨Nat.le_refl _, 0, x, heap_alloc_new w _, by omega⟩, (Below.refl _ _).alloc (Nat.le_refl _) _⟩
end Go.Proofs.Ytdkpmaahinbhlaa
/- What spec.l1PickInt answers over a cursor; words on cursors. No condition. -/
namespace Go.Proofs.Ytdkpmaahinbhlaa
open Go.RowKit

def InI64 (x : Int) : Prop := -9223372036854775808 ≤ x ∧ x ≤ 9223372036854775807
theorem wrap64_in (x : Int) : InI64 (wrap64 x) := by unfold InI64 wrap64; omega

theorem CurIs.below {w w' : World} {B g B' : Nat} {A : Option Addr} {len cap : Nat} (h : CurIs w B g A len cap) (hb : Below B' w w') (hg : g < B') : CurIs w' B g A len cap := by
  obtain ⟨hB, i, hh, hc, h1⟩ := h
  exact ⟨hB, i, hh, (hb.block g hg).trans hc, h1⟩
theorem grown_then_below {w w2 w3 : World} {r : Option Nat} (h : w.grownBy w2 r) (hb : Below w.heap.size w2 w3) : w.grownBy w3 r :=
  ⟨hb.os.trans h.os, hb.tape.trans h.tape, hb.output.trans h.output, Nat.le_trans h.size hb.size, fun k hk hr => (hb.block k hk).trans (h.block k hk hr)⟩
theorem own_far {w : World} {base g : Nat} {e : TypeId} {v : Value} {n : Nat} {xs : List Value} (h : w.ownsRow base e 1 v n xs) (hg : g < base) : v.ownBlock = none ∨ v.ownBlock ≠ some g := by
  right
  intro he
  have := (h.lt g he).1
  omega

set_option maxHeartbeats 800000 in
set_option maxRecDepth 100000 in
theorem pickInt_c (ns : List Int) (gl : Nat) (w : World) (B g : Nat) (A : Option Addr) (len cap : Nat) (zs : Nat → Int) (hc : CodeIs w B A len zs) (hu : CurIs w B g A len cap) (hlen : len ≤ 140737488351232) (hBw : B ≤ w.heap.size)
    (hn : 0 < ns.length) (hl : w.heap[gl]? = some (.cells (ns.map (Value.int .i64)).toArray 3 (0, 0))) (hne : gl ≠ g) (hsm : ns.length ≤ 1000) (hin : ∀ x ∈ ns, InI64 x) :
    Calls Try.prog 161 #[.pointer (some ⟨g, 0, none⟩), .slice (some ⟨gl, 0, none⟩) ns.length ns.length] w (DrawP w B g A len cap InI64) := by
  have HC := Lib.hid hc
  have HU := Lib.hid hu
  have HL := Lib.hid hl
  have HI := Lib.hid hin
  have hlw : gl < w.heap.size := (Array.getElem?_eq_some_iff.1 hl).1
  clear hc hu hl hin
  go_enter Try.func161, Try.ntmps161
  go_wp2_with fail
  refine (below_any (ns.length : Int) w B g A len cap zs HC.out HU.out hlen hBw (by omega)).mono ?_
  rintro e w1 ⟨x, ⟨hx0, hx1⟩, rfl, hu1, hg1⟩
  obtain ⟨k, rfl⟩ := Int.eq_ofNat_of_zero_le hx0
  have hk : k < ns.length := by omega
  have hcell : w1.cell? ⟨gl, k, none⟩ = some (.int .i64 ns[k]) := by
    rw [cell_of_row w1 gl k _ 3 (0, 0) ((hg1.block gl hlw (fun e => hne (by injection e))).trans HL.out)]
    simp [hk]
  have HU1 := Lib.hid hu1
  have HG1 := Lib.hid hg1
  have HX := Lib.hid (HI.out _ (List.getElem_mem hk))
  clear hu1 hg1
  go_wp2_with fail
  go_ret
  exact ⟨_, HX.out, rfl, HU1.out, HG1.out⟩
end Go.Proofs.Ytdkpmaahinbhlaa
/- The laws' copies of a bar and of a graph into the program's types (laws.toBar, toBarS, toGraph). No condition. -/
namespace Go.Proofs.Ytdkpmaahinbhlaa
open Go.RowKit

theorem toBar_c (x y : Int) (w : World) :
    Calls Try.prog 207 #[.agg #[.int .i64 x, .int .i64 y]] w fun e w' => e = .returned (.agg #[.int .i64 x, .int .i64 y]) ∧ Below w.heap.size w w' := by
  go_enter Try.func207, Try.ntmps207
  go_wp2
  exact bodyPost_ret (v := .agg #[.int .i64 x, .int .i64 y]) (by simp [results, Try.results207, go_sem]) rfl ⟨rfl, (((Below.refl _ _).alloc (Nat.le_refl _) _).alloc (by simp) _).alloc (by simp; omega) _⟩

/-- The slice at A reads as the bars l. -/
def BarsAt (w : World) (B : Nat) (A : Option Addr) (l : List (Int × Int)) : Prop :=
  0 < l.length → ∃ b off, A = some ⟨b, off, none⟩ ∧ b < B ∧ ∀ k, k < l.length → w.cell? ⟨b, off + k * 2, none⟩ = some (.int .i64 (l.getD k (0, 0)).1) ∧ w.cell? ⟨b, off + k * 2 + 1, none⟩ = some (.int .i64 (l.getD k (0, 0)).2)

/-- The cells of a row of bars. -/
def barCells (l : List (Int × Int)) : List Value := l.flatMap fun x => [.int .i64 x.1, .int .i64 x.2]

theorem barCells_len (l : List (Int × Int)) : (barCells l).length = l.length * 2 := by
  induction l with
  | nil => rfl
  | cons x l ih =>
    rw [barCells, List.flatMap_cons, List.length_append]
    rw [barCells] at ih
    simp only [List.length_cons, List.length_nil, ih]
    omega
theorem barCells_append (a b : List (Int × Int)) : barCells (a ++ b) = barCells a ++ barCells b := by simp [barCells]
theorem barCells_get : ∀ (l : List (Int × Int)) (k : Nat), k < l.length → (barCells l)[k * 2]? = some (.int .i64 (l.getD k (0, 0)).1) ∧ (barCells l)[k * 2 + 1]? = some (.int .i64 (l.getD k (0, 0)).2) := by
  intro l
  induction l with
  | nil => intro k h; simp at h
  | cons x l ih =>
    intro k h
    rw [barCells, List.flatMap_cons]
    rcases k with _ | k
    · exact ⟨rfl, rfl⟩
    · have := ih k (by simpa using h)
      rw [show (k + 1) * 2 = k * 2 + 2 by omega, show k * 2 + 2 + 1 = k * 2 + 1 + 2 by omega]
      exact this
theorem barCells_set : ∀ (l : List (Int × Int)) (k : Nat) (x : Int × Int), ((barCells l).set (k * 2) (.int .i64 x.1)).set (k * 2 + 1) (.int .i64 x.2) = barCells (l.set k x) := by
  intro l
  induction l with
  | nil => intro k x; simp [barCells]
  | cons y l ih =>
    intro k x
    rcases k with _ | k
    · rfl
    · have := ih k x
      rw [show (k + 1) * 2 = k * 2 + 2 by omega, show k * 2 + 2 + 1 = k * 2 + 1 + 2 by omega]
      simp only [barCells, List.flatMap_cons, List.set_cons_succ, List.cons_append, List.nil_append] at this ⊢
      rw [this]
theorem made_bars (n : Nat) : (madeCells #[.int .i64 0, .int .i64 0] (n * 2)).toList = barCells (List.replicate n (0, 0)) := by
  apply List.ext_getElem?
  intro i
  have hs : (madeCells #[Value.int .i64 0, .int .i64 0] (n * 2)).toList.length = n * 2 := by simp [size_madeCells]
  by_cases hi : i < n * 2
  · have h1 : (madeCells #[Value.int .i64 0, .int .i64 0] (n * 2)).toList[i]? = some (.int .i64 0) := by
      have : i % 2 = 0 ∨ i % 2 = 1 := by omega
      simp [madeCells, hi]
      rcases this with h | h <;> simp [h]
    have h2 := barCells_get (List.replicate n ((0 : Int), (0 : Int))) (i / 2) (by simp; omega)
    have h3 : (List.replicate n ((0 : Int), (0 : Int))).getD (i / 2) (0, 0) = (0, 0) := by
      rw [List.getD_eq_getElem?_getD, List.getElem?_replicate]
      split <;> rfl
    rw [h3] at h2
    rw [h1]
    by_cases hp : i % 2 = 0
    · rw [show i = i / 2 * 2 by omega, h2.1]
    · rw [show i = i / 2 * 2 + 1 by omega, h2.2]
  · rw [List.getElem?_eq_none (by omega), List.getElem?_eq_none (by rw [barCells_len]; simp; omega)]

theorem infoBar : (Try.prog.info? 108).map (fun i => (i.zero, i.size, i.bytes)) = some (some (.agg #[.int .i64 0, .int .i64 0]), 2, 16) := by kernel_rfl

set_option maxHeartbeats 400000 in
set_option maxRecDepth 100000 in
theorem toBarS_c (l : List (Int × Int)) (A : Option Addr) (cap : Nat) (w : World) (hl : BarsAt w w.heap.size A l) (hn : l.length ≤ 1048576) :
    Calls Try.prog 166 #[.slice A l.length cap] w fun e w' => ∃ g, e = .returned (.slice (some ⟨g, 0, none⟩) l.length l.length) ∧ w'.ownsRow w.heap.size 108 2 (.slice (some ⟨g, 0, none⟩) l.length l.length) l.length (barCells l) ∧ Below w.heap.size w w' := by
  have HL := Lib.hid hl
  clear hl
  obtain ⟨i0, hi, hz0, hz1, hz2⟩ := info_parts infoBar
  go_enter Try.func166, Try.ntmps166
  go_wp2_with (at_make; refine wpList_make_full w rfl _ _ 24 rfl w.heap.size 108 i0 (.agg #[.int .i64 0, .int .i64 0]) 2 Try.underlying24 hi hz0 hz1 _ _ _ _ l.length rfl rfl rfl rfl (by rw [hz2]; omega) (by unfold maxLen; omega) (Nat.le_refl _) ?_; intro w0 hown0 hg0)
  have hb0 := grown_below hg0 (Nat.le_refl w.heap.size)
  go_loopw [4] (fun i wr => ∃ k : Nat, k ≤ l.length ∧ i = .int .i64 k ∧ wr.ownsRow w.heap.size 108 2 (.slice (some ⟨w.heap.size, 0, none⟩) l.length l.length) l.length (barCells (l.take k ++ List.replicate (l.length - k) (0, 0))) ∧ Below w.heap.size w wr) (fun i _ => l.length - (intOf i).toNat)
  case atStart => exact ⟨0, by omega, rfl, by
    have e : (madeCells (Value.agg #[.int .i64 0, .int .i64 0]).cells (l.length * 2)).toList = barCells (l.take 0 ++ List.replicate (l.length - 0) (0, 0)) := by
      rw [List.take_zero, List.nil_append, Nat.sub_zero]
      exact made_bars l.length
    rw [e] at hown0
    exact hown0, hb0⟩
  case round =>
    obtain ⟨k, hk, rfl, hown, hb⟩ := hrel
    have HB := Lib.hid hb
    have hbs := hb.size
    clear hb hown0 hb0 hg0
    by_cases hlt : k < l.length
    · have hi : (k : Int) < (l.length : Int) := by omega
      obtain ⟨b, off, rfl, hbB, hcell⟩ := HL.out (by omega)
      obtain ⟨h1, h2⟩ := hcell k hlt
      have hc1 := (HB.out.cell (p := ⟨b, off + k * 2, none⟩) hbB).trans h1
      have hc2 := (HB.out.cell (p := ⟨b, off + k * 2 + 1, none⟩) hbB).trans h2
      have hlen : (l.take k ++ List.replicate (l.length - k) ((0 : Int), (0 : Int))).length = l.length := by simp; omega
      have hset : (l.take k ++ List.replicate (l.length - k) (0, 0)).set k (l.getD k (0, 0)) = l.take (k + 1) ++ List.replicate (l.length - (k + 1)) (0, 0) := by
        have hl0 : (l.take k).length = k := by simp; omega
        have e : l.getD k (0, 0) = l[k] := by simp [List.getD, List.getElem?_eq_getElem hlt]
        obtain ⟨r, hr⟩ : ∃ r, l.length - k = r + 1 := ⟨l.length - k - 1, by omega⟩
        rw [e, List.set_append_right _ _ (by omega), hl0, Nat.sub_self, hr, List.replicate_succ, List.set_cons_zero, List.take_succ_eq_append_getElem hlt, show l.length - (k + 1) = r by omega, List.append_assoc]
        rfl
      have HOWN := Lib.hid hown
      have HSET := Lib.hid hset
      have HLEN := Lib.hid hlen
      have hlw := (hown.lt w.heap.size rfl).2
      clear hset hown hcell h1 h2 hlen
      obtain ⟨p, hp⟩ : ∃ p, l.getD k (0, 0) = p := ⟨_, rfl⟩
      rw [hp] at hc1 hc2 HSET
      clear hp
      obtain ⟨x, y⟩ := p
      go_wp2_with fail
      refine (toBar_c x y wr).mono ?_
      rintro e w3 ⟨rfl, hb3⟩
      have hown3 := own_below HOWN.out hb3
      have hg := barCells_get (l.take k ++ List.replicate (l.length - k) (0, 0)) k (by have := HLEN.out; omega)
      have hd1 := (hown3.cellAt (k * 2) (by omega)).trans hg.1
      have hd2 := (hown3.cellAt (k * 2 + 1) (by omega)).trans hg.2
      have hf1 := hown3.frozenAt (k * 2)
      have hf2 := hown3.frozenAt (k * 2 + 1)
      have hst1 := hown3.stored (k * 2) (.int .i64 x)
      have hst2 := hst1.1.stored (k * 2 + 1) (.int .i64 y)
      rw [barCells_set _ _ (x, y), HSET.out] at hst2
      have HST := Lib.hid hst2
      have HB3 := Lib.hid (HB.out.trans (hb3.mono hbs))
      clear hst1 hst2 hg hown3 hb3 hc1 hc2
      go_wp2_with fail
      go_roundw
      case rel => exact ⟨k + 1, by omega, by go_num, HST.out.1, (HB3.out.setCell (Nat.le_refl _) _).setCell (Nat.le_refl _) _⟩
      case measure => simp [intOf]; omega
    · obtain rfl : k = l.length := by omega
      rw [List.take_length, Nat.sub_self, List.replicate_zero, List.append_nil] at hown
      go_wp2_with fail
      go_ret
      exact ⟨_, rfl, hown, HB.out⟩

/-- A fresh copy of the graph of p points and the bars l. -/
def GraphP (w : World) (p : Int) (l : List (Int × Int)) (e : Ending) (w' : World) : Prop :=
  ∃ g, e = .returned (.agg #[.int .i64 p, .slice (some ⟨g, 0, none⟩) l.length l.length]) ∧ w'.ownsRow w.heap.size 108 2 (.slice (some ⟨g, 0, none⟩) l.length l.length) l.length (barCells l) ∧ Below w.heap.size w w'

theorem BarsAt.kept {w w' : World} {B : Nat} {A : Option Addr} {l : List (Int × Int)} (h : BarsAt w B A l) (hb : Below B w w') : BarsAt w' B A l := fun hl => by
  obtain ⟨b, off, e, hlt, hc⟩ := h hl
  exact ⟨b, off, e, hlt, fun k hk => ⟨(hb.cell (p := ⟨b, off + k * 2, none⟩) hlt).trans (hc k hk).1, (hb.cell (p := ⟨b, off + k * 2 + 1, none⟩) hlt).trans (hc k hk).2⟩⟩
theorem BarsAt.more {w : World} {B B' : Nat} {A : Option Addr} {l : List (Int × Int)} (h : BarsAt w B A l) (hb : B ≤ B') : BarsAt w B' A l := fun hl => by
  obtain ⟨b, off, e, hlt, hc⟩ := h hl
  exact ⟨b, off, e, by omega, hc⟩
/-- A row of the call's own reads as its bars. -/
theorem own_bars {w : World} {base : Nat} {e : TypeId} {g cap : Nat} {l : List (Int × Int)} (h : w.ownsRow base e 2 (.slice (some ⟨g, 0, none⟩) l.length cap) l.length (barCells l)) : BarsAt w w.heap.size (some ⟨g, 0, none⟩) l := fun _ => by
  refine ⟨g, 0, rfl, (h.lt g rfl).2, fun k hk => ?_⟩
  have hg := barCells_get l k hk
  rw [Nat.zero_add]
  exact ⟨(h.cellAt (k * 2) (by omega)).trans hg.1, (h.cellAt (k * 2 + 1) (by omega)).trans hg.2⟩

set_option maxHeartbeats 400000 in
set_option maxRecDepth 100000 in
theorem toGraph_c (p : Int) (l : List (Int × Int)) (A : Option Addr) (cap : Nat) (w : World) (hl : BarsAt w w.heap.size A l) (hn : l.length ≤ 1048576) :
    Calls Try.prog 79 #[.agg #[.int .i64 p, .slice A l.length cap]] w (GraphP w p l) := by
  have HL := Lib.hid hl
  clear hl
  go_enter Try.func79, Try.ntmps79
  go_wp2_with fail
  have hA : Below w.heap.size w (((w.alloc (.cells #[.int .i64 p, .slice A l.length cap] 79)).alloc (.cells #[.int .i64 0, .slice none 0 0] 26)).alloc (.cells #[.int .i64 p, .slice none 0 0] 26)) :=
    (((Below.refl _ _).alloc (Nat.le_refl _) _).alloc (by simp) _).alloc (by simp; omega) _
  refine (toBarS_c l A cap _ ((HL.out.kept hA).more hA.size) hn).mono ?_
  rintro e w1 ⟨g, rfl, hown1, hb1⟩
  have hg := (hown1.lt g rfl)
  have hsz := hb1.size
  obtain ⟨hc1, hf1⟩ := bcell hb1
  have HA := Lib.hid hA
  have HB1 := Lib.hid hb1
  have HO1 := Lib.hid hown1
  clear hA hb1 hown1
  simp only [World.size_alloc] at hg hsz
  go_wp2_with fail
  refine bodyPost_ret (v := .agg #[.int .i64 p, .slice (some ⟨g, 0, none⟩) l.length l.length]) ?_ rfl ⟨g, rfl, ?_, ?_⟩
  · simp [results, Try.results79, go_sem, hc1]
  · exact own_set (own_set (own_set (own_base HO1.out (by simp; omega)) _ _ _ (by omega)) _ _ _ (by omega)) _ _ _ (by omega)
  · exact (((HA.out.trans (HB1.out.mono HA.out.size)).setCell (by simp; omega) _).setCell (by simp) _).setCell (by simp) _
end Go.Proofs.Ytdkpmaahinbhlaa
/- What spec.l1In answers: whether a number lies between two others. No condition. -/
namespace Go.Proofs.Ytdkpmaahinbhlaa
open Go.RowKit

theorem l1In_yes (a lo hi : Int) (w : World) (h1 : lo ≤ a) (h2 : a ≤ hi) :
    Calls Try.prog 125 #[.int .i64 a, .int .i64 lo, .int .i64 hi] w fun e w' => e = .returned (.bool true) ∧ w = w' := by
  have h1' : decide (lo ≤ a) = true := by simpa using h1
  have h2' : decide (a ≤ hi) = true := by simpa using h2
  go_enter Try.func125, Try.ntmps125
  go_wp2
  go_ret
  exact ⟨rfl, rfl⟩

theorem l1In_no (a lo hi : Int) (w : World) (h : a < lo ∨ hi < a) :
    Calls Try.prog 125 #[.int .i64 a, .int .i64 lo, .int .i64 hi] w fun e w' => e = .returned (.bool false) ∧ w = w' := by
  by_cases h1 : lo ≤ a
  · have h2 : hi < a := by omega
    have h1' : decide (lo ≤ a) = true := by simpa using h1
    have h2' : decide (a ≤ hi) = false := by simp; omega
    clear h
    go_enter Try.func125, Try.ntmps125
    go_wp2
    go_ret
    exact ⟨rfl, rfl⟩
  · have h1' : decide (lo ≤ a) = false := by simpa using h1
    clear h
    go_enter Try.func125, Try.ntmps125
    go_wp2
    go_ret
    exact ⟨rfl, rfl⟩
end Go.Proofs.Ytdkpmaahinbhlaa
/- What spec.l2After and spec.IsGraph answer. No condition. -/
namespace Go.Proofs.Ytdkpmaahinbhlaa
open Go.RowKit

/-- One bar stands before or beside another. -/
def aftB (a b : Int × Int) : Bool := decide (a.1 < b.1 ∨ a.1 = b.1 ∧ a.2 ≤ b.2)

theorem after_yes (a b : Int × Int) (w : World) (h : aftB a b = true) :
    Calls Try.prog 190 #[.agg #[.int .i64 a.1, .int .i64 a.2], .agg #[.int .i64 b.1, .int .i64 b.2]] w fun e w' => e = .returned (.bool true) ∧ Below w.heap.size w w' := by
  obtain ⟨x, y⟩ := a
  obtain ⟨u, v⟩ := b
  have h' : x < u ∨ (¬ x < u ∧ x = u ∧ y ≤ v) := by
    have := of_decide_eq_true h
    simp only at this
    omega
  clear h
  rcases h' with h | ⟨h1, rfl, h3⟩
  all_goals
    go_enter Try.func190, Try.ntmps190
    go_wp2
    go_ret
    exact ⟨by simp [*], ((Below.refl _ _).alloc (Nat.le_refl _) _).alloc (by simp) _⟩
theorem after_no (a b : Int × Int) (w : World) (h : aftB a b = false) :
    Calls Try.prog 190 #[.agg #[.int .i64 a.1, .int .i64 a.2], .agg #[.int .i64 b.1, .int .i64 b.2]] w fun e w' => e = .returned (.bool false) ∧ Below w.heap.size w w' := by
  obtain ⟨x, y⟩ := a
  obtain ⟨u, v⟩ := b
  have h' : (u < x) ∨ (x = u ∧ v < y) := by
    have := of_decide_eq_false h
    simp only at this
    omega
  clear h
  rcases h' with h | ⟨rfl, h3⟩
  · have hne : (x == u) = false := by simp; omega
    go_enter Try.func190, Try.ntmps190
    go_wp2
    go_ret
    exact ⟨by simp; omega, ((Below.refl _ _).alloc (Nat.le_refl _) _).alloc (by simp) _⟩
  · go_enter Try.func190, Try.ntmps190
    go_wp2
    go_ret
    exact ⟨by simp; omega, ((Below.refl _ _).alloc (Nat.le_refl _) _).alloc (by simp) _⟩

/-- The bar at place i is as a graph of p points wants it. -/
def OkBar (p : Int) (l : List (Int × Int)) (i : Nat) : Prop :=
  0 ≤ (l.getD i (0, 0)).1 ∧ (l.getD i (0, 0)).1 < (l.getD i (0, 0)).2 ∧ (l.getD i (0, 0)).2 < p ∧ (0 < i → aftB (l.getD (i - 1) (0, 0)) (l.getD i (0, 0)) = true)
/-- A graph. -/
def IsG (p : Int) (l : List (Int × Int)) : Prop := (1 ≤ p ∧ p ≤ 8) ∧ l.length ≤ 24 ∧ ∀ i, i < l.length → OkBar p l i
open Classical in
noncomputable def isGB (p : Int) (l : List (Int × Int)) : Bool := if IsG p l then true else false
theorem isGB_yes {p : Int} {l : List (Int × Int)} (h : IsG p l) : isGB p l = true := by unfold isGB; rw [if_pos h]
theorem isGB_no {p : Int} {l : List (Int × Int)} (h : ¬ IsG p l) : isGB p l = false := by unfold isGB; rw [if_neg h]

set_option maxHeartbeats 1000000 in
set_option maxRecDepth 100000 in
theorem specIsGraph (p : Int) (l : List (Int × Int)) (A : Option Addr) (cap : Nat) (w : World) (hl : BarsAt w w.heap.size A l) (hn : l.length ≤ 140737488351232) :
    Calls Try.prog 118 #[.agg #[.int .i64 p, .slice A l.length cap]] w fun e w' => e = .returned (.bool (isGB p l)) ∧ Below w.heap.size w w' := by
  have hA : Below w.heap.size w (w.alloc (.cells #[.int .i64 p, .slice A l.length cap] 26)) := (Below.refl _ _).alloc (Nat.le_refl _) _
  have HL := Lib.hid hl
  have HA := Lib.hid hA
  clear hl hA
  by_cases hp : 1 ≤ p ∧ p ≤ 8
  · by_cases h24 : l.length ≤ 24
    · have hc0 : (w.alloc (.cells #[.int .i64 p, .slice A l.length cap] 26)).cell? ⟨w.heap.size, 0, none⟩ = some (.int .i64 p) := by rw [World.cell?_alloc_at _ _ _ _ rfl]; rfl
      have hc1 : (w.alloc (.cells #[.int .i64 p, .slice A l.length cap] 26)).cell? ⟨w.heap.size, 1, none⟩ = some (.slice A l.length cap) := by rw [World.cell?_alloc_at _ _ _ _ rfl]; rfl
      have HC0 := Lib.hid hc0
      have HC1 := Lib.hid hc1
      clear hc0 hc1
      go_enter Try.func118, Try.ntmps118
      go_wp2_with fail
      refine (l1In_yes _ _ _ _ hp.1 hp.2).mono ?_
      rintro e w1 ⟨rfl, rfl⟩
      go_wp2_with fail
      go_loopw [3] (fun i wr => ∃ k : Nat, k ≤ l.length ∧ i = .int .i64 k ∧ (∀ j, j < k → OkBar p l j) ∧ Below (w.heap.size + 1) (w.alloc (.cells #[.int .i64 p, .slice A l.length cap] 26)) wr) (fun i _ => l.length - (intOf i).toNat)
      case atStart => exact ⟨0, by omega, rfl, fun j hj => absurd hj (by omega), Below.refl _ _⟩
      case round =>
        obtain ⟨k, hk, rfl, hok, hb⟩ := hrel
        have hg0 := (hb.cell (p := ⟨w.heap.size, 0, none⟩) (by simp)).trans HC0.out
        have hg1 := (hb.cell (p := ⟨w.heap.size, 1, none⟩) (by simp)).trans HC1.out
        have hbs := hb.size
        have HB := Lib.hid hb
        have HOK := Lib.hid hok
        clear hb hok
        simp only [World.size_alloc] at hbs
        by_cases hlt : k < l.length
        · have hi : (k : Int) < (l.length : Int) := by omega
          obtain ⟨b, off, rfl, hbB, hcell⟩ := HL.out (by omega)
          have hx1 := (((HA.out.trans (HB.out.mono (by omega))).cell (p := ⟨b, off + k * 2, none⟩) hbB).trans (hcell k hlt).1)
          have hx2 := (((HA.out.trans (HB.out.mono (by omega))).cell (p := ⟨b, off + k * 2 + 1, none⟩) hbB).trans (hcell k hlt).2)
          have HW := Lib.hid (HA.out.trans (HB.out.mono (by omega : w.heap.size ≤ w.heap.size + 1)))
          have HPREV := Lib.hid (show 0 < k → wr.cell? ⟨b, off + (k - 1) * 2, none⟩ = some (.int .i64 (l.getD (k - 1) (0, 0)).1) ∧ wr.cell? ⟨b, off + (k - 1) * 2 + 1, none⟩ = some (.int .i64 (l.getD (k - 1) (0, 0)).2) from fun h0 =>
            ⟨(HW.out.cell (p := ⟨b, off + (k - 1) * 2, none⟩) hbB).trans (hcell (k - 1) (by omega)).1, (HW.out.cell (p := ⟨b, off + (k - 1) * 2 + 1, none⟩) hbB).trans (hcell (k - 1) (by omega)).2⟩)
          have HOKK := Lib.hid (fun h : IsG p l => h.2.2 k hlt)
          have HSTEP := Lib.hid (show OkBar p l k → ∀ j, j < k + 1 → OkBar p l j from fun h j hj => by
            by_cases e : j = k
            · subst e; exact h
            · exact HOK.out j (by omega))
          have hOKdef : OkBar p l k = (0 ≤ (l.getD k (0, 0)).1 ∧ (l.getD k (0, 0)).1 < (l.getD k (0, 0)).2 ∧ (l.getD k (0, 0)).2 < p ∧ (0 < k → aftB (l.getD (k - 1) (0, 0)) (l.getD k (0, 0)) = true)) := rfl
          have HDEF := Lib.hid hOKdef
          clear hcell hOKdef
          obtain ⟨x, hx⟩ : ∃ x, l.getD k (0, 0) = x := ⟨_, rfl⟩
          obtain ⟨q, hq⟩ : ∃ q, l.getD (k - 1) (0, 0) = q := ⟨_, rfl⟩
          rw [hx] at hx1 hx2
          rw [hx, hq] at HDEF
          rw [hq] at HPREV
          clear hx hq
          obtain ⟨x1, x2⟩ := x
          simp only at hx1 hx2 HDEF
          go_wp2_with fail
          have hal : Below wr.heap.size wr (wr.alloc (.cells #[.int .i64 x1, .int .i64 x2] 108)) := (Below.refl _ _).alloc (Nat.le_refl _) _
          have hw0 := (hal.cell (p := ⟨w.heap.size, 0, none⟩) (show w.heap.size < wr.heap.size by omega)).trans hg0
          have hw1 := (hal.cell (p := ⟨w.heap.size, 1, none⟩) (show w.heap.size < wr.heap.size by omega)).trans hg1
          have hw2 : (wr.alloc (.cells #[.int .i64 x1, .int .i64 x2] 108)).cell? ⟨wr.heap.size, 0, none⟩ = some (.int .i64 x1) := by rw [World.cell?_alloc_at _ _ _ _ rfl]; rfl
          have hw3 : (wr.alloc (.cells #[.int .i64 x1, .int .i64 x2] 108)).cell? ⟨wr.heap.size, 1, none⟩ = some (.int .i64 x2) := by rw [World.cell?_alloc_at _ _ _ _ rfl]; rfl
          have HWA := Lib.hid (HB.out.trans (hal.mono hbs))
          have HPA := Lib.hid (fun h0 : 0 < k => (⟨(hal.cell (p := ⟨b, off + (k - 1) * 2, none⟩) (show b < wr.heap.size by omega)).trans (HPREV.out h0).1, (hal.cell (p := ⟨b, off + (k - 1) * 2 + 1, none⟩) (show b < wr.heap.size by omega)).trans (HPREV.out h0).2⟩ : _ ∧ _))
          have hsA : (wr.alloc (.cells #[.int .i64 x1, .int .i64 x2] 108)).heap.size = wr.heap.size + 1 := by simp
          clear hal hx1 hx2 hg0 hg1
          generalize wr.alloc (.cells #[.int .i64 x1, .int .i64 x2] 108) = w2 at *
          by_cases c1 : x1 < 0
          · have Q := Lib.hid (isGB_no (p := p) (l := l) fun h => by have := HOKK.out h; rw [HDEF.out] at this; omega)
            go_quiet (fail)
            go_wp2_with fail
            go_ret
            exact ⟨by rw [Q.out]; rfl, (HA.out.trans (HWA.out.mono (by omega))).trans (below_drewN _ _ _)⟩
          · have d1 : decide (x1 < 0) = false := by simpa using c1
            by_cases c2 : x2 ≤ x1
            · have Q := Lib.hid (isGB_no (p := p) (l := l) fun h => by have := HOKK.out h; rw [HDEF.out] at this; omega)
              go_quiet (fail)
              go_wp2_with fail
              go_ret
              exact ⟨by rw [Q.out]; rfl, (HA.out.trans (HWA.out.mono (by omega))).trans (below_drewN _ _ _)⟩
            · have d2 : decide (x2 ≤ x1) = false := by simpa using c2
              by_cases c3 : p ≤ x2
              · have Q := Lib.hid (isGB_no (p := p) (l := l) fun h => by have := HOKK.out h; rw [HDEF.out] at this; omega)
                go_quiet (fail)
                go_wp2_with fail
                go_ret
                exact ⟨by rw [Q.out]; rfl, (HA.out.trans (HWA.out.mono (by omega))).trans (below_drewN _ _ _)⟩
              · have d3 : decide (p ≤ x2) = false := by simpa using c3
                by_cases c4 : k = 0
                · have hs := HSTEP.out (by rw [HDEF.out]; exact ⟨by omega, by omega, by omega, fun h => absurd h (by omega)⟩)
                  have HS := Lib.hid hs
                  have d4 : decide ((0 : Int) < (k : Int)) = false := by simp; omega
                  have d4n : decide (0 < k) = false := by simp; omega
                  clear hs c4
                  go_quiet (fail)
                  go_wp2_with fail
                  go_roundw
                  case rel => exact ⟨k + 1, by omega, by go_num, HS.out, HWA.out.trans (below_drewN _ _ _)⟩
                  case measure => simp [intOf]; omega
                · have d4 : (0 : Int) < (k : Int) := by omega
                  have d4n : decide (0 < k) = true := by simp; omega
                  obtain ⟨hp1, hp2⟩ := HPA.out (by omega)
                  have htn : ((k : Int) - 1).toNat = k - 1 := by omega
                  have hwr : IntKind.i64.wrap ((k : Int) - 1) = (k : Int) - 1 := IntWalk.i64_in _ (by omega)
                  have hk1 : 0 ≤ (k : Int) - 1 := by omega
                  have hk3 : (1 : Int) ≤ (k : Int) := by omega
                  have hk4 : 1 ≤ k := by omega
                  have hk2 : (k : Int) - 1 < (l.length : Int) := by omega
                  by_cases c5 : aftB q (x1, x2) = true
                  · have hs := HSTEP.out (by rw [HDEF.out]; exact ⟨by omega, by omega, by omega, fun _ => c5⟩)
                    have HS := Lib.hid hs
                    have H5 := Lib.hid c5
                    clear hs c5
                    go_still_tail 28, (by kernel_rfl)
                    change wpList _ _ _ _ _ w2.drew
                    go_wp2_with fail
                    refine (after_yes q (x1, x2) _ H5.out).mono ?_
                    rintro e w3 ⟨rfl, hb3⟩
                    have HB3 := Lib.hid ((HWA.out.drew).trans (hb3.mono (show w.heap.size + 1 ≤ w2.heap.size by omega)))
                    clear hb3
                    go_wp2_with fail
                    go_roundw
                    case rel => exact ⟨k + 1, by omega, by go_num, HS.out, HB3.out⟩
                    case measure => simp [intOf]; omega
                  · have Q := Lib.hid (isGB_no (p := p) (l := l) fun h => by have := HOKK.out h; rw [HDEF.out] at this; exact c5 (this.2.2.2 (by omega)))
                    have H5 := Lib.hid (show aftB q (x1, x2) = false by simpa using c5)
                    clear c5
                    go_still_tail 28, (by kernel_rfl)
                    change wpList _ _ _ _ _ w2.drew
                    go_wp2_with fail
                    refine (after_no q (x1, x2) _ H5.out).mono ?_
                    rintro e w3 ⟨rfl, hb3⟩
                    have HB3 := Lib.hid ((HWA.out.drew).trans (hb3.mono (show w.heap.size + 1 ≤ w2.heap.size by omega)))
                    clear hb3
                    go_wp2_with fail
                    go_ret
                    exact ⟨by rw [Q.out]; rfl, HA.out.trans (HB3.out.mono (by omega))⟩
        · obtain rfl : k = l.length := by omega
          have Q := Lib.hid (isGB_yes (p := p) (l := l) ⟨hp, h24, HOK.out⟩)
          go_wp2_with fail
          go_ret
          exact ⟨by rw [Q.out]; rfl, HA.out.trans (HB.out.mono (by omega))⟩
    · have Q := Lib.hid (isGB_no (p := p) (l := l) fun h => h24 h.2.1)
      have h24' : (24 : Int) < (l.length : Int) := by omega
      go_enter Try.func118, Try.ntmps118
      go_wp2_with fail
      refine (l1In_yes _ _ _ _ hp.1 hp.2).mono ?_
      rintro e w1 ⟨rfl, rfl⟩
      go_wp2_with fail
      go_ret
      exact ⟨by rw [Q.out]; rfl, HA.out⟩
  · have Q := Lib.hid (isGB_no (p := p) (l := l) fun h => hp h.1)
    have HP := Lib.hid (show p < 1 ∨ 8 < p by omega)
    clear hp
    go_enter Try.func118, Try.ntmps118
    go_wp2_with fail
    refine (l1In_no _ _ _ _ HP.out).mono ?_
    rintro e w1 ⟨rfl, rfl⟩
    go_wp2_with fail
    go_ret
    exact ⟨by rw [Q.out]; rfl, HA.out⟩
end Go.Proofs.Ytdkpmaahinbhlaa
/- Words on lists of bars, of no program: counting, putting a bar in its place, and what is reached after some rounds. No condition. -/
namespace Go.Proofs.Ytdkpmaahinbhlaa

theorem take_getD {α : Type} (l : List α) (z : α) (k : Nat) (h : k < l.length) : l.take (k + 1) = l.take k ++ [l.getD k z] := by
  rw [List.take_succ_eq_append_getElem h]
  congr 2
  simp [List.getD, List.getElem?_eq_getElem h]
theorem countP_take (p : Int × Int → Bool) (l : List (Int × Int)) (k : Nat) (h : k < l.length) : (l.take (k + 1)).countP p = (l.take k).countP p + if p (l.getD k (0, 0)) then 1 else 0 := by
  rw [take_getD l (0, 0) k h, List.countP_append, List.countP_cons, List.countP_nil, Nat.zero_add]

/-- A bar between a and b. -/
def hitB (a b : Int) (x : Int × Int) : Bool := decide ((x.1 = a ∧ x.2 = b) ∨ (x.1 = b ∧ x.2 = a))
/-- A bar with the end v. -/
def endB (v : Int) (x : Int × Int) : Bool := decide (x.1 = v ∨ x.2 = v)

/-! What is reached. -/
def relaxF (S : Nat → Bool) (x : Int × Int) : Nat → Bool := fun v => S v || ((decide (v = x.1.toNat) || decide (v = x.2.toNat)) && (S x.1.toNat || S x.2.toNat))
def iterF (l : List (Int × Int)) : Nat → (Nat → Bool) → Nat → Bool
  | 0, S => S
  | k + 1, S => l.foldl relaxF (iterF l k S)
def rowB (n : Nat) (S : Nat → Bool) : List Bool := (List.range n).map S
theorem rowB_len (n : Nat) (S : Nat → Bool) : (rowB n S).length = n := by simp [rowB]
theorem rowB_get (n : Nat) (S : Nat → Bool) (v : Nat) (h : v < n) : (rowB n S)[v]? = some (S v) := by simp [rowB, h]
theorem rowB_set (n : Nat) (S : Nat → Bool) (x : Int × Int) :
    ((rowB n S).set x.1.toNat (S x.1.toNat || S x.2.toNat)).set x.2.toNat (S x.1.toNat || S x.2.toNat) = rowB n (relaxF S x) := by
  apply List.ext_getElem?
  intro i
  by_cases hi : i < n
  · rw [rowB_get n _ i hi, List.getElem?_set, List.getElem?_set, rowB_get n S i hi]
    simp only [List.length_set, rowB_len]
    by_cases h2 : x.2.toNat = i
    · subst h2
      simp [hi, relaxF]
      exact fun h => .inr h
    · by_cases h1 : x.1.toNat = i
      · subst h1
        simp [hi, relaxF, h2]
      · have h1' : ¬ i = x.1.toNat := fun h => h1 h.symm
        have h2' : ¬ i = x.2.toNat := fun h => h2 h.symm
        simp [h1, h2, h1', h2', relaxF]
  · rw [List.getElem?_eq_none (by simp [rowB_len]; omega), List.getElem?_eq_none (by simp [rowB_len]; omega)]
theorem relaxF_no (S : Nat → Bool) (x : Int × Int) (h : (S x.1.toNat || S x.2.toNat) = false) : relaxF S x = S := by
  funext v
  simp [relaxF, h]
theorem relaxF_ge (S : Nat → Bool) (x : Int × Int) (v : Nat) (h : S v = true) : relaxF S x v = true := by simp [relaxF, h]
theorem foldF_ge : ∀ (l : List (Int × Int)) (S : Nat → Bool) (v : Nat), S v = true → l.foldl relaxF S v = true := by
  intro l
  induction l with
  | nil => intro S v h; exact h
  | cons x l ih => intro S v h; exact ih _ v (relaxF_ge S x v h)
/-- The bars' ends lie below p. -/
def InP (p : Nat) (l : List (Int × Int)) : Prop := ∀ x ∈ l, x.1.toNat < p ∧ x.2.toNat < p
theorem foldF_agree (p : Nat) : ∀ (l : List (Int × Int)) (S T : Nat → Bool), InP p l → (∀ v, v < p → S v = T v) → ∀ v, v < p → l.foldl relaxF S v = l.foldl relaxF T v := by
  intro l
  induction l with
  | nil => intro S T _ h; exact h
  | cons x l ih =>
    intro S T hl h
    refine ih _ _ (fun y hy => hl y (List.mem_cons_of_mem _ hy)) fun v hv => ?_
    obtain ⟨h1, h2⟩ := hl x (List.mem_cons_self ..)
    simp [relaxF, h v hv, h _ h1, h _ h2]
/-- How many are reached below p. -/
def cntF (p : Nat) (S : Nat → Bool) : Nat := (List.range p).countP S
theorem cntF_step : ∀ (p : Nat) (S T : Nat → Bool), (∀ v, S v = true → T v = true) → cntF p S ≤ cntF p T ∧ (cntF p T ≤ cntF p S → ∀ v, v < p → T v = S v) := by
  intro p S T h
  induction p with
  | zero => exact ⟨Nat.le_refl _, fun _ v hv => absurd hv (by omega)⟩
  | succ p ih =>
    obtain ⟨i1, i2⟩ := ih
    unfold cntF at *
    rw [List.range_succ, List.countP_append, List.countP_append, List.countP_cons, List.countP_cons, List.countP_nil]
    have hp := h p
    have key : ∀ c : T p = S p, ∀ v, (List.countP T (List.range p) ≤ List.countP S (List.range p)) → v < p + 1 → T v = S v := fun c v hle hv => by
      by_cases e : v = p
      · subst e; exact c
      · exact i2 hle v (by omega)
    cases hs : S p <;> cases ht : T p
    · simp
      exact ⟨i1, fun hle v hv => key (by rw [hs, ht]) v hle hv⟩
    · simp
      exact ⟨by omega, fun hle => by omega⟩
    · rw [hs, ht] at hp; exact absurd (hp rfl) (by decide)
    · simp
      exact ⟨i1, fun hle v hv => key (by rw [hs, ht]) v hle hv⟩
theorem cntF_all : ∀ (p : Nat) (S : Nat → Bool), cntF p S ≤ p ∧ (p ≤ cntF p S → ∀ v, v < p → S v = true) := by
  intro p S
  induction p with
  | zero => exact ⟨Nat.le_refl _, fun _ v hv => absurd hv (by omega)⟩
  | succ p ih =>
    obtain ⟨i1, i2⟩ := ih
    unfold cntF at *
    rw [List.range_succ, List.countP_append, List.countP_cons, List.countP_nil]
    cases hs : S p
    · simp
      exact ⟨by omega, fun hle => by omega⟩
    · simp
      refine ⟨i1, fun hle v hv => ?_⟩
      by_cases e : v = p
      · subst e; exact hs
      · exact i2 hle v (by omega)
theorem cntF_one (p v0 : Nat) (h : v0 < p) : 1 ≤ cntF p (fun v => decide (v = v0)) := by
  unfold cntF
  exact List.countP_pos_iff.2 ⟨v0, List.mem_range.2 h, by simp⟩
theorem iter_grow (p : Nat) (l : List (Int × Int)) (hl : InP p l) (v0 : Nat) (h0 : v0 < p) : ∀ k, (∀ v, v < p → iterF l (k + 1) (fun v => decide (v = v0)) v = iterF l k (fun v => decide (v = v0)) v) ∨ k + 1 ≤ cntF p (iterF l k (fun v => decide (v = v0))) := by
  intro k
  induction k with
  | zero => exact .inr (cntF_one p v0 h0)
  | succ k ih =>
    have again : (∀ v, v < p → iterF l (k + 1) (fun v => decide (v = v0)) v = iterF l k (fun v => decide (v = v0)) v) → ∀ v, v < p → iterF l (k + 1 + 1) (fun v => decide (v = v0)) v = iterF l (k + 1) (fun v => decide (v = v0)) v := fun h => foldF_agree p l _ _ hl h
    rcases ih with h | h
    · exact .inl (again h)
    · have hs := cntF_step p (iterF l k (fun v => decide (v = v0))) (iterF l (k + 1) (fun v => decide (v = v0))) (fun v hv => foldF_ge l _ v hv)
      by_cases hc : k + 1 + 1 ≤ cntF p (iterF l (k + 1) (fun v => decide (v = v0)))
      · exact .inr hc
      · exact .inl (again (hs.2 (by omega)))
/-- One round less than there are points is enough. -/
theorem iter_enough (p : Nat) (l : List (Int × Int)) (hl : InP (p + 1) l) (v0 : Nat) (h0 : v0 < p + 1) (v : Nat) (hv : v < p + 1) : iterF l (p + 1) (fun v => decide (v = v0)) v = iterF l p (fun v => decide (v = v0)) v := by
  rcases iter_grow (p + 1) l hl v0 h0 p with h | h
  · exact h v hv
  · have := (cntF_all (p + 1) _).2 h v hv
    rw [this]
    exact foldF_ge l _ v this
/-- The points below n that are reached. -/
def outF (n : Nat) (S : Nat → Bool) : List Int := ((List.range n).filter S).map fun (v : Nat) => (v : Int)
theorem outF_succ (n : Nat) (S : Nat → Bool) : outF (n + 1) S = outF n S ++ if S n then [(n : Int)] else [] := by
  unfold outF
  rw [List.range_succ, List.filter_append, List.map_append]
  cases h : S n <;> simp [h]
theorem outF_agree (n : Nat) (S T : Nat → Bool) (h : ∀ v, v < n → S v = T v) : outF n S = outF n T := by
  unfold outF
  congr 1
  exact List.filter_congr fun v hv => h v (List.mem_range.1 hv)
theorem outF_len (n : Nat) (S : Nat → Bool) : (outF n S).length ≤ n := by
  unfold outF
  rw [List.length_map]
  exact Nat.le_trans (List.length_filter_le _ _) (by simp)

/-! A bar in its place. -/
/-- Behind all that are not greater. -/
def insU (x : Int × Int) : List (Int × Int) → List (Int × Int)
  | [] => [x]
  | y :: t => if aftB y x then y :: insU x t else x :: y :: t
theorem insU_all (x : Int × Int) : ∀ t u : List (Int × Int), (∀ y ∈ t, aftB y x = true) → insU x (t ++ u) = t ++ insU x u := by
  intro t u
  induction t with
  | nil => intro _; rfl
  | cons y t ih =>
    intro h
    rw [List.cons_append, insU, if_pos (h y (List.mem_cons_self ..)), ih fun z hz => h z (List.mem_cons_of_mem _ hz)]
    rfl
theorem insU_some (x : Int × Int) : ∀ t u : List (Int × Int), (∃ y ∈ t, aftB y x = false) → insU x (t ++ u) = insU x t ++ u := by
  intro t u
  induction t with
  | nil => rintro ⟨y, hy, _⟩; cases hy
  | cons y t ih =>
    rintro ⟨z, hz, h⟩
    rw [List.cons_append, insU, insU]
    by_cases c : aftB y x = true
    · rw [if_pos c, if_pos c, ih ?_]
      · rfl
      · rcases List.mem_cons.1 hz with rfl | hz
        · rw [c] at h; cases h
        · exact ⟨z, hz, h⟩
    · rw [if_neg c, if_neg c]
      rfl
/-- How many stand before x, as long as they do. -/
def lowB (x : Int × Int) : List (Int × Int) → Nat
  | [] => 0
  | y :: t => if aftB x y then 0 else lowB x t + 1
/-- The bars stand in their order. -/
def OrdB (l : List (Int × Int)) : Prop := l.Pairwise fun a b => aftB a b = true
theorem aftB_trans {a b c : Int × Int} (h : aftB a b = true) (k : aftB b c = true) : aftB a c = true := by
  simp [aftB] at *
  omega
theorem aftB_anti {a b : Int × Int} (h : aftB a b = true) (k : aftB b a = true) : a = b := by
  obtain ⟨a1, a2⟩ := a
  obtain ⟨b1, b2⟩ := b
  simp [aftB] at *
  omega
theorem aftB_total (a b : Int × Int) (h : aftB a b = false) : aftB b a = true := by
  simp [aftB] at *
  omega
theorem insU_front (x : Int × Int) : ∀ t : List (Int × Int), (∀ y ∈ t, aftB x y = true) → insU x t = x :: t := by
  intro t
  induction t with
  | nil => intro _; rfl
  | cons y t ih =>
    intro h
    have hy := h y (List.mem_cons_self ..)
    unfold insU
    by_cases c : aftB y x = true
    · have e : y = x := aftB_anti c hy
      subst e
      rw [if_pos c, ih fun z hz => h z (List.mem_cons_of_mem _ hz)]
    · rw [if_neg c]
theorem insU_low (x : Int × Int) : ∀ l : List (Int × Int), OrdB l → insU x l = l.take (lowB x l) ++ x :: l.drop (lowB x l) := by
  intro l
  induction l with
  | nil => intro _; rfl
  | cons y t ih =>
    intro h
    have h' := List.pairwise_cons.1 h
    unfold lowB
    by_cases c : aftB x y = true
    · rw [if_pos c, List.take_zero, List.drop_zero, List.nil_append]
      exact insU_front x (y :: t) fun z hz => by
        rcases List.mem_cons.1 hz with rfl | hz
        · exact c
        · exact aftB_trans c (h'.1 z hz)
    · rw [if_neg c, List.take_succ_cons, List.drop_succ_cons]
      have c' := aftB_total x y (by simpa using c)
      rw [insU, if_pos c', ih h'.2]
      rfl
theorem lowB_le (x : Int × Int) : ∀ l : List (Int × Int), lowB x l ≤ l.length := by
  intro l
  induction l with
  | nil => exact Nat.le_refl _
  | cons y t ih =>
    unfold lowB
    split
    · exact Nat.zero_le _
    · simpa using ih
/-- Before that place all stand before x, and from there on x stands before or beside all. -/
theorem lowB_at (x : Int × Int) : ∀ l : List (Int × Int), OrdB l → ∀ i, i < l.length → (aftB x (l.getD i (0, 0)) = true ↔ lowB x l ≤ i) := by
  intro l
  induction l with
  | nil => intro _ i hi; simp at hi
  | cons y t ih =>
    intro h i hi
    have h' := List.pairwise_cons.1 h
    unfold lowB
    by_cases c : aftB x y = true
    · rw [if_pos c]
      refine ⟨fun _ => Nat.zero_le _, fun _ => ?_⟩
      rcases i with _ | i
      · exact c
      · have hi' : i < t.length := by simpa using hi
        have : (y :: t).getD (i + 1) (0, 0) = t[i] := by simp [List.getD, List.getElem?_eq_getElem hi']
        rw [this]
        exact aftB_trans c (h'.1 _ (List.getElem_mem hi'))
    · rw [if_neg c]
      rcases i with _ | i
      · simp [List.getD]
        simpa using c
      · have := ih h'.2 i (by simpa using hi)
        simp only [List.getD_cons_succ]
        rw [this]
        omega
theorem insU_len (x : Int × Int) : ∀ l : List (Int × Int), (insU x l).length = l.length + 1 := by
  intro l
  induction l with
  | nil => rfl
  | cons y t ih =>
    unfold insU
    split
    · simp [ih]
    · simp
theorem isG_ord {p : Int} {l : List (Int × Int)} (h : IsG p l) : OrdB l := by
  have key : ∀ (d i : Nat), i + d + 1 < l.length → aftB (l.getD i (0, 0)) (l.getD (i + d + 1) (0, 0)) = true := by
    intro d
    induction d with
    | zero =>
      intro i hi
      have := (h.2.2 (i + 1) hi).2.2.2 (by omega)
      simpa using this
    | succ d ih =>
      intro i hi
      refine aftB_trans (ih i (by omega)) ?_
      have := (h.2.2 (i + d + 2) (by omega)).2.2.2 (by omega)
      have e : i + d + 2 - 1 = i + d + 1 := by omega
      rw [e] at this
      exact this
  refine List.pairwise_iff_getElem.2 fun i j hi hj hij => ?_
  have := key (j - i - 1) i (by omega)
  rw [show i + (j - i - 1) + 1 = j by omega] at this
  simpa [List.getD, List.getElem?_eq_getElem hi, List.getElem?_eq_getElem hj] using this
theorem isG_in {p : Int} {l : List (Int × Int)} (h : IsG p l) : InP p.toNat l := by
  intro x hx
  obtain ⟨i, hi, rfl⟩ := List.getElem_of_mem hx
  have := h.2.2 i hi
  simp only [OkBar, List.getD, List.getElem?_eq_getElem hi, Option.getD_some] at this
  omega
theorem isG_bar {p : Int} {l : List (Int × Int)} (h : IsG p l) (k : Nat) (hk : k < l.length) : 0 ≤ (l.getD k (0, 0)).1 ∧ (l.getD k (0, 0)).1 < (l.getD k (0, 0)).2 ∧ (l.getD k (0, 0)).2 < p := by
  have := h.2.2 k hk
  exact ⟨this.1, this.2.1, this.2.2.1⟩
end Go.Proofs.Ytdkpmaahinbhlaa
/- Sets of points as numbers, the bars that they span, and the first set that spans too many: words on lists, of no program. No condition. -/
namespace Go.Proofs.Ytdkpmaahinbhlaa
open Go.RowKit

def memS (zs : List Int) (v : Int) : Bool := decide (v ∈ zs)
/-- Does S hold both ends of bar number i? -/
def spanF (l : List (Int × Int)) (S : Int → Bool) (i : Nat) : Bool := S (l.getD i (0, 0)).1 && S (l.getD i (0, 0)).2
def spanL (l : List (Int × Int)) (S : Int → Bool) : List Int := outF l.length (spanF l S)
theorem spanL_len (l : List (Int × Int)) (S : Int → Bool) : (spanL l S).length ≤ l.length := outF_len _ _
theorem outF_count (n : Nat) (S : Nat → Bool) : (outF n S).length = (List.range n).countP S := by
  unfold outF
  rw [List.length_map, List.countP_eq_length_filter]
theorem count_range (l : List (Int × Int)) (f : Int × Int → Bool) : ∀ k, k ≤ l.length → (List.range k).countP (fun i => f (l.getD i (0, 0))) = (l.take k).countP f := by
  intro k
  induction k with
  | zero => intro _; simp
  | succ k ih =>
    intro h
    rw [List.range_succ, List.countP_append, countP_take f l k (by omega), ih (by omega), List.countP_cons, List.countP_nil, Nat.zero_add]
theorem mem_outF (n : Nat) (S : Nat → Bool) (v : Int) : v ∈ outF n S ↔ ∃ u : Nat, u < n ∧ S u = true ∧ v = (u : Int) := by
  unfold outF
  simp only [List.mem_map, List.mem_filter, List.mem_range]
  constructor
  · rintro ⟨u, ⟨h1, h2⟩, rfl⟩; exact ⟨u, h1, h2, rfl⟩
  · rintro ⟨u, h1, h2, rfl⟩; exact ⟨u, ⟨h1, h2⟩, rfl⟩
/-- The points of the set m below P. -/
def setL (P m : Nat) : List Int := outF P (fun v => m.testBit v)
theorem setL_len (P m : Nat) : (setL P m).length ≤ P := outF_len _ _
def bothB (m : Nat) (x : Int × Int) : Bool := m.testBit x.1.toNat && m.testBit x.2.toNat
/-- How many bars the set m spans. -/
def cntS (l : List (Int × Int)) (m : Nat) : Nat := l.countP (bothB m)
theorem memS_set (P m : Nat) (v : Int) (h0 : 0 ≤ v) (h1 : v < (P : Int)) : memS (setL P m) v = m.testBit v.toNat := by
  unfold memS setL
  cases h : m.testBit v.toNat with
  | true => exact decide_eq_true ((mem_outF _ _ _).2 ⟨v.toNat, by omega, h, by omega⟩)
  | false =>
    refine decide_eq_false fun hm => ?_
    obtain ⟨u, _, h2, h3⟩ := (mem_outF _ _ _).1 hm
    have : v.toNat = u := by omega
    rw [this, h2] at h
    cases h
theorem span_cnt (P m : Nat) (l : List (Int × Int)) (hl : ∀ i, i < l.length → 0 ≤ (l.getD i (0, 0)).1 ∧ (l.getD i (0, 0)).1 < (l.getD i (0, 0)).2 ∧ (l.getD i (0, 0)).2 < (P : Int)) : (spanL l (memS (setL P m))).length = cntS l m := by
  unfold spanL cntS
  rw [outF_count]
  have h := count_range l (bothB m) l.length (Nat.le_refl _)
  rw [List.take_length] at h
  rw [← h]
  refine List.countP_congr fun i hi => ?_
  have hi' := hl i (List.mem_range.1 hi)
  unfold spanF bothB
  rw [memS_set P m _ (by omega) (by omega), memS_set P m _ (by omega) (by omega)]
theorem cntS_le (l : List (Int × Int)) (m : Nat) : cntS l m ≤ l.length := List.countP_le_length
theorem cntS_zero (l : List (Int × Int)) : cntS l 0 = 0 := by
  unfold cntS
  rw [List.countP_eq_zero]
  intro x _
  simp [bothB]
def rangeB (k c : Int) : Bool := decide (1 ≤ k) && decide (k ≤ 3) && decide (0 ≤ c) && decide (c ≤ 2 * k - 1)
/-- Does the set m span too many bars? -/
def badS (l : List (Int × Int)) (k c : Int) (P m : Nat) : Bool := decide (0 < cntS l m) && decide (k * ((setL P m).length : Int) - c < (cntS l m : Int))
theorem badS_zero (l : List (Int × Int)) (k c : Int) (P : Nat) : badS l k c P 0 = false := by simp [badS, cntS_zero]
/-- The first set that spans too many. -/
noncomputable def overM (p : Int) (l : List (Int × Int)) (k c : Int) : Option Nat := if (isGB p l && rangeB k c) = true then (List.range (2 ^ p.toNat)).find? (badS l k c p.toNat) else none
noncomputable def overL (p : Int) (l : List (Int × Int)) (k c : Int) : List Int := match overM p l k c with | some m => setL p.toNat m | none => []
noncomputable def overB (p : Int) (l : List (Int × Int)) (k c : Int) : Bool := (overM p l k c).isSome
theorem over_no {p k c : Int} {l : List (Int × Int)} (h : isGB p l = false ∨ rangeB k c = false) : overL p l k c = [] ∧ overB p l k c = false := by
  have : overM p l k c = none := by
    unfold overM
    rw [if_neg]
    rcases h with h | h <;> rw [h] <;> simp
  unfold overL overB
  rw [this]
  exact ⟨rfl, rfl⟩
theorem over_none {P : Nat} {k c : Int} {l : List (Int × Int)} (h : ∀ m, m < 2 ^ P → badS l k c P m = false) : overL (P : Int) l k c = [] ∧ overB (P : Int) l k c = false := by
  have : overM (P : Int) l k c = none := by
    unfold overM
    split
    · rw [List.find?_eq_none]
      intro m hm
      rw [Int.toNat_natCast] at *
      rw [h m (List.mem_range.1 hm)]
      simp
    · rfl
  unfold overL overB
  rw [this]
  exact ⟨rfl, rfl⟩
theorem over_some {P m : Nat} {k c : Int} {l : List (Int × Int)} (hg : isGB (P : Int) l = true) (hr : rangeB k c = true) (h : ∀ i, i < m → badS l k c P i = false) (hm : m < 2 ^ P) (hb : badS l k c P m = true) : overL (P : Int) l k c = setL P m ∧ overB (P : Int) l k c = true := by
  have : overM (P : Int) l k c = some m := by
    unfold overM
    rw [if_pos (by rw [hg, hr]; rfl), Int.toNat_natCast]
    rw [List.find?_range_eq_some]
    refine ⟨hb, List.mem_range.2 hm, fun j hj => ?_⟩
    rw [h j hj]
    rfl
  unfold overL overB
  rw [this]
  exact ⟨rfl, rfl⟩
theorem overL_len (p : Int) (l : List (Int × Int)) (k c : Int) : (overL p l k c).length ≤ 8 := by
  by_cases h : isGB p l = true
  · have hG : IsG p l := Classical.byContradiction fun g => by rw [isGB_no g] at h; cases h
    unfold overL
    split
    · have := setL_len p.toNat ‹_›
      have := hG.1
      omega
    · simp
  · rw [(over_no (k := k) (c := c) (.inl (by simpa using h))).1]
    simp
/-- The counts of bits of the sets below 2 ^ P, P at most 8. -/
theorem bit_and (k : IntKind) (hk : k = .i64 ∨ k = .u64) : ∀ m : Nat, m < 256 → ∀ v : Nat, v < 8 → bits .and k ((m : Int) / 2 ^ v) 1 = if m.testBit v then 1 else 0 := by
  rcases hk with rfl | rfl <;> decide +kernel
/-- Numbers of 64 bits. -/
def Wf (x : Int) : Prop := (Lit.int .i64 x).wf = true
def WfB (l : List (Int × Int)) : Prop := ∀ k, k < l.length → Wf (l.getD k (0, 0)).1 ∧ Wf (l.getD k (0, 0)).2
def WfI (zs : List Int) : Prop := ∀ k, k < zs.length → Wf (zs.getD k 0)
end Go.Proofs.Ytdkpmaahinbhlaa
/- The pebble game on lists: the search by breadth, the path turned round, the gathering. No program. No condition. -/
namespace Go.Proofs.Ytdkpmaahinbhlaa

/-- The other end of a bar. -/
def oth (x : Int × Int) (v : Int) : Int := x.1 + x.2 - v
def isEnd (x : Int × Int) (v : Int) : Prop := v = x.1 ∨ v = x.2
theorem oth_oth (x : Int × Int) (v : Int) : oth x (oth x v) = v := by unfold oth; omega
theorem oth_end {x : Int × Int} {v : Int} (h : isEnd x v) : isEnd x (oth x v) := by unfold isEnd oth at *; omega

/-- One bar looked at from the point v: its other end is put in the queue if it is new. -/
def scan1 (E : List (Int × Int)) (T : List Int) (v : Int) (q : List (Int × Nat)) (i : Nat) : List (Int × Nat) :=
  if T.getD i 0 = v ∧ oth (E.getD i (0, 0)) v ∉ q.map Prod.fst then q ++ [(oth (E.getD i (0, 0)) v, i)] else q
def scanN (E : List (Int × Int)) (T : List Int) (v : Int) (q : List (Int × Nat)) : Nat → List (Int × Nat)
  | 0 => q
  | n + 1 => scan1 E T v (scanN E T v q n) n
/-- The queue after k points were looked at. -/
def bfs (E : List (Int × Int)) (T : List Int) (a : Int) : Nat → List (Int × Nat)
  | 0 => [(a, 0)]
  | k + 1 => if k < (bfs E T a k).length then scanN E T ((bfs E T a k).getD k (0, 0)).1 (bfs E T a k) E.length else bfs E T a k

theorem bfs_succ (E : List (Int × Int)) (T : List Int) (a : Int) (k : Nat) : bfs E T a (k + 1) = if k < (bfs E T a k).length then scanN E T ((bfs E T a k).getD k (0, 0)).1 (bfs E T a k) E.length else bfs E T a k := rfl
theorem scan1_pre (E : List (Int × Int)) (T : List Int) (v : Int) (q : List (Int × Nat)) (i : Nat) : ∃ r, scan1 E T v q i = q ++ r := by
  unfold scan1
  split
  · exact ⟨_, rfl⟩
  · exact ⟨[], (List.append_nil _).symm⟩
theorem scanN_pre (E : List (Int × Int)) (T : List Int) (v : Int) (q : List (Int × Nat)) (n : Nat) : ∃ r, scanN E T v q n = q ++ r := by
  induction n with
  | zero => exact ⟨[], (List.append_nil _).symm⟩
  | succ n ih =>
    obtain ⟨r, h⟩ := ih
    obtain ⟨s, h2⟩ := scan1_pre E T v (scanN E T v q n) n
    exact ⟨r ++ s, by show scan1 E T v (scanN E T v q n) n = _; rw [h2, h, List.append_assoc]⟩
theorem scanN_mono (E : List (Int × Int)) (T : List Int) (v : Int) (q : List (Int × Nat)) (n m : Nat) : ∃ r, scanN E T v q (n + m) = scanN E T v q n ++ r := by
  induction m with
  | zero => exact ⟨[], (List.append_nil _).symm⟩
  | succ m ih =>
    obtain ⟨r, h⟩ := ih
    obtain ⟨s, h2⟩ := scan1_pre E T v (scanN E T v q (n + m)) (n + m)
    exact ⟨r ++ s, by show scan1 E T v (scanN E T v q (n + m)) (n + m) = _; rw [h2, h, List.append_assoc]⟩
theorem bfs_pre1 (E : List (Int × Int)) (T : List Int) (a : Int) (k : Nat) : ∃ r, bfs E T a (k + 1) = bfs E T a k ++ r := by
  rw [bfs_succ]
  split
  · exact scanN_pre ..
  · exact ⟨[], (List.append_nil _).symm⟩
theorem bfs_pre (E : List (Int × Int)) (T : List Int) (a : Int) (k m : Nat) : ∃ r, bfs E T a (k + m) = bfs E T a k ++ r := by
  induction m with
  | zero => exact ⟨[], (List.append_nil _).symm⟩
  | succ m ih =>
    obtain ⟨r, h⟩ := ih
    obtain ⟨s, h2⟩ := bfs_pre1 E T a (k + m)
    exact ⟨r ++ s, by show bfs E T a (k + m + 1) = _; rw [h2, h, List.append_assoc]⟩
theorem bfs_stop (E : List (Int × Int)) (T : List Int) (a : Int) (k m : Nat) (h : (bfs E T a k).length ≤ k) : bfs E T a (k + m) = bfs E T a k := by
  induction m with
  | zero => rfl
  | succ m ih =>
    rw [show k + (m + 1) = k + m + 1 by omega, bfs_succ, ih, if_neg (by omega)]

/-- How the queue is: each point but the first was reached along a bar whose tail was reached before. -/
structure GoodQ (P : Nat) (E : List (Int × Int)) (T : List Int) (a : Int) (q : List (Int × Nat)) : Prop where
  start : ∃ r, q = (a, 0) :: r
  step : ∀ q1 x q2, q = q1 ++ x :: q2 → q1 ≠ [] → x.1 ∉ q1.map Prod.fst ∧ x.2 < E.length ∧ T.getD x.2 0 = oth (E.getD x.2 (0, 0)) x.1 ∧ T.getD x.2 0 ∈ q1.map Prod.fst ∧ 0 ≤ x.1 ∧ x.1 < (P : Int)
  len : q.length ≤ cntF P (fun v => decide ((v : Int) ∈ q.map Prod.fst))

theorem GoodQ.snoc {P : Nat} {E : List (Int × Int)} {T : List Int} {a : Int} {q : List (Int × Nat)} (h : GoodQ P E T a q) {x : Int × Nat}
    (h1 : x.1 ∉ q.map Prod.fst) (h2 : x.2 < E.length) (h3 : T.getD x.2 0 = oth (E.getD x.2 (0, 0)) x.1) (h4 : T.getD x.2 0 ∈ q.map Prod.fst) (h5 : 0 ≤ x.1 ∧ x.1 < (P : Int)) : GoodQ P E T a (q ++ [x]) := by
  refine ⟨?_, ?_, ?_⟩
  · obtain ⟨r, e⟩ := h.start
    exact ⟨r ++ [x], by rw [e]; rfl⟩
  · intro q1 y q2 e hne
    rcases List.eq_nil_or_concat q2 with rfl | ⟨q3, z, rfl⟩
    · obtain ⟨rfl, e2⟩ := List.append_inj' e rfl
      cases e2
      exact ⟨h1, h2, h3, h4, h5⟩
    · have e' : q ++ [x] = (q1 ++ y :: q3) ++ [z] := by rw [e]; simp
      obtain ⟨e3, _⟩ := List.append_inj' e' rfl
      exact h.step q1 y q3 e3 hne
  · have hs := cntF_step P (fun v => decide ((v : Int) ∈ q.map Prod.fst)) (fun v => decide ((v : Int) ∈ (q ++ [x]).map Prod.fst)) (fun v hv => by
      have := of_decide_eq_true hv
      refine decide_eq_true ?_
      rw [List.map_append]
      exact List.mem_append_left _ this)
    have hlt : ¬ cntF P (fun v => decide ((v : Int) ∈ (q ++ [x]).map Prod.fst)) ≤ cntF P (fun v => decide ((v : Int) ∈ q.map Prod.fst)) := fun hle => by
      have := hs.2 hle x.1.toNat (by omega)
      have e : ((x.1.toNat : Nat) : Int) = x.1 := by omega
      rw [e] at this
      rw [decide_eq_false h1, decide_eq_true (by simp)] at this
      cases this
    have := h.len
    simp only [List.length_append, List.length_cons, List.length_nil]
    omega
theorem GoodQ.short {P : Nat} {E : List (Int × Int)} {T : List Int} {a : Int} {q : List (Int × Nat)} (h : GoodQ P E T a q) : q.length ≤ P := Nat.le_trans h.len (cntF_all P _).1
theorem goodQ_one {P : Nat} (E : List (Int × Int)) (T : List Int) {a : Int} (h0 : 0 ≤ a) (h1 : a < (P : Int)) : GoodQ P E T a [(a, 0)] := by
  refine ⟨⟨[], rfl⟩, ?_, ?_⟩
  · intro q1 x q2 e hne
    cases q1 with
    | nil => exact absurd rfl hne
    | cons y t =>
      have := congrArg List.length e
      simp at this
  · have := cntF_one P a.toNat (by omega)
    have e : (fun v : Nat => decide ((v : Int) ∈ [(a, (0 : Nat))].map Prod.fst)) = fun v => decide (v = a.toNat) := by
      funext v
      by_cases h : v = a.toNat
      · rw [decide_eq_true h, decide_eq_true]; simp; omega
      · rw [decide_eq_false h, decide_eq_false]; simp; omega
    rw [e]
    exact this
/-- The bars of a state: their ends are points, and the tails are ends. -/
structure EndsQ (P : Nat) (E : List (Int × Int)) (T : List Int) : Prop where
  len : T.length = E.length
  bar : ∀ i, i < E.length → 0 ≤ (E.getD i (0, 0)).1 ∧ (E.getD i (0, 0)).1 < (E.getD i (0, 0)).2 ∧ (E.getD i (0, 0)).2 < (P : Int)
  tail : ∀ i, i < E.length → isEnd (E.getD i (0, 0)) (T.getD i 0)
theorem EndsQ.oth_in {P : Nat} {E : List (Int × Int)} {T : List Int} (h : EndsQ P E T) {i : Nat} (hi : i < E.length) {v : Int} (hv : T.getD i 0 = v) : 0 ≤ oth (E.getD i (0, 0)) v ∧ oth (E.getD i (0, 0)) v < (P : Int) ∧ oth (E.getD i (0, 0)) v ≠ v := by
  have h1 := h.bar i hi
  have h2 := h.tail i hi
  rw [hv] at h2
  unfold isEnd at h2
  unfold oth
  omega
theorem GoodQ.scan {P : Nat} {E : List (Int × Int)} {T : List Int} {a : Int} {q : List (Int × Nat)} (h : GoodQ P E T a q) (he : EndsQ P E T) {v : Int} (hv : v ∈ q.map Prod.fst) : ∀ n, n ≤ E.length → GoodQ P E T a (scanN E T v q n) ∧ v ∈ (scanN E T v q n).map Prod.fst := by
  intro n
  induction n with
  | zero => intro _; exact ⟨h, hv⟩
  | succ n ih =>
    intro hn
    obtain ⟨i1, i2⟩ := ih (by omega)
    have e : scanN E T v q (n + 1) = scan1 E T v (scanN E T v q n) n := rfl
    rw [e]
    unfold scan1
    by_cases c : T.getD n 0 = v ∧ oth (E.getD n (0, 0)) v ∉ (scanN E T v q n).map Prod.fst
    · rw [if_pos c]
      have ho := he.oth_in (i := n) (by omega) c.1
      refine ⟨i1.snoc c.2 (by show n < E.length; omega) ?_ ?_ ⟨ho.1, ho.2.1⟩, ?_⟩
      · show T.getD n 0 = oth (E.getD n (0, 0)) (oth (E.getD n (0, 0)) v)
        rw [oth_oth]
        exact c.1
      · show T.getD n 0 ∈ _
        rw [c.1]
        exact i2
      · rw [List.map_append]
        exact List.mem_append_left _ i2
    · rw [if_neg c]
      exact ⟨i1, i2⟩
theorem getD_mem_fst (q : List (Int × Nat)) (k : Nat) (h : k < q.length) : (q.getD k (0, 0)).1 ∈ q.map Prod.fst := by
  have : q.getD k (0, 0) = q[k] := by simp [List.getD, List.getElem?_eq_getElem h]
  rw [this]
  exact List.mem_map_of_mem (List.getElem_mem h)
theorem bfs_good {P : Nat} {E : List (Int × Int)} {T : List Int} {a : Int} (he : EndsQ P E T) (h0 : 0 ≤ a) (h1 : a < (P : Int)) : ∀ k, GoodQ P E T a (bfs E T a k) := by
  intro k
  induction k with
  | zero => exact goodQ_one E T h0 h1
  | succ k ih =>
    rw [bfs_succ]
    split
    · rename_i h
      exact (ih.scan he (getD_mem_fst _ k h) E.length (Nat.le_refl _)).1
    · exact ih

/-- The queue, whole. -/
def bfsQ (E : List (Int × Int)) (T : List Int) (a : Int) : List (Int × Nat) := bfs E T a (max E.length 8)
/-- A point that can give a pebble. -/
def givesB (F : List Int) (a b : Int) (x : Int × Nat) : Bool := decide (x.1 ≠ a) && decide (x.1 ≠ b) && decide (0 < F.getD x.1.toNat 0)
theorem bfsQ_pre (E : List (Int × Int)) (T : List Int) (a : Int) (k : Nat) (h : k ≤ 8) : ∃ r, bfsQ E T a = bfs E T a k ++ r := by
  have := bfs_pre E T a k (max E.length 8 - k)
  rw [show k + (max E.length 8 - k) = max E.length 8 by omega] at this
  exact this
theorem find_front {α : Type} (p : α → Bool) (q r : List α) (x : α) (h : ∀ y ∈ q, p y = false) (hx : p x = true) : (q ++ x :: r).find? p = some x := by
  rw [List.find?_append, List.find?_eq_none.2 fun y hy => by rw [h y hy]; simp]
  simp [hx]
/-- The specification's walk ends here. -/
theorem find_spec {E : List (Int × Int)} {T F : List Int} {a b : Int} (k i : Nat) (hk : k < (bfs E T a k).length) (hk8 : k < 8) (hi : i < E.length) {v : Int} (hv : ((bfs E T a k).getD k (0, 0)).1 = v) (ht : T.getD i 0 = v)
    (hno : ∀ y ∈ scanN E T v (bfs E T a k) i, givesB F a b y = false) (hu : oth (E.getD i (0, 0)) v ∉ (scanN E T v (bfs E T a k) i).map Prod.fst) (hg : givesB F a b (oth (E.getD i (0, 0)) v, i) = true) :
    (bfsQ E T a).find? (givesB F a b) = some (oth (E.getD i (0, 0)) v, i) ∧ ∃ r, bfsQ E T a = scanN E T v (bfs E T a k) i ++ (oth (E.getD i (0, 0)) v, i) :: r := by
  have e : ∃ r, bfsQ E T a = scanN E T v (bfs E T a k) i ++ (oth (E.getD i (0, 0)) v, i) :: r := by
    obtain ⟨r, h⟩ := bfsQ_pre E T a (k + 1) (by omega)
    have h1 : bfs E T a (k + 1) = scanN E T v (bfs E T a k) E.length := by rw [bfs_succ, if_pos hk, hv]
    obtain ⟨s, h2⟩ := scanN_mono E T v (bfs E T a k) (i + 1) (E.length - (i + 1))
    rw [show i + 1 + (E.length - (i + 1)) = E.length by omega] at h2
    have h3 : scanN E T v (bfs E T a k) (i + 1) = scanN E T v (bfs E T a k) i ++ [(oth (E.getD i (0, 0)) v, i)] := by
      show scan1 E T v _ i = _
      unfold scan1
      rw [if_pos ⟨ht, hu⟩]
    exact ⟨s ++ r, by rw [h, h1, h2, h3]; simp⟩
  obtain ⟨r, e⟩ := e
  exact ⟨by rw [e]; exact find_front _ _ _ _ hno hg, r, e⟩
/-- The program's walk ends here. -/
theorem find_impl {E : List (Int × Int)} {T F : List Int} {a b : Int} (k : Nat) (hk : k < (bfs E T a k).length) (hk8 : k < 8)
    (hno : ∀ y ∈ (bfs E T a k).take k, givesB F a b y = false) (hg : givesB F a b ((bfs E T a k).getD k (0, 0)) = true) :
    (bfsQ E T a).find? (givesB F a b) = some ((bfs E T a k).getD k (0, 0)) ∧ ∃ r, bfsQ E T a = (bfs E T a k).take k ++ ((bfs E T a k).getD k (0, 0)) :: r := by
  obtain ⟨r, h⟩ := bfsQ_pre E T a k (by omega)
  have e : bfsQ E T a = (bfs E T a k).take k ++ ((bfs E T a k).getD k (0, 0)) :: ((bfs E T a k).drop (k + 1) ++ r) := by
    rw [h]
    have h1 := List.take_append_drop k (bfs E T a k)
    have h2 := List.drop_eq_getElem_cons hk
    have h3 : (bfs E T a k).getD k (0, 0) = (bfs E T a k)[k] := by simp [List.getD, List.getElem?_eq_getElem hk]
    rw [h3]
    calc bfs E T a k ++ r = ((bfs E T a k).take k ++ (bfs E T a k).drop k) ++ r := by rw [h1]
      _ = _ := by rw [h2, List.append_assoc]; rfl
  exact ⟨by rw [e]; exact find_front _ _ _ _ hno hg, _, e⟩
/-- Neither finds a point. -/
theorem find_no {E : List (Int × Int)} {T F : List Int} {a b : Int} (k : Nat) (hk : (bfs E T a k).length ≤ k) (hk8 : k ≤ 8) (hno : ∀ y ∈ bfs E T a k, givesB F a b y = false) : (bfsQ E T a).find? (givesB F a b) = none := by
  have e : bfsQ E T a = bfs E T a k := by
    have := bfs_stop E T a k (max E.length 8 - k) hk
    rw [show k + (max E.length 8 - k) = max E.length 8 by omega] at this
    exact this
  rw [e]
  exact List.find?_eq_none.2 fun y hy => by rw [hno y hy]; simp

/-- The path from 'at' back to a, turned round; the queue is read from its end. -/
def turnQ (E : List (Int × Int)) (a : Int) : List (Int × Nat) → Int → List Int → List Int
  | [], _, T => T
  | (v, i) :: r, t, T => if v = t ∧ t ≠ a then turnQ E a r (oth (E.getD i (0, 0)) t) (T.set i t) else turnQ E a r t T
theorem turnQ_a (E : List (Int × Int)) (a : Int) (r : List (Int × Nat)) (T : List Int) : turnQ E a r a T = T := by
  induction r with
  | nil => rfl
  | cons x r ih =>
    obtain ⟨v, i⟩ := x
    unfold turnQ
    rw [if_neg (by simp), ih]
theorem turnQ_skip (E : List (Int × Int)) (a t : Int) (q r : List (Int × Nat)) (T : List Int) (h : t ∉ q.map Prod.fst) : turnQ E a (q ++ r) t T = turnQ E a r t T := by
  induction q with
  | nil => rfl
  | cons x q ih =>
    obtain ⟨v, i⟩ := x
    simp only [List.map_cons, List.mem_cons, not_or] at h
    rw [List.cons_append, turnQ, if_neg (fun c => h.1 c.1.symm), ih h.2]
theorem turnQ_step (E : List (Int × Int)) (a t : Int) (i : Nat) (q1 q2 : List (Int × Nat)) (T : List Int) (h : t ∉ q2.map Prod.fst) (ha : t ≠ a) :
    turnQ E a (q1 ++ (t, i) :: q2).reverse t T = turnQ E a q1.reverse (oth (E.getD i (0, 0)) t) (T.set i t) := by
  rw [show (q1 ++ (t, i) :: q2).reverse = q2.reverse ++ ((t, i) :: q1.reverse) by simp, turnQ_skip _ _ _ _ _ _ (by simpa using h), turnQ, if_pos ⟨rfl, ha⟩]
theorem GoodQ.nodup {P : Nat} {E : List (Int × Int)} {T : List Int} {a : Int} {q : List (Int × Nat)} (h : GoodQ P E T a q) {q1 q2 : List (Int × Nat)} {x : Int × Nat} (e : q = q1 ++ x :: q2) : x.1 ∉ q2.map Prod.fst := by
  intro hm
  obtain ⟨y, hy, e1⟩ := List.mem_map.1 hm
  obtain ⟨q3, q4, rfl⟩ := List.append_of_mem hy
  have := (h.step (q1 ++ x :: q3) y q4 (by rw [e]; simp) (by simp)).1
  rw [e1] at this
  exact this (by simp)
theorem GoodQ.pre {P : Nat} {E : List (Int × Int)} {T : List Int} {a : Int} {q r : List (Int × Nat)} (h : GoodQ P E T a (q ++ r)) (hne : q ≠ []) : (∃ s, q = (a, 0) :: s) ∧ ∀ q1 x q2, q = q1 ++ x :: q2 → q1 ≠ [] → x.1 ∉ q1.map Prod.fst ∧ x.2 < E.length ∧ T.getD x.2 0 = oth (E.getD x.2 (0, 0)) x.1 ∧ T.getD x.2 0 ∈ q1.map Prod.fst ∧ 0 ≤ x.1 ∧ x.1 < (P : Int) := by
  refine ⟨?_, fun q1 x q2 e hn => h.step q1 x (q2 ++ r) (by rw [e]; simp) hn⟩
  obtain ⟨s, e⟩ := h.start
  cases q with
  | nil => exact absurd rfl hne
  | cons y t =>
    rw [List.cons_append] at e
    cases e
    exact ⟨t, rfl⟩
end Go.Proofs.Ytdkpmaahinbhlaa
/- The pebble game on lists: what a move keeps, gathering, placing, the whole game. No program. No condition. -/
namespace Go.Proofs.Ytdkpmaahinbhlaa

/-- A queue, or what stands in front in one. -/
def PathQ (P : Nat) (E : List (Int × Int)) (T : List Int) (a : Int) (q : List (Int × Nat)) : Prop :=
  (∃ s, q = (a, 0) :: s) ∧ ∀ q1 x q2, q = q1 ++ x :: q2 → q1 ≠ [] → x.1 ∉ q1.map Prod.fst ∧ x.2 < E.length ∧ T.getD x.2 0 = oth (E.getD x.2 (0, 0)) x.1 ∧ T.getD x.2 0 ∈ q1.map Prod.fst ∧ 0 ≤ x.1 ∧ x.1 < (P : Int)
theorem GoodQ.path {P : Nat} {E : List (Int × Int)} {T : List Int} {a : Int} {q : List (Int × Nat)} (h : GoodQ P E T a q) : PathQ P E T a q := ⟨h.start, h.step⟩
theorem PathQ.pre {P : Nat} {E : List (Int × Int)} {T : List Int} {a : Int} {q r : List (Int × Nat)} (h : PathQ P E T a (q ++ r)) (hne : q ≠ []) : PathQ P E T a q := by
  refine ⟨?_, fun q1 x q2 e hn => h.2 q1 x (q2 ++ r) (by rw [e]; simp) hn⟩
  obtain ⟨s, e⟩ := h.1
  cases q with
  | nil => exact absurd rfl hne
  | cons y t =>
    rw [List.cons_append] at e
    cases e
    exact ⟨t, rfl⟩
theorem PathQ.nodup {P : Nat} {E : List (Int × Int)} {T : List Int} {a : Int} {q : List (Int × Nat)} (h : PathQ P E T a q) {q1 q2 : List (Int × Nat)} {x : Int × Nat} (e : q = q1 ++ x :: q2) : x.1 ∉ q2.map Prod.fst := by
  intro hm
  obtain ⟨y, hy, e1⟩ := List.mem_map.1 hm
  obtain ⟨q3, q4, rfl⟩ := List.append_of_mem hy
  have := (h.2 (q1 ++ x :: q3) y q4 (by rw [e]; simp) (by simp)).1
  rw [e1] at this
  exact this (by simp)
/-- A point of the queue that is not its first. -/
theorem PathQ.at {P : Nat} {E : List (Int × Int)} {T : List Int} {a t : Int} {q : List (Int × Nat)} (h : PathQ P E T a q) (ht : t ∈ q.map Prod.fst) (ha : t ≠ a) :
    ∃ i q1 q2, q = q1 ++ (t, i) :: q2 ∧ t ∉ q2.map Prod.fst ∧ t ∉ q1.map Prod.fst ∧ i < E.length ∧ T.getD i 0 = oth (E.getD i (0, 0)) t ∧ oth (E.getD i (0, 0)) t ∈ q1.map Prod.fst ∧ 0 ≤ t ∧ t < (P : Int) ∧ PathQ P E T a q1 := by
  obtain ⟨x, hx, e1⟩ := List.mem_map.1 ht
  obtain ⟨q1, q2, rfl⟩ := List.append_of_mem hx
  obtain ⟨v, i⟩ := x
  simp only at e1
  subst e1
  have hne : q1 ≠ [] := by
    rintro rfl
    obtain ⟨s, e⟩ := h.1
    cases e
    exact ha rfl
  have hs := h.2 q1 (v, i) q2 rfl hne
  exact ⟨i, q1, q2, rfl, h.nodup rfl, hs.1, hs.2.1, hs.2.2.1, hs.2.2.1 ▸ hs.2.2.2.1, hs.2.2.2.2.1, hs.2.2.2.2.2, PathQ.pre h hne⟩
/-- A bar that was turned is not met again. -/
theorem PathQ.other {P : Nat} {E : List (Int × Int)} {T : List Int} {a t : Int} {q : List (Int × Nat)} (h : PathQ P E T a q) (ht : t ∉ q.map Prod.fst) {i : Nat} (hi : T.getD i 0 = oth (E.getD i (0, 0)) t) {x : Int × Nat} (hx : x ∈ q) (hxa : x.1 ≠ a) : x.2 ≠ i := by
  intro e
  obtain ⟨j, q1, q2, e1, _, _, _, h4, _⟩ := h.at (List.mem_map_of_mem hx) hxa
  obtain ⟨q3, q4, e2⟩ := List.append_of_mem hx
  have hne : q3 ≠ [] := by
    rintro rfl
    obtain ⟨s, e⟩ := h.1
    rw [e2] at e
    cases e
    exact hxa rfl
  have h5 := (h.2 q3 x q4 e2 hne).2.2.1
  rw [e, hi] at h5
  have : t = x.1 := by rw [← oth_oth (E.getD i (0, 0)) t, h5, oth_oth]
  exact ht (this ▸ List.mem_map_of_mem hx)
theorem set_getD_ne {α : Type} (l : List α) (i j : Nat) (x z : α) (h : j ≠ i) : (l.set i x).getD j z = l.getD j z := by
  simp only [List.getD]
  rw [List.getElem?_set_ne (by omega)]
theorem set_getD_eq {α : Type} (l : List α) (i : Nat) (x z : α) (h : i < l.length) : (l.set i x).getD i z = x := by
  simp [List.getD, h]
theorem cnt_set (T : List Int) (i : Nat) (hi : i < T.length) (t v : Int) : (T.set i t).count v + (if v = T.getD i 0 then 1 else 0) = T.count v + if v = t then 1 else 0 := by
  have e : T.getD i 0 = T[i] := by simp [List.getD, List.getElem?_eq_getElem hi]
  rw [e, List.count_set hi]
  have hp : T[i] = v → 0 < T.count v := fun h => List.count_pos_iff.2 (h ▸ List.getElem_mem hi)
  by_cases h1 : v = T[i]
  · have := hp h1.symm
    by_cases h2 : v = t
    · simp [← h1, ← h2]; omega
    · have h2' : ¬ t = v := fun h => h2 h.symm
      simp [← h1, h2, h2']; omega
  · have h1' : ¬ T[i] = v := fun h => h1 h.symm
    by_cases h2 : v = t
    · subst h2; simp [h1, h1']
    · have h2' : ¬ t = v := fun h => h2 h.symm
      simp [h1, h1', h2, h2']
/-- What the turning of a path keeps. -/
theorem turn_facts {P : Nat} {E : List (Int × Int)} {T0 : List Int} {a : Int} : ∀ n (q : List (Int × Nat)), q.length ≤ n → PathQ P E T0 a q → ∀ t, t ∈ q.map Prod.fst → ∀ T : List Int, EndsQ P E T → (∀ x ∈ q, x.1 ≠ a → T.getD x.2 0 = T0.getD x.2 0) →
    EndsQ P E (turnQ E a q.reverse t T) ∧ ∀ v, (turnQ E a q.reverse t T).count v + (if v = a then 1 else 0) = T.count v + if v = t then 1 else 0 := by
  intro n
  induction n with
  | zero =>
    intro q hq hp
    obtain ⟨s, e⟩ := hp.1
    rw [e] at hq
    simp at hq
  | succ n ih =>
    intro q hq hp t ht T he hT
    by_cases ha : t = a
    · subst ha
      rw [turnQ_a]
      exact ⟨he, fun v => rfl⟩
    · obtain ⟨i, q1, q2, rfl, h1, h2, h3, h4, h5, h6, h7, h8⟩ := hp.at ht ha
      rw [turnQ_step E a t i q1 q2 T h1 ha]
      have hTi : T.getD i 0 = oth (E.getD i (0, 0)) t := (hT (t, i) (by simp) ha).trans h4
      have hi : i < T.length := by rw [he.len]; exact h3
      have he' : EndsQ P E (T.set i t) := by
        refine ⟨by rw [List.length_set]; exact he.len, he.bar, fun j hj => ?_⟩
        by_cases e : j = i
        · subst e
          rw [set_getD_eq _ _ _ _ hi]
          have := he.tail j hj
          rw [hTi] at this
          have := oth_end this
          rwa [oth_oth] at this
        · rw [set_getD_ne _ _ _ _ _ e]
          exact he.tail j hj
      have hT' : ∀ x ∈ q1, x.1 ≠ a → (T.set i t).getD x.2 0 = T0.getD x.2 0 := fun x hx hxa => by
        rw [set_getD_ne _ _ _ _ _ (h8.other h2 h4 hx hxa)]
        exact hT x (List.mem_append_left _ hx) hxa
      obtain ⟨g1, g2⟩ := ih q1 (by simp at hq; omega) h8 _ h5 (T.set i t) he' hT'
      refine ⟨g1, fun v => ?_⟩
      have e1 := g2 v
      have e2 := cnt_set T i hi t v
      rw [hTi] at e2
      omega

/-- A pebble goes from u to a. -/
def movF (F : List Int) (a u : Int) : List Int := (F.set u.toNat (F.getD u.toNat 0 - 1)).set a.toNat (F.getD a.toNat 0 + 1)
theorem movF_len (F : List Int) (a u : Int) : (movF F a u).length = F.length := by simp [movF]
theorem movF_a (F : List Int) (a u : Int) (h : a.toNat < F.length) : (movF F a u).getD a.toNat 0 = F.getD a.toNat 0 + 1 := by
  unfold movF
  exact set_getD_eq _ _ _ _ (by simpa using h)
theorem movF_u (F : List Int) (a u : Int) (h : u.toNat < F.length) (hne : u.toNat ≠ a.toNat) : (movF F a u).getD u.toNat 0 = F.getD u.toNat 0 - 1 := by
  unfold movF
  rw [set_getD_ne _ _ _ _ _ hne]
  exact set_getD_eq _ _ _ _ h
theorem movF_ne (F : List Int) (a u : Int) (v : Nat) (h1 : v ≠ u.toNat) (h2 : v ≠ a.toNat) : (movF F a u).getD v 0 = F.getD v 0 := by
  unfold movF
  rw [set_getD_ne _ _ _ _ _ h2, set_getD_ne _ _ _ _ _ h1]

/-- A state in order: free pebbles and tails make k at each point. -/
structure PebS (P : Nat) (k : Int) (E : List (Int × Int)) (F T : List Int) : Prop where
  flen : F.length = P
  ends : EndsQ P E T
  free : ∀ v : Nat, v < P → 0 ≤ F.getD v 0 ∧ F.getD v 0 + (T.count (v : Int) : Int) = k
/-- One pebble is brought to a, none from b. -/
def findM (E : List (Int × Int)) (a b : Int) (s : List Int × List Int) : Option (List Int × List Int) :=
  ((bfsQ E s.2 a).find? (givesB s.1 a b)).map fun x => (movF s.1 a x.1, turnQ E a (bfsQ E s.2 a).reverse x.1 s.2)
theorem findM_ok {P : Nat} {k : Int} {E : List (Int × Int)} {F T : List Int} (h : PebS P k E F T) {a b : Int} (ha : 0 ≤ a ∧ a < (P : Int)) (hab : a ≠ b) (hb : 0 ≤ b) {s : List Int × List Int} (e : findM E a b (F, T) = some s) :
    PebS P k E s.1 s.2 ∧ s.1.getD a.toNat 0 = F.getD a.toNat 0 + 1 ∧ s.1.getD b.toNat 0 = F.getD b.toNat 0 := by
  unfold findM at e
  obtain ⟨x, hx, rfl⟩ := Option.map_eq_some_iff.1 e
  have hg := List.find?_some hx
  have hm := List.mem_of_find?_eq_some hx
  unfold givesB at hg
  simp only [Bool.and_eq_true, decide_eq_true_eq] at hg
  obtain ⟨⟨g1, g2⟩, g3⟩ := hg
  have hgood := bfs_good h.ends ha.1 ha.2 (max E.length 8)
  have hp : PathQ P E T a (bfsQ E T a) := hgood.path
  obtain ⟨i, q1, q2, _, _, _, _, _, _, h6, h7, _⟩ := hp.at (List.mem_map_of_mem hm) g1
  obtain ⟨t1, t2⟩ := turn_facts (bfsQ E T a).length _ (Nat.le_refl _) hp _ (List.mem_map_of_mem hm) T h.ends fun _ _ _ => rfl
  have hu : x.1.toNat < F.length := by rw [h.flen]; omega
  have hal : a.toNat < F.length := by rw [h.flen]; omega
  have hne : x.1.toNat ≠ a.toNat := by omega
  refine ⟨⟨by rw [movF_len]; exact h.flen, t1, fun v hv => ?_⟩, movF_a F a x.1 hal, ?_⟩
  · have hc := t2 (v : Int)
    have hf := h.free v hv
    show 0 ≤ (movF F a x.1).getD v 0 ∧ (movF F a x.1).getD v 0 + ((turnQ E a (bfsQ E T a).reverse x.1 T).count (v : Int) : Int) = k
    have g3' : 0 < F.getD x.1.toNat 0 := g3
    by_cases c1 : v = a.toNat
    · subst c1
      rw [movF_a F a x.1 hal]
      have e1 : ((a.toNat : Nat) : Int) = a := by omega
      rw [e1] at hc hf ⊢
      rw [if_pos rfl, if_neg (fun hh => g1 hh.symm)] at hc
      omega
    · by_cases c2 : v = x.1.toNat
      · subst c2
        rw [movF_u F a x.1 hu hne]
        have e1 : ((x.1.toNat : Nat) : Int) = x.1 := by omega
        rw [e1] at hc hf ⊢
        rw [if_neg g1, if_pos rfl] at hc
        omega
      · rw [movF_ne F a x.1 v c2 c1]
        rw [if_neg (by omega), if_neg (by omega)] at hc
        omega
  · exact movF_ne F a x.1 b.toNat (by omega) (by omega)

/-- Gathering, with the steps counted. -/
def gath (E : List (Int × Int)) (a b want : Int) : Nat → List Int × List Int → Option (List Int × List Int)
  | 0, _ => none
  | f + 1, s =>
    if s.1.getD a.toNat 0 + s.1.getD b.toNat 0 < want then
      match findM E a b s with
      | some s' => gath E a b want f s'
      | none =>
        match findM E b a s with
        | some s' => gath E a b want f s'
        | none => none
    else some s
def gathR (E : List (Int × Int)) (a b want : Int) (s : List Int × List Int) : Option (List Int × List Int) :=
  gath E a b want ((want - (s.1.getD a.toNat 0 + s.1.getD b.toNat 0)).toNat + 1) s
theorem gathR_done {E : List (Int × Int)} {a b want : Int} {s : List Int × List Int} (h : ¬ s.1.getD a.toNat 0 + s.1.getD b.toNat 0 < want) : gathR E a b want s = some s := by
  unfold gathR gath
  rw [if_neg h]
theorem gathR_one {E : List (Int × Int)} {a b want : Int} {s s' : List Int × List Int} (h : s.1.getD a.toNat 0 + s.1.getD b.toNat 0 < want) (e : findM E a b s = some s') (hs : s'.1.getD a.toNat 0 + s'.1.getD b.toNat 0 = s.1.getD a.toNat 0 + s.1.getD b.toNat 0 + 1) :
    gathR E a b want s = gathR E a b want s' := by
  conv => lhs; unfold gathR gath
  rw [if_pos h, e]
  unfold gathR
  rw [hs, show (want - (s.1.getD a.toNat 0 + s.1.getD b.toNat 0)).toNat = (want - (s.1.getD a.toNat 0 + s.1.getD b.toNat 0 + 1)).toNat + 1 by omega]
theorem gathR_two {E : List (Int × Int)} {a b want : Int} {s s' : List Int × List Int} (h : s.1.getD a.toNat 0 + s.1.getD b.toNat 0 < want) (e0 : findM E a b s = none) (e : findM E b a s = some s') (hs : s'.1.getD a.toNat 0 + s'.1.getD b.toNat 0 = s.1.getD a.toNat 0 + s.1.getD b.toNat 0 + 1) :
    gathR E a b want s = gathR E a b want s' := by
  conv => lhs; unfold gathR gath
  rw [if_pos h, e0, e]
  unfold gathR
  rw [hs, show (want - (s.1.getD a.toNat 0 + s.1.getD b.toNat 0)).toNat = (want - (s.1.getD a.toNat 0 + s.1.getD b.toNat 0 + 1)).toNat + 1 by omega]
theorem gathR_no {E : List (Int × Int)} {a b want : Int} {s : List Int × List Int} (h : s.1.getD a.toNat 0 + s.1.getD b.toNat 0 < want) (e0 : findM E a b s = none) (e : findM E b a s = none) : gathR E a b want s = none := by
  unfold gathR gath
  rw [if_pos h, e0, e]
theorem gath_ok {P : Nat} {k : Int} {E : List (Int × Int)} {a b want : Int} (ha : 0 ≤ a ∧ a < (P : Int)) (hb : 0 ≤ b ∧ b < (P : Int)) (hab : a ≠ b) : ∀ f (s s' : List Int × List Int), PebS P k E s.1 s.2 → gath E a b want f s = some s' → PebS P k E s'.1 s'.2 ∧ want ≤ s'.1.getD a.toNat 0 + s'.1.getD b.toNat 0 := by
  intro f
  induction f with
  | zero => intro s s' _ e; cases e
  | succ f ih =>
    intro s s' h e
    unfold gath at e
    by_cases c : s.1.getD a.toNat 0 + s.1.getD b.toNat 0 < want
    · rw [if_pos c] at e
      cases e1 : findM E a b s with
      | some s1 =>
        rw [e1] at e
        exact ih s1 s' (findM_ok h ha hab hb.1 e1).1 e
      | none =>
        rw [e1] at e
        cases e2 : findM E b a s with
        | some s1 =>
          rw [e2] at e
          exact ih s1 s' (findM_ok h hb (Ne.symm hab) ha.1 e2).1 e
        | none => rw [e2] at e; cases e
    · rw [if_neg c] at e
      cases e
      exact ⟨h, by omega⟩
theorem gathR_ok {P : Nat} {k : Int} {E : List (Int × Int)} {a b want : Int} (ha : 0 ≤ a ∧ a < (P : Int)) (hb : 0 ≤ b ∧ b < (P : Int)) (hab : a ≠ b) {s s' : List Int × List Int} (h : PebS P k E s.1 s.2) (e : gathR E a b want s = some s') : PebS P k E s'.1 s'.2 ∧ want ≤ s'.1.getD a.toNat 0 + s'.1.getD b.toNat 0 := gath_ok ha hb hab _ s s' h e
/-- The free pebbles of a state in order are few. -/
theorem PebS.small {P : Nat} {k : Int} {E : List (Int × Int)} {F T : List Int} (h : PebS P k E F T) {v : Int} (hv : 0 ≤ v ∧ v < (P : Int)) : 0 ≤ F.getD v.toNat 0 ∧ F.getD v.toNat 0 ≤ k := by
  have := h.free v.toNat (by omega)
  omega

/-- The bars that were placed. -/
def plE (l : List (Int × Int)) (Z : List Int) : List (Int × Int) := Z.map fun b => l.getD b.toNat (0, 0)
theorem plE_len (l : List (Int × Int)) (Z : List Int) : (plE l Z).length = Z.length := by simp [plE]
theorem plE_get (l : List (Int × Int)) (Z : List Int) (i : Nat) (h : i < Z.length) : (plE l Z).getD i (0, 0) = l.getD (Z.getD i 0).toNat (0, 0) := by
  simp [plE, List.getD, List.getElem?_eq_getElem h]
/-- A state of the game on a graph. -/
def IsPeb (p k : Int) (l : List (Int × Int)) (F T Z : List Int) : Prop :=
  IsG p l ∧ (1 ≤ k ∧ k ≤ 3) ∧ (F.length : Int) = p ∧ T.length = Z.length ∧
  (∀ i, i < Z.length → (0 ≤ Z.getD i 0 ∧ Z.getD i 0 < (l.length : Int)) ∧ (0 < i → Z.getD (i - 1) 0 < Z.getD i 0) ∧ isEnd (l.getD (Z.getD i 0).toNat (0, 0)) (T.getD i 0)) ∧
  ∀ v : Nat, v < F.length → 0 ≤ F.getD v 0 ∧ F.getD v 0 + (T.count (v : Int) : Int) = k
open Classical in
noncomputable def isPebB (p k : Int) (l : List (Int × Int)) (F T Z : List Int) : Bool := if IsPeb p k l F T Z then true else false
theorem isPebB_yes {p k : Int} {l : List (Int × Int)} {F T Z : List Int} (h : IsPeb p k l F T Z) : isPebB p k l F T Z = true := by unfold isPebB; rw [if_pos h]
theorem isPebB_no {p k : Int} {l : List (Int × Int)} {F T Z : List Int} (h : ¬ IsPeb p k l F T Z) : isPebB p k l F T Z = false := by unfold isPebB; rw [if_neg h]
theorem isPebB_is {p k : Int} {l : List (Int × Int)} {F T Z : List Int} (h : isPebB p k l F T Z = true) : IsPeb p k l F T Z := Classical.byContradiction fun g => by rw [isPebB_no g] at h; cases h
theorem IsPeb.state {p k : Int} {l : List (Int × Int)} {F T Z : List Int} (h : IsPeb p k l F T Z) : PebS F.length k (plE l Z) F T := by
  obtain ⟨h1, _, h3, h4, h5, h6⟩ := h
  refine ⟨rfl, ⟨by rw [plE_len]; exact h4, fun i hi => ?_, fun i hi => ?_⟩, h6⟩
  · rw [plE_len] at hi
    rw [plE_get _ _ _ hi, h3]
    have := h5 i hi
    have hb := h1.2.2 (Z.getD i 0).toNat (by omega)
    exact ⟨hb.1, hb.2.1, hb.2.2.1⟩
  · rw [plE_len] at hi
    rw [plE_get _ _ _ hi]
    exact (h5 i hi).2.2
theorem IsPeb.of {p k : Int} {l : List (Int × Int)} {F T Z F' T' : List Int} (h : IsPeb p k l F T Z) (hs : PebS F.length k (plE l Z) F' T') : IsPeb p k l F' T' Z := by
  obtain ⟨h1, h2, h3, h4, h5, _⟩ := h
  refine ⟨h1, h2, by rw [hs.flen]; exact h3, by rw [hs.ends.len, plE_len], fun i hi => ⟨(h5 i hi).1, (h5 i hi).2.1, ?_⟩, fun v hv => hs.free v (by rw [← hs.flen]; exact hv)⟩
  have := hs.ends.tail i (by rw [plE_len]; exact hi)
  rwa [plE_get _ _ _ hi] at this
/-- The last bar that was placed stands before all others. -/
theorem IsPeb.last {p k : Int} {l : List (Int × Int)} {F T Z : List Int} (h : IsPeb p k l F T Z) : ∀ i j, i ≤ j → j < Z.length → Z.getD i 0 ≤ Z.getD j 0 := by
  intro i j hij
  induction j with
  | zero => intro _; obtain rfl : i = 0 := by omega
            exact Int.le_refl _
  | succ j ih =>
    intro hj
    by_cases e : i = j + 1
    · subst e; exact Int.le_refl _
    · have h1 := ih (by omega) (by omega)
      have h2 := (h.2.2.2.2.1 (j + 1) hj).2.1 (by omega)
      rw [show j + 1 - 1 = j by omega] at h2
      omega

/-- What GatherPebbles answers. -/
noncomputable def gatV (p k : Int) (l : List (Int × Int)) (F T Z : List Int) (a b want : Int) : Option (List Int × List Int) :=
  if isPebB p k l F T Z = true ∧ (0 ≤ a ∧ a < p) ∧ (0 ≤ b ∧ b < p) ∧ a ≠ b ∧ 0 ≤ want ∧ want ≤ 2 * k then gathR (plE l Z) a b want (F, T) else none
/-- A bar is placed, if its ends can have enough pebbles. -/
def plaR (l : List (Int × Int)) (c : Int) (F T Z : List Int) (n : Int) : Option (List Int × List Int × List Int) :=
  (gathR (plE l Z) (l.getD n.toNat (0, 0)).1 (l.getD n.toNat (0, 0)).2 (c + 1) (F, T)).map fun s =>
    if s.1.getD (l.getD n.toNat (0, 0)).1.toNat 0 = 0 then (s.1.set (l.getD n.toNat (0, 0)).2.toNat (s.1.getD (l.getD n.toNat (0, 0)).2.toNat 0 - 1), s.2 ++ [(l.getD n.toNat (0, 0)).2], Z ++ [n])
    else (s.1.set (l.getD n.toNat (0, 0)).1.toNat (s.1.getD (l.getD n.toNat (0, 0)).1.toNat 0 - 1), s.2 ++ [(l.getD n.toNat (0, 0)).1], Z ++ [n])
/-- What PlaceBar answers. -/
noncomputable def plaV (p k c : Int) (l : List (Int × Int)) (F T Z : List Int) (n : Int) : Option (List Int × List Int × List Int) :=
  if isPebB p k l F T Z = true ∧ rangeB k c = true ∧ (0 ≤ n ∧ n < (l.length : Int)) ∧ (Z ≠ [] → Z.getD (Z.length - 1) 0 < n) then plaR l c F T Z n else none
theorem isPeb_push {p k : Int} {l : List (Int × Int)} {F T Z : List Int} (h : IsPeb p k l F T Z) {n : Int} (hn : 0 ≤ n ∧ n < (l.length : Int)) (hlast : Z ≠ [] → Z.getD (Z.length - 1) 0 < n) {t : Int} (ht : isEnd (l.getD n.toNat (0, 0)) t) (hf : 0 < F.getD t.toNat 0) :
    IsPeb p k l (F.set t.toNat (F.getD t.toNat 0 - 1)) (T ++ [t]) (Z ++ [n]) := by
  obtain ⟨h1, h2, h3, h4, h5, h6⟩ := h
  have hb := h1.2.2 n.toNat (by omega)
  have htr : 0 ≤ t ∧ t < p := by unfold OkBar at hb; unfold isEnd at ht; omega
  refine ⟨h1, h2, by rw [List.length_set]; exact h3, by simp [h4], fun i hi => ?_, fun v hv => ?_⟩
  · rw [List.length_append, List.length_cons, List.length_nil] at hi
    by_cases e : i = Z.length
    · subst e
      have e1 : (Z ++ [n]).getD Z.length 0 = n := by simp [List.getD]
      have e2 : (T ++ [t]).getD Z.length 0 = t := by rw [← h4]; simp [List.getD]
      rw [e1, e2]
      refine ⟨hn, fun h0 => ?_, ht⟩
      have e3 : (Z ++ [n]).getD (Z.length - 1) 0 = Z.getD (Z.length - 1) 0 := by
        simp only [List.getD]
        rw [List.getElem?_append_left (by omega)]
      rw [e3]
      exact hlast (by rintro rfl; simp at h0)
    · have hi' : i < Z.length := by omega
      have e1 : (Z ++ [n]).getD i 0 = Z.getD i 0 := by simp only [List.getD]; rw [List.getElem?_append_left hi']
      have e2 : (T ++ [t]).getD i 0 = T.getD i 0 := by simp only [List.getD]; rw [List.getElem?_append_left (by omega)]
      have e3 : (Z ++ [n]).getD (i - 1) 0 = Z.getD (i - 1) 0 := by simp only [List.getD]; rw [List.getElem?_append_left (by omega)]
      rw [e1, e2, e3]
      exact h5 i hi'
  · rw [List.length_set] at hv
    have hc := h6 v hv
    rw [List.count_append, List.count_singleton]
    by_cases e : v = t.toNat
    · subst e
      have e1 : ((t.toNat : Nat) : Int) = t := by omega
      rw [set_getD_eq _ _ _ _ hv]
      rw [e1] at hc ⊢
      have e4 : (t == t) = true := by simp
      rw [if_pos e4]
      constructor
      · omega
      · rw [Int.natCast_add]
        omega
    · rw [set_getD_ne _ _ _ _ _ e]
      have e4 : ¬ ((t == (v : Int)) = true) := by simp; omega
      rw [if_neg e4]
      exact hc
theorem plaR_ok {p k c : Int} {l : List (Int × Int)} {F T Z : List Int} (h : IsPeb p k l F T Z) (hc : 0 ≤ c) {n : Int} (hn : 0 ≤ n ∧ n < (l.length : Int)) (hlast : Z ≠ [] → Z.getD (Z.length - 1) 0 < n) {s : List Int × List Int × List Int} (e : plaR l c F T Z n = some s) :
    IsPeb p k l s.1 s.2.1 s.2.2 ∧ s.2.2 = Z ++ [n] := by
  unfold plaR at e
  obtain ⟨s1, h1, rfl⟩ := Option.map_eq_some_iff.1 e
  have hb := h.1.2.2 n.toNat (by omega)
  have hp := h.2.2.1
  obtain ⟨g1, g2⟩ := gathR_ok (P := F.length) (k := k) (by rw [hp]; unfold OkBar at hb; omega) (by rw [hp]; unfold OkBar at hb; omega) (by unfold OkBar at hb; omega) (by exact h.state) h1
  have hi := h.of g1
  split
  · rename_i h0
    exact ⟨isPeb_push hi hn hlast (.inr rfl) (by omega), rfl⟩
  · rename_i h0
    have := hi.state.small (v := (l.getD n.toNat (0, 0)).1) (by rw [hi.2.2.1]; unfold OkBar at hb; omega)
    exact ⟨isPeb_push hi hn hlast (.inl rfl) (by omega), rfl⟩
/-- The game after n bars. -/
def runN (P : Nat) (k c : Int) (l : List (Int × Int)) : Nat → List Int × List Int × List Int
  | 0 => (List.replicate P k, [], [])
  | n + 1 => (plaR l c (runN P k c l n).1 (runN P k c l n).2.1 (runN P k c l n).2.2 (n : Int)).getD (runN P k c l n)
theorem runN_ok {P : Nat} {k c : Int} {l : List (Int × Int)} (hG : IsG (P : Int) l) (hk : 1 ≤ k ∧ k ≤ 3) (hc : 0 ≤ c) : ∀ n, n ≤ l.length → IsPeb (P : Int) k l (runN P k c l n).1 (runN P k c l n).2.1 (runN P k c l n).2.2 ∧ (runN P k c l n).2.2.length ≤ n ∧ ((runN P k c l n).2.2 ≠ [] → (runN P k c l n).2.2.getD ((runN P k c l n).2.2.length - 1) 0 < (n : Int)) := by
  intro n
  induction n with
  | zero =>
    intro _
    refine ⟨⟨hG, hk, by simp [runN], rfl, fun i hi => absurd hi (by simp [runN]), fun v hv => ?_⟩, Nat.le_refl _, fun h => absurd rfl h⟩
    have : v < P := by simpa [runN] using hv
    simp [runN, List.getD, this]
    omega
  | succ n ih =>
    intro hn
    obtain ⟨h1, h2, h3⟩ := ih (by omega)
    unfold runN
    cases e : plaR l c (runN P k c l n).1 (runN P k c l n).2.1 (runN P k c l n).2.2 (n : Int) with
    | none =>
      simp only [Option.getD_none]
      exact ⟨h1, by omega, fun h => by have := h3 h; omega⟩
    | some s =>
      simp only [Option.getD_some]
      obtain ⟨g1, g2⟩ := plaR_ok h1 hc (n := (n : Int)) (by omega) h3 e
      refine ⟨g1, by rw [g2]; simp; omega, fun _ => ?_⟩
      rw [g2]
      simp [List.getD]
      omega
end Go.Proofs.Ytdkpmaahinbhlaa
/- The laws' measures and comparisons of graphs (szBarS, szGraph, eqBar, eqBarS, eqGraph): graphs that read alike are equal. No condition. -/
namespace Go.Proofs.Ytdkpmaahinbhlaa
open Go.RowKit

theorem szBarS_c (A : Option Addr) (n cap : Nat) (left : Int) (w : World) (h0 : (n : Int) ≤ left) (h1 : left ≤ 1048576) :
    Calls Try.prog 162 #[.slice A n cap, .int .i64 left] w fun e w' => e = .returned (.int .i64 (left - n)) ∧ w = w' := by
  go_enter Try.func162, Try.ntmps162
  go_wp2
  go_ret
  exact ⟨rfl, rfl⟩
theorem szBarS_no (A : Option Addr) (n cap : Nat) (left : Int) (w : World) (hn : n ≤ 9223372036854775807) (h0 : left < (n : Int)) (h1 : 0 ≤ left) :
    Calls Try.prog 162 #[.slice A n cap, .int .i64 left] w fun e w' => e = .returned (.int .i64 (-1)) ∧ w = w' := by
  go_enter Try.func162, Try.ntmps162
  go_wp2
  go_ret
  exact ⟨rfl, rfl⟩
theorem szGraph_c (p : Int) (A : Option Addr) (n cap : Nat) (left : Int) (w : World) (h0 : (n : Int) ≤ left) (h1 : left ≤ 1048576) :
    Calls Try.prog 77 #[.agg #[.int .i64 p, .slice A n cap], .int .i64 left] w fun e w' => e = .returned (.int .i64 (left - n)) ∧ Below w.heap.size w w' := by
  go_enter Try.func77, Try.ntmps77
  go_wp2_with fail
  refine (szBarS_c A n cap left _ h0 h1).mono ?_
  rintro e w1 ⟨rfl, rfl⟩
  go_wp2_with fail
  go_ret
  exact ⟨rfl, (Below.refl _ _).alloc (Nat.le_refl _) _⟩
theorem szGraph_no (p : Int) (A : Option Addr) (n cap : Nat) (left : Int) (w : World) (hn : n ≤ 9223372036854775807) (h0 : left < (n : Int)) (h1 : 0 ≤ left) :
    Calls Try.prog 77 #[.agg #[.int .i64 p, .slice A n cap], .int .i64 left] w fun e w' => e = .returned (.int .i64 (-1)) ∧ Below w.heap.size w w' := by
  go_enter Try.func77, Try.ntmps77
  go_wp2_with fail
  refine (szBarS_no A n cap left _ hn h0 h1).mono ?_
  rintro e w1 ⟨rfl, rfl⟩
  go_wp2_with fail
  go_ret
  exact ⟨rfl, (Below.refl _ _).alloc (Nat.le_refl _) _⟩

theorem eqBar_c (x y : Int) (w : World) :
    Calls Try.prog 213 #[.agg #[.int .i64 x, .int .i64 y], .agg #[.int .i64 x, .int .i64 y]] w fun e w' => e = .returned (.bool true) ∧ Below w.heap.size w w' := by
  go_enter Try.func213, Try.ntmps213
  go_wp2
  go_ret
  exact ⟨rfl, ((Below.refl _ _).alloc (Nat.le_refl _) _).alloc (by simp) _⟩

set_option maxHeartbeats 400000 in
set_option maxRecDepth 100000 in
theorem eqBarS_c (l : List (Int × Int)) (A A' : Option Addr) (cap cap' : Nat) (w : World) (hl : BarsAt w w.heap.size A l) (hl' : BarsAt w w.heap.size A' l) (hn : l.length ≤ 1048576) :
    Calls Try.prog 170 #[.slice A l.length cap, .slice A' l.length cap'] w fun e w' => e = .returned (.bool true) ∧ Below w.heap.size w w' := by
  have HL := Lib.hid hl
  have HL' := Lib.hid hl'
  clear hl hl'
  go_enter Try.func170, Try.ntmps170
  go_wp2_with fail
  go_loopw [5] (fun i wr => ∃ k : Nat, k ≤ l.length ∧ i = .int .i64 k ∧ Below w.heap.size w wr) (fun i _ => l.length - (intOf i).toNat)
  case atStart => exact ⟨0, by omega, rfl, Below.refl _ _⟩
  case round =>
    obtain ⟨k, hk, rfl, hb⟩ := hrel
    have HB := Lib.hid hb
    have hbs := hb.size
    clear hb
    by_cases hlt : k < l.length
    · have hi : (k : Int) < (l.length : Int) := by omega
      obtain ⟨b, off, rfl, hbB, hcell⟩ := HL.out (by omega)
      obtain ⟨b', off', rfl, hbB', hcell'⟩ := HL'.out (by omega)
      have hc1 := (HB.out.cell (p := ⟨b, off + k * 2, none⟩) hbB).trans (hcell k hlt).1
      have hc2 := (HB.out.cell (p := ⟨b, off + k * 2 + 1, none⟩) hbB).trans (hcell k hlt).2
      have hc3 := (HB.out.cell (p := ⟨b', off' + k * 2, none⟩) hbB').trans (hcell' k hlt).1
      have hc4 := (HB.out.cell (p := ⟨b', off' + k * 2 + 1, none⟩) hbB').trans (hcell' k hlt).2
      clear hcell hcell'
      obtain ⟨p, hp⟩ : ∃ p, l.getD k (0, 0) = p := ⟨_, rfl⟩
      rw [hp] at hc1 hc2 hc3 hc4
      clear hp
      obtain ⟨x, y⟩ := p
      go_wp2_with fail
      go_still_tail 8, (by kernel_rfl)
      change wpList _ _ _ _ _ wr.drew
      have hbd : Below w.heap.size w wr.drew := HB.out.drew
      have hbs2 : w.heap.size ≤ wr.drew.heap.size := hbs
      have HBD := Lib.hid hbd
      clear hbd hc1 hc2 hc3 hc4
      generalize wr.drew = w2 at *
      go_wp2_with fail
      refine (eqBar_c x y w2).mono ?_
      rintro e w3 ⟨rfl, hb3⟩
      have HB3 := Lib.hid (HBD.out.trans (hb3.mono hbs2))
      clear hb3
      go_wp2_with fail
      go_roundw
      case rel => exact ⟨k + 1, by omega, by go_num, HB3.out⟩
      case measure => simp [intOf]; omega
    · go_wp2_with fail
      go_ret
      exact ⟨rfl, HB.out⟩

set_option maxHeartbeats 400000 in
set_option maxRecDepth 100000 in
theorem eqGraph_c (p : Int) (l : List (Int × Int)) (A A' : Option Addr) (cap cap' : Nat) (w : World) (hl : BarsAt w w.heap.size A l) (hl' : BarsAt w w.heap.size A' l) (hn : l.length ≤ 1048576) :
    Calls Try.prog 82 #[.agg #[.int .i64 p, .slice A l.length cap], .agg #[.int .i64 p, .slice A' l.length cap']] w fun e w' => e = .returned (.bool true) ∧ Below w.heap.size w w' := by
  have HL := Lib.hid hl
  have HL' := Lib.hid hl'
  clear hl hl'
  go_enter Try.func82, Try.ntmps82
  go_wp2_with fail
  have hA : Below w.heap.size w ((w.alloc (.cells #[.int .i64 p, .slice A l.length cap] 26)).alloc (.cells #[.int .i64 p, .slice A' l.length cap'] 26)) :=
    ((Below.refl _ _).alloc (Nat.le_refl _) _).alloc (by simp) _
  refine (eqBarS_c l A A' cap cap' _ ((HL.out.kept hA).more hA.size) ((HL'.out.kept hA).more hA.size) hn).mono ?_
  rintro e w1 ⟨rfl, hb1⟩
  have HB := Lib.hid (hA.trans (hb1.mono hA.size))
  clear hA hb1
  go_wp2_with fail
  go_ret
  exact ⟨rfl, HB.out⟩
end Go.Proofs.Ytdkpmaahinbhlaa
/- A graph that a law is handed by value, opened: its number of points, and its bars as a list. No condition. -/
namespace Go.Proofs.Ytdkpmaahinbhlaa
open Go.RowKit Go.Joins Go.ChangeShapes Go.WideShapes Go.Deep

section
variable {H : Type} {enc : TypeId × Value → H} {w : World} {base : Nat}

/-- A slice of the law's bars. -/
theorem open_bars {n : Nat} {v : Value} {y : DataW H × List MemPlace} (h : DataW.trod enc Try.prog w 0 (fun _ => true) true n 77 [v] = some y) :
    ∃ (A : Option Addr) (cap : Nat) (l : List (Int × Int)), v = .slice A l.length cap ∧ l.length ≤ maxLen ∧ BarsAt w w.heap.size A l := by
  rcases open_slice_pairs Try.underlying77 Try.underlying197 (by kernel_rfl) rfl rfl (by kernel_rfl) (by kernel_rfl) h with ⟨hv, _⟩ | ⟨a, len, cap, m, fuel, V0, V1, D0, D1, P0, P1, hv, _, hlc, hcm, hm, _, hi⟩
  · refine ⟨none, 0, [], ?_, by simp, fun h => absurd h (by simp)⟩
    simpa using hv
  · have hm' : m = cap := by simpa using hm
    refine ⟨some a, cap, (List.range len).map fun i => (intOf (V0 i), intOf (V1 i)), by simpa using hv, by simp; omega, fun hl => ?_⟩
    have hl' : 0 < len := by simpa using hl
    obtain ⟨b, off, spot⟩ := a
    have hs : spot = none := by simpa [Addr.add] using World.cell?_spot (hi 0 (by omega)).1
    subst hs
    have hadd : ∀ k, (⟨b, off, none⟩ : Addr).add k = ⟨b, off + k, none⟩ := fun k => by unfold Addr.add; split <;> simp_all
    have h0 := (hi 0 (by omega)).1
    rw [hadd] at h0
    refine ⟨b, off, rfl, World.block_lt_of_cell? w _ h0, fun k hk => ?_⟩
    have hk' : k < len := by simpa using hk
    obtain ⟨c0, c1, t0, t1⟩ := hi k (by omega)
    obtain ⟨x, e0, _⟩ := DataW.trod_int Try.underlying3 t0
    obtain ⟨z, e1, _⟩ := DataW.trod_int Try.underlying3 t1
    rw [hadd] at c0 c1
    have g0 : V0 k = .int .i64 x := by simpa using e0
    have g1 : V1 k = .int .i64 z := by simpa using e1
    have hg : ((List.range len).map fun i => (intOf (V0 i), intOf (V1 i))).getD k (0, 0) = (x, z) := by
      simp [List.getD, hk', g0, g1, intOf]
    rw [hg, c0, g0, show off + k * 2 + 1 = off + (k * 2 + 1) by omega, c1, g1]
    exact ⟨rfl, rfl⟩

set_option maxRecDepth 100000 in
theorem open_graph {r : Reach} {b0 : Nat} {v : Value} {d : DataW H} {p : List MemPlace} (hv : Value.okWide Try.prog w r b0 79 v) (h : DataW.Trod enc Try.prog w 0 (fun _ => true) true 79 v d p) :
    ∃ (q : Int) (A : Option Addr) (cap : Nat) (l : List (Int × Int)), v = .agg #[.int .i64 q, .slice A l.length cap] ∧ l.length ≤ maxLen ∧ BarsAt w w.heap.size A l := by
  obtain ⟨v0, v1, y0, y1, n, rfl, _, _, h0, h1⟩ := open_agg2 Try.underlying79 (by kernel_rfl) (by kernel_rfl) hv h
  obtain ⟨q, e0, _⟩ := DataW.trod_int Try.underlying3 h0
  obtain ⟨A, cap, l, e1, hl, hb⟩ := open_bars h1
  subst e1
  have e0' : v0 = .int .i64 q := by simpa using e0
  subst e0'
  exact ⟨q, A, cap, l, rfl, hl, hb⟩
end
end Go.Proofs.Ytdkpmaahinbhlaa
/- The laws' marks on a graph's bars (markBarS, heldBarS, markGraph, heldGraph): what is written into memory of its own is found there again. No condition. -/
namespace Go.Proofs.Ytdkpmaahinbhlaa
open Go.RowKit

/-- The bars that the marks from k on make. -/
def marks (k : Int) (n : Nat) : List (Int × Int) := (List.range n).map fun (i : Nat) => (k + 2 * (i : Int), k + 2 * (i : Int) + 1)
theorem marks_len (k : Int) (n : Nat) : (marks k n).length = n := by simp [marks]
theorem marks_get (k : Int) (n i : Nat) (h : i < n) : (marks k n).getD i (0, 0) = (k + 2 * (i : Int), k + 2 * (i : Int) + 1) := by simp [marks, List.getD, h]
theorem marks_step (k : Int) (l : List (Int × Int)) (i : Nat) (h : i < l.length) : (marks k i ++ l.drop i).set i (k + 2 * (i : Int), k + 2 * (i : Int) + 1) = marks k (i + 1) ++ l.drop (i + 1) := by
  rw [List.set_append_right _ _ (by rw [marks_len]; exact Nat.le_refl _), marks_len, Nat.sub_self, List.drop_eq_getElem_cons h, List.set_cons_zero]
  unfold marks
  rw [List.range_succ, List.map_append, List.append_assoc]
  rfl

set_option maxHeartbeats 800000 in
set_option maxRecDepth 100000 in
theorem markBarS_c (g : Nat) (l : List (Int × Int)) (cap : Nat) (k : Int) (base : Nat) (w : World) (hown : w.ownsRow base 108 2 (.slice (some ⟨g, 0, none⟩) l.length cap) l.length (barCells l)) (hn : l.length ≤ 1048576) (hk0 : 0 ≤ k) (hk1 : k ≤ 10000000) :
    Calls Try.prog 171 #[.slice (some ⟨g, 0, none⟩) l.length cap, .int .i64 k] w fun e w' => e = .returned (.int .i64 (k + 2 * (l.length : Int))) ∧ w'.ownsRow base 108 2 (.slice (some ⟨g, 0, none⟩) l.length cap) l.length (barCells (marks k l.length)) ∧ w.grownBy w' (some g) := by
  have HO := Lib.hid hown
  clear hown
  go_enter Try.func171, Try.ntmps171
  go_wp2_with fail
  go_loopw [1, 5] (fun m i wr => ∃ j : Nat, j ≤ l.length ∧ i = .int .i64 j ∧ m = .int .i64 (k + 2 * (j : Int)) ∧ wr.ownsRow base 108 2 (.slice (some ⟨g, 0, none⟩) l.length cap) l.length (barCells (marks k j ++ l.drop j)) ∧ w.grownBy wr (some g)) (fun _ i _ => l.length - (intOf i).toNat)
  case atStart => exact ⟨0, by omega, rfl, by simp, HO.out, World.grownBy.refl _ _⟩
  case round =>
    obtain ⟨j, hj, rfl, rfl, hown, hg⟩ := hrel
    have HG := Lib.hid hg
    clear hg
    by_cases hlt : j < l.length
    · have hi : (j : Int) < (l.length : Int) := by omega
      have hlen : (marks k j ++ l.drop j).length = l.length := by rw [List.length_append, marks_len, List.length_drop]; omega
      have hgc := barCells_get (marks k j ++ l.drop j) j (by omega)
      have hd1 := (hown.cellAt (j * 2) (by omega)).trans hgc.1
      have hd2 := (hown.cellAt (j * 2 + 1) (by omega)).trans hgc.2
      have hf1 := hown.frozenAt (j * 2)
      have hf2 := hown.frozenAt (j * 2 + 1)
      have hst1 := hown.stored (j * 2) (.int .i64 (k + 2 * (j : Int)))
      have hst2 := hst1.1.stored (j * 2 + 1) (.int .i64 (k + 2 * (j : Int) + 1))
      have HG2 := Lib.hid ((HG.out.trans_ hst1.2).trans_ hst2.2)
      have hst3 := hst2.1
      rw [barCells_set _ _ (k + 2 * (j : Int), k + 2 * (j : Int) + 1), marks_step k l j hlt] at hst3
      have HST := Lib.hid hst3
      clear hst1 hst2 hst3 hgc hown hlen
      go_wp2_with fail
      go_roundw
      case rel => exact ⟨j + 1, by omega, by go_num, by go_num, HST.out, HG2.out⟩
      case measure => simp [intOf]; omega
    · obtain rfl : j = l.length := by omega
      rw [List.drop_length, List.append_nil] at hown
      go_wp2_with fail
      go_ret
      exact ⟨rfl, hown, HG.out⟩

/-- Nothing is marked where there is no bar. -/
theorem markBarS_nil (A : Option Addr) (cap : Nat) (k : Int) (w : World) :
    Calls Try.prog 171 #[.slice A 0 cap, .int .i64 k] w fun e w' => e = .returned (.int .i64 k) ∧ w = w' := by
  go_enter Try.func171, Try.ntmps171
  go_wp2_with fail
  refine wp_loop_rounds 1 ?_
  rw [rounds_succ]
  go_wp2_with fail
  go_ret
  exact ⟨rfl, rfl⟩

set_option maxHeartbeats 400000 in
set_option maxRecDepth 100000 in
theorem markGraph_c (p : Int) (g : Nat) (l : List (Int × Int)) (cap : Nat) (k : Int) (base : Nat) (w : World) (hown : w.ownsRow base 108 2 (.slice (some ⟨g, 0, none⟩) l.length cap) l.length (barCells l)) (hn : l.length ≤ 1048576) (hk0 : 0 ≤ k) (hk1 : k ≤ 10000000) :
    Calls Try.prog 83 #[.agg #[.int .i64 p, .slice (some ⟨g, 0, none⟩) l.length cap], .int .i64 k] w fun e w' => e = .returned (.int .i64 (k + 2 * (l.length : Int))) ∧ w'.ownsRow base 108 2 (.slice (some ⟨g, 0, none⟩) l.length cap) l.length (barCells (marks k l.length)) ∧ w.grownBy w' (some g) := by
  have HO := Lib.hid (hown.alloc (.cells #[.int .i64 p, .slice (some ⟨g, 0, none⟩) l.length cap] 26))
  clear hown
  go_enter Try.func83, Try.ntmps83
  go_wp2_with fail
  refine (markBarS_c g l cap k base _ HO.out hn hk0 hk1).mono ?_
  rintro e w1 ⟨rfl, ho1, hg1⟩
  have HO1 := Lib.hid ho1
  have HG1 := Lib.hid ((World.grownBy_alloc w (.cells #[.int .i64 p, .slice (some ⟨g, 0, none⟩) l.length cap] 26) (some g)).trans_ hg1)
  clear ho1 hg1
  go_wp2_with fail
  go_ret
  exact ⟨rfl, HO1.out, HG1.out⟩
end Go.Proofs.Ytdkpmaahinbhlaa
/- What the laws' walks carry from call to call: a graph in a box of its own, and the bars that it points to. No condition. -/
namespace Go.Proofs.Ytdkpmaahinbhlaa
open Go.RowKit

/-- A graph by value lies in the block b. -/
def Box (W : World) (b : Nat) (q : Int) (v : Value) : Prop := b < W.heap.size ∧ W.cell? ⟨b, 0, none⟩ = some (.int .i64 q) ∧ W.cell? ⟨b, 1, none⟩ = some v
theorem Box.kept {W W' : World} {b : Nat} {q : Int} {v : Value} (h : Box W b q v) (hb : Below W.heap.size W W') : Box W' b q v :=
  ⟨Nat.lt_of_lt_of_le h.1 hb.size, (hb.cell (p := ⟨b, 0, none⟩) h.1).trans h.2.1, (hb.cell (p := ⟨b, 1, none⟩) h.1).trans h.2.2⟩
theorem Box.grown {W W' : World} {b g : Nat} {q : Int} {v : Value} (h : Box W b q v) (hg : W.grownBy W' (some g)) (hne : b ≠ g) : Box W' b q v :=
  ⟨Nat.lt_of_lt_of_le h.1 hg.size, (World.cell?_of_block (hg.block b h.1 (by simpa using hne))).trans h.2.1, (World.cell?_of_block (hg.block b h.1 (by simpa using hne))).trans h.2.2⟩
theorem box_new (w : World) (q : Int) (v : Value) (t : TypeId) : Box (w.alloc (.cells #[.int .i64 q, v] t)) w.heap.size q v :=
  ⟨by simp, by rw [World.cell?_alloc_at _ _ _ _ rfl]; rfl, by rw [World.cell?_alloc_at _ _ _ _ rfl]; rfl⟩
theorem new_below (w : World) (o : Obj) : Below w.heap.size w (w.alloc o) := (Below.refl _ _).alloc (Nat.le_refl _) _
/-- Bars that lie below what a later world has. -/
theorem BarsAt.on {w w' : World} {A : Option Addr} {l : List (Int × Int)} (h : BarsAt w w.heap.size A l) (hb : Below w.heap.size w w') : BarsAt w' w'.heap.size A l := (h.kept hb).more hb.size
theorem BarsAt.nil (w : World) (B : Nat) (A : Option Addr) : BarsAt w B A [] := fun h => absurd h (by simp)
theorem BarsAt.grown {w w' : World} {B g : Nat} {A : Option Addr} {l : List (Int × Int)} (h : BarsAt w B A l) (hg : w.grownBy w' (some g)) (hB : B ≤ w.heap.size) (hne : ∀ a, A = some a → 0 < l.length → a.block ≠ g) : BarsAt w' B A l := fun hl => by
  obtain ⟨b, off, rfl, hlt, hc⟩ := h hl
  have hn := hne _ rfl hl
  simp only at hn
  exact ⟨b, off, rfl, hlt, fun k hk => ⟨(World.cell?_of_block (a := ⟨b, off + k * 2, none⟩) (hg.block b (by omega) (by simpa using hn))).trans (hc k hk).1, (World.cell?_of_block (a := ⟨b, off + k * 2 + 1, none⟩) (hg.block b (by omega) (by simpa using hn))).trans (hc k hk).2⟩⟩
theorem below_on {B : Nat} {a b c : World} (h : Below B a b) (k : Below b.heap.size b c) (hB : B ≤ b.heap.size) : Below B a c := h.trans (k.mono hB)
theorem box2 {W : World} {b1 b2 : Nat} {q1 q2 : Int} {v1 v2 : Value} (h1 : Box W b1 q1 v1) (h2 : Box W b2 q2 v2) :
    W.cell? ⟨b1, 0, none⟩ = some (.int .i64 q1) ∧ W.cell? ⟨b1, 1, none⟩ = some v1 ∧ W.cell? ⟨b2, 0, none⟩ = some (.int .i64 q2) ∧ W.cell? ⟨b2, 1, none⟩ = some v2 := ⟨h1.2.1, h1.2.2, h2.2.1, h2.2.2⟩
end Go.Proofs.Ytdkpmaahinbhlaa
/- What the laws' walks carry over calls that write between two bounds: graphs in boxes, bars that lie between bounds, rows of the call's own. No condition. -/
namespace Go.Proofs.Ytdkpmaahinbhlaa
open Go.RowKit

/-- What lay outside the blocks from lo to hi is as it was. -/
structure Within (lo hi : Nat) (w w' : World) : Prop where
  os : w'.os = w.os
  tape : w'.tape = w.tape
  output : w'.output = w.output
  size : w.heap.size ≤ w'.heap.size
  block : ∀ k, k < w.heap.size → (k < lo ∨ hi ≤ k) → w'.heap[k]? = w.heap[k]?
theorem within_of {w w' : World} (hb : Below w.heap.size w w') : Within 0 0 w w' := ⟨hb.os, hb.tape, hb.output, hb.size, fun k hk _ => hb.block k hk⟩
theorem within_on {B lo hi : Nat} {a b c : World} (h : Below B a b) (k : Within lo hi b c) (hB : B ≤ b.heap.size) (hd : B ≤ lo ∨ hi ≤ lo) : Below B a c :=
  ⟨k.os.trans h.os, k.tape.trans h.tape, k.output.trans h.output, Nat.le_trans h.size k.size, fun i hi' => (k.block i (by omega) (by omega)).trans (h.block i hi')⟩
theorem Box.within {W W' : World} {b lo hi : Nat} {q : Int} {v : Value} (h : Box W b q v) (hw : Within lo hi W W') (hd : b < lo ∨ hi ≤ b) : Box W' b q v :=
  ⟨Nat.lt_of_lt_of_le h.1 hw.size, (World.cell?_of_block (hw.block b h.1 hd)).trans h.2.1, (World.cell?_of_block (hw.block b h.1 hd)).trans h.2.2⟩
/-- The bars l lie in a block from lo to hi. -/
def BarsIn (W : World) (lo hi : Nat) (A : Option Addr) (l : List (Int × Int)) : Prop :=
  hi ≤ W.heap.size ∧ (0 < l.length → ∃ b off, A = some ⟨b, off, none⟩ ∧ lo ≤ b ∧ b < hi ∧ ∀ k, k < l.length → W.cell? ⟨b, off + k * 2, none⟩ = some (.int .i64 (l.getD k (0, 0)).1) ∧ W.cell? ⟨b, off + k * 2 + 1, none⟩ = some (.int .i64 (l.getD k (0, 0)).2))
theorem BarsIn.within {W W' : World} {lo hi lo' hi' : Nat} {A : Option Addr} {l : List (Int × Int)} (h : BarsIn W lo hi A l) (hw : Within lo' hi' W W') (hd : hi ≤ lo' ∨ hi' ≤ lo) : BarsIn W' lo hi A l :=
  ⟨Nat.le_trans h.1 hw.size, fun hl => by
    obtain ⟨b, off, e, h1, h2, hc⟩ := h.2 hl
    have hk := hw.block b (Nat.lt_of_lt_of_le h2 h.1) (by omega)
    exact ⟨b, off, e, h1, h2, fun k hk' => ⟨(World.cell?_of_block (a := ⟨b, off + k * 2, none⟩) hk).trans (hc k hk').1, (World.cell?_of_block (a := ⟨b, off + k * 2 + 1, none⟩) hk).trans (hc k hk').2⟩⟩⟩
theorem BarsIn.at {W : World} {lo hi : Nat} {A : Option Addr} {l : List (Int × Int)} (h : BarsIn W lo hi A l) : BarsAt W W.heap.size A l := fun hl => by
  obtain ⟨b, off, e, h1, h2, hc⟩ := h.2 hl
  exact ⟨b, off, e, Nat.lt_of_lt_of_le h2 h.1, hc⟩
theorem bars_in {W : World} {A : Option Addr} {l : List (Int × Int)} (h : BarsAt W W.heap.size A l) : BarsIn W 0 W.heap.size A l :=
  ⟨Nat.le_refl _, fun hl => by obtain ⟨b, off, e, h1, hc⟩ := h hl; exact ⟨b, off, e, Nat.zero_le _, h1, hc⟩⟩
/-- A row of bars of the call's own in a block from lo to hi, or no bars. -/
def OwnIn (W : World) (lo hi : Nat) (A : Option Addr) (cap : Nat) (l : List (Int × Int)) : Prop :=
  hi ≤ W.heap.size ∧ (l = [] ∨ ∃ g, A = some ⟨g, 0, none⟩ ∧ lo ≤ g ∧ g < hi ∧ W.ownsRow lo 108 2 (.slice (some ⟨g, 0, none⟩) l.length cap) l.length (barCells l))
theorem own_block {W W' : World} {base size : Nat} {e : TypeId} {g cap n : Nat} {xs : List Value} (h : W.ownsRow base e size (.slice (some ⟨g, 0, none⟩) n cap) n xs) (hb : W'.heap[g]? = W.heap[g]?) : W'.ownsRow base e size (.slice (some ⟨g, 0, none⟩) n cap) n xs := by
  refine ⟨h.1, ?_⟩
  rcases h.2 with ⟨h1, _⟩ | ⟨g', cap', cur, h1, h2, h3, h4⟩
  · cases h1
  · cases h1
    exact .inr ⟨g, cap, cur, rfl, h2, hb.trans h3, h4⟩
theorem OwnIn.within {W W' : World} {lo hi lo' hi' : Nat} {A : Option Addr} {cap : Nat} {l : List (Int × Int)} (h : OwnIn W lo hi A cap l) (hw : Within lo' hi' W W') (hd : hi ≤ lo' ∨ hi' ≤ lo) : OwnIn W' lo hi A cap l :=
  ⟨Nat.le_trans h.1 hw.size, by
    rcases h.2 with h2 | ⟨g, e, h1, h2, ho⟩
    · exact .inl h2
    · exact .inr ⟨g, e, h1, h2, own_block ho (hw.block g (Nat.lt_of_lt_of_le h2 h.1) (by omega))⟩⟩
theorem OwnIn.bars {W : World} {lo hi : Nat} {A : Option Addr} {cap : Nat} {l : List (Int × Int)} (h : OwnIn W lo hi A cap l) : BarsIn W lo hi A l :=
  ⟨h.1, fun hl => by
    rcases h.2 with h2 | ⟨g, e, h1, h2, ho⟩
    · subst h2; simp at hl
    · obtain ⟨b, off, e', hlt, hc⟩ := own_bars ho hl
      cases e'
      exact ⟨g, 0, e, h1, h2, hc⟩⟩
theorem own_in {w' : World} {base : Nat} {g cap : Nat} {l : List (Int × Int)} (h : w'.ownsRow base 108 2 (.slice (some ⟨g, 0, none⟩) l.length cap) l.length (barCells l)) : OwnIn w' base w'.heap.size (some ⟨g, 0, none⟩) cap l :=
  ⟨Nat.le_refl _, .inr ⟨g, rfl, (h.lt g rfl).1, (h.lt g rfl).2, h⟩⟩
theorem own_in' {w' : World} {base : Nat} {A : Option Addr} {cap : Nat} {l : List (Int × Int)} (h : w'.ownsRow base 108 2 (.slice A l.length cap) l.length (barCells l)) : OwnIn w' base w'.heap.size A cap l := by
  rcases h.2 with ⟨h1, h0⟩ | ⟨g, cap', cur, h1, h2⟩
  · exact ⟨Nat.le_refl _, .inl (List.eq_nil_of_length_eq_zero h0)⟩
  · cases h1
    exact own_in h
theorem own_nil (w : World) (base : Nat) (A : Option Addr) (cap : Nat) : OwnIn w base w.heap.size A cap [] := ⟨Nat.le_refl _, .inl rfl⟩

set_option maxHeartbeats 400000 in
theorem markGraph_o (p : Int) (A : Option Addr) (cap : Nat) (l : List (Int × Int)) (k : Int) (lo hi : Nat) (w : World) (h : OwnIn w lo hi A cap l) (hn : l.length ≤ 1048576) (hk0 : 0 ≤ k) (hk1 : k ≤ 10000000) :
    Calls Try.prog 83 #[.agg #[.int .i64 p, .slice A l.length cap], .int .i64 k] w fun e w' => e = .returned (.int .i64 (k + 2 * (l.length : Int))) ∧ Within lo hi w w' ∧ OwnIn w' lo hi A cap (marks k l.length) := by
  have hhi := h.1
  rcases h.2 with h2 | ⟨g, rfl, h1, h2, ho⟩
  · subst h2
    clear h
    go_enter Try.func83, Try.ntmps83
    go_wp2_with fail
    refine (markBarS_nil A cap k _).mono ?_
    rintro e w1 ⟨rfl, rfl⟩
    go_wp2_with fail
    go_ret
    have hb := new_below w (.cells #[.int .i64 p, .slice A 0 cap] 26)
    exact ⟨by simp, ⟨hb.os, hb.tape, hb.output, hb.size, fun k hk _ => hb.block k hk⟩, Nat.le_trans hhi hb.size, .inl rfl⟩
  · refine (markGraph_c p g l cap k lo w ho hn hk0 hk1).mono ?_
    rintro e w1 ⟨rfl, ho1, hg1⟩
    refine ⟨rfl, ⟨hg1.os, hg1.tape, hg1.output, hg1.size, fun j hj hd => hg1.block j hj (by simp; omega)⟩, Nat.le_trans hhi hg1.size, .inr ⟨g, rfl, h1, h2, ?_⟩⟩
    have := marks_len k l.length
    rw [this]
    exact ho1

/-- What the specification's functions return: a graph that is read. -/
def GraphR (w : World) (p : Int) (l : List (Int × Int)) (e : Ending) (w' : World) : Prop :=
  ∃ A cap, e = .returned (.agg #[.int .i64 p, .slice A l.length cap]) ∧ BarsAt w' w'.heap.size A l ∧ Below w.heap.size w w'
def GraphRB (w : World) (p : Int) (l : List (Int × Int)) (r : Bool) (e : Ending) (w' : World) : Prop :=
  ∃ A cap, e = .returned (.tuple #[.agg #[.int .i64 p, .slice A l.length cap], .bool r]) ∧ BarsAt w' w'.heap.size A l ∧ Below w.heap.size w w'
/-- What the program's functions return: a graph of the call's own. -/
def GraphO (w : World) (p : Int) (l : List (Int × Int)) (e : Ending) (w' : World) : Prop :=
  ∃ A cap, e = .returned (.agg #[.int .i64 p, .slice A l.length cap]) ∧ OwnIn w' w.heap.size w'.heap.size A cap l ∧ Below w.heap.size w w'
def GraphOB (w : World) (p : Int) (l : List (Int × Int)) (r : Bool) (e : Ending) (w' : World) : Prop :=
  ∃ A cap, e = .returned (.tuple #[.agg #[.int .i64 p, .slice A l.length cap], .bool r]) ∧ OwnIn w' w.heap.size w'.heap.size A cap l ∧ Below w.heap.size w w'
end Go.Proofs.Ytdkpmaahinbhlaa
/- Rows of ints of the call's own; an append onto a row of the call's own, with the block where the new row lies. No condition. -/
namespace Go.Proofs.Ytdkpmaahinbhlaa
open Go.RowKit

/-- Several cells, just laid, appended onto a row of the call's own: what is written, and where the row lies then. -/
theorem wpList_at {P : Program} (w : World) {ops : Array Oper} {rest : List Oper} {o : Oper} {a : Act} {Q : Exit → Act → World → Prop} (hgd : o.guard = none) (s x : Operand) (t : TypeId)
    (ho : o.op = .call { callee := .builtin .append, args := #[s, x], argTypes := #[t, t] })
    (base : Nat) (e : TypeId) (z : Value) (size bytes : Nat) (ht : P.underlying t = some (.slice e)) (hinfo : (P.info? e).map (fun i => (i.zero, i.size, i.bytes)) = some (some z, size, bytes)) (hzs : z.cells.size = size) (hsz : 0 < size)
    (v : Value) (n : Nat) (xs : List Value) (hs : a.eval s = v) (hown : w.ownsRow base e size v n xs) (us : Array Value) (m : Nat) (hm : us.size = m * size) (hu : ∀ u ∈ us.toList, u.oneCell' = true) (tb : TypeId) (c : Nat) (hx : a.eval x = .slice (some ⟨w.heap.size, 0, none⟩) m c)
    (hbytes : (n + m) * bytes ≤ 140737488355328) (h63 : n + m ≤ maxLen) (hbase : base ≤ w.heap.size)
    (h : ∀ v' w', w'.ownsRow base e size v' (n + m) (xs ++ us.toList) → w.grownBy w' v.ownBlock → (v'.ownBlock = v.ownBlock ∨ v'.ownBlock = some (w.heap.size + 1)) → (v' = .slice none 0 0 ↔ v = .slice none 0 0 ∧ m = 0) → wpList P ops Q rest (a.put o.dst v') w') : wpList P ops Q (o :: rest) a (w.alloc (.cells us tb)) := by
  obtain ⟨i, hi, hz0, hz1, hz2⟩ := info_parts hinfo
  refine wpList_append_own_at _ hgd s x t ho base e i z size bytes ht hi hz0 hz1 hz2 hzs hsz v n xs hs (hown.alloc _) ⟨w.heap.size, 0, none⟩ m c us.toList hx (by simpa using hm) ?_ hu h63 hbytes (by simp; omega) ?_
  · intro j y hj
    have : (⟨w.heap.size, 0, none⟩ : Addr).add j = ⟨w.heap.size, j, none⟩ := by unfold Addr.add; split <;> simp_all
    rw [this, World.cell?_alloc_at _ _ _ _ rfl]
    simpa using hj
  · intro v' w' hown' hg hnil hat
    exact h v' w' hown' ((World.grownBy_alloc w (.cells us tb) v.ownBlock).trans_ hg) (by simpa using hat) hnil

theorem own_shape {w : World} {base size : Nat} {e : TypeId} {v : Value} {n : Nat} {xs : List Value} (h : w.ownsRow base e size v n xs) : ∃ A c, v = .slice A n c := by
  rcases h.2 with ⟨rfl, rfl⟩ | ⟨g, c, _, rfl, _⟩
  · exact ⟨none, 0, rfl⟩
  · exact ⟨_, c, rfl⟩
theorem infoInt : (Try.prog.info? 3).map (fun i => (i.zero, i.size, i.bytes)) = some (some (.int .i64 0), 1, 8) := by kernel_rfl

/-- The slice at A reads as the ints zs, in a block from lo to hi. -/
def IntsIn (W : World) (lo hi : Nat) (A : Option Addr) (zs : List Int) : Prop :=
  hi ≤ W.heap.size ∧ (0 < zs.length → ∃ b off, A = some ⟨b, off, none⟩ ∧ lo ≤ b ∧ b < hi ∧ ∀ k, k < zs.length → W.cell? ⟨b, off + k, none⟩ = some (.int .i64 (zs.getD k 0)))
theorem IntsIn.within {W W' : World} {lo hi lo' hi' : Nat} {A : Option Addr} {zs : List Int} (h : IntsIn W lo hi A zs) (hw : Within lo' hi' W W') (hd : hi ≤ lo' ∨ hi' ≤ lo) : IntsIn W' lo hi A zs :=
  ⟨Nat.le_trans h.1 hw.size, fun hl => by
    obtain ⟨b, off, e, h1, h2, hc⟩ := h.2 hl
    have hk := hw.block b (Nat.lt_of_lt_of_le h2 h.1) (by omega)
    exact ⟨b, off, e, h1, h2, fun k hk' => (World.cell?_of_block (a := ⟨b, off + k, none⟩) hk).trans (hc k hk')⟩⟩
def intCells (zs : List Int) : List Value := zs.map (Value.int .i64)
theorem intCells_get (zs : List Int) (k : Nat) (h : k < zs.length) : (intCells zs)[k]? = some (.int .i64 (zs.getD k 0)) := by
  simp [intCells, List.getD, List.getElem?_eq_getElem h]
theorem intCells_len (zs : List Int) : (intCells zs).length = zs.length := by simp [intCells]
/-- A row of ints of the call's own. -/
def OwnInts (W : World) (lo hi : Nat) (A : Option Addr) (cap : Nat) (zs : List Int) : Prop :=
  hi ≤ W.heap.size ∧ (zs = [] ∨ ∃ g, A = some ⟨g, 0, none⟩ ∧ lo ≤ g ∧ g < hi ∧ W.ownsRow lo 3 1 (.slice (some ⟨g, 0, none⟩) zs.length cap) zs.length (intCells zs))
theorem OwnInts.within {W W' : World} {lo hi lo' hi' : Nat} {A : Option Addr} {cap : Nat} {zs : List Int} (h : OwnInts W lo hi A cap zs) (hw : Within lo' hi' W W') (hd : hi ≤ lo' ∨ hi' ≤ lo) : OwnInts W' lo hi A cap zs :=
  ⟨Nat.le_trans h.1 hw.size, by
    rcases h.2 with h2 | ⟨g, e, h1, h2, ho⟩
    · exact .inl h2
    · exact .inr ⟨g, e, h1, h2, own_block ho (hw.block g (Nat.lt_of_lt_of_le h2 h.1) (by omega))⟩⟩
theorem OwnInts.reads {W : World} {lo hi : Nat} {A : Option Addr} {cap : Nat} {zs : List Int} (h : OwnInts W lo hi A cap zs) : IntsIn W lo hi A zs :=
  ⟨h.1, fun hl => by
    rcases h.2 with h2 | ⟨g, e, h1, h2, ho⟩
    · subst h2; simp at hl
    · exact ⟨g, 0, e, h1, h2, fun k hk => by
        rw [Nat.zero_add]
        exact (ho.cellAt k (by omega)).trans (intCells_get zs k hk)⟩⟩
theorem own_ints' {w' : World} {base : Nat} {A : Option Addr} {cap : Nat} {zs : List Int} (h : w'.ownsRow base 3 1 (.slice A zs.length cap) zs.length (intCells zs)) : OwnInts w' base w'.heap.size A cap zs := by
  rcases h.2 with ⟨h1, h0⟩ | ⟨g, cap', cur, h1, h2⟩
  · exact ⟨Nat.le_refl _, .inl (List.eq_nil_of_length_eq_zero h0)⟩
  · cases h1
    exact ⟨Nat.le_refl _, .inr ⟨g, rfl, (h.lt g rfl).1, (h.lt g rfl).2, h⟩⟩
end Go.Proofs.Ytdkpmaahinbhlaa
/- Rows of ints, as the laws copy, compare and mark them. No condition. -/
namespace Go.Proofs.Ytdkpmaahinbhlaa
open Go.RowKit

set_option maxHeartbeats 1000000 in
set_option maxRecDepth 100000 in
theorem eqInts_c (zs : List Int) (A A' : Option Addr) (cap cap' : Nat) (lo hi lo' hi' : Nat) (w : World) (hl : IntsIn w lo hi A zs) (hl' : IntsIn w lo' hi' A' zs) (hn : zs.length ≤ 1048576) :
    Calls Try.prog 178 #[.slice A zs.length cap, .slice A' zs.length cap'] w fun e w' => e = .returned (.bool true) ∧ Below w.heap.size w w' := by
  have HL := Lib.hid hl
  have HL' := Lib.hid hl'
  clear hl hl'
  go_enter Try.func178, Try.ntmps178
  go_wp2_with fail
  go_loopw [5] (fun i wr => ∃ k : Nat, k ≤ zs.length ∧ i = .int .i64 k ∧ ∃ m, wr = w.drewN m) (fun i _ => zs.length - (intOf i).toNat)
  case atStart => exact ⟨0, by omega, rfl, 0, rfl⟩
  case round =>
    obtain ⟨k, hk, rfl, m, rfl⟩ := hrel
    by_cases hlt : k < zs.length
    · have hi : (k : Int) < (zs.length : Int) := by omega
      obtain ⟨b, off, rfl, _, _, hcell⟩ := HL.out.2 (by omega)
      obtain ⟨b', off', rfl, _, _, hcell'⟩ := HL'.out.2 (by omega)
      have hc1 := hcell k hlt
      have hc2 := hcell' k hlt
      clear hcell hcell'
      obtain ⟨x, hx⟩ : ∃ x, zs.getD k 0 = x := ⟨_, rfl⟩
      rw [hx] at hc1 hc2
      clear hx
      go_wp2_with fail
      go_quiet (fail)
      go_wp2_with fail
      go_roundw
      case rel => exact ⟨k + 1, by omega, by go_num, m + nq, rfl⟩
      case measure => simp [intOf]; omega
    · go_wp2_with fail
      go_ret
      exact ⟨rfl, below_drewN _ _ _⟩

/-- The ints that the marks from k on make. -/
def marksI (k : Int) (n : Nat) : List Int := (List.range n).map fun (i : Nat) => k + (i : Int)
theorem marksI_len (k : Int) (n : Nat) : (marksI k n).length = n := by simp [marksI]
theorem marksI_get (k : Int) (n i : Nat) (h : i < n) : (marksI k n).getD i 0 = k + (i : Int) := by simp [marksI, List.getD, h]
theorem marksI_step (k : Int) (zs : List Int) (i : Nat) (h : i < zs.length) : (intCells (marksI k i ++ zs.drop i)).set i (.int .i64 (k + (i : Int))) = intCells (marksI k (i + 1) ++ zs.drop (i + 1)) := by
  unfold intCells
  rw [← List.map_set, List.set_append_right _ _ (by rw [marksI_len]; exact Nat.le_refl _), marksI_len, Nat.sub_self, List.drop_eq_getElem_cons h, List.set_cons_zero]
  simp [marksI, List.range_succ]

set_option maxHeartbeats 1000000 in
set_option maxRecDepth 100000 in
theorem markInts_c (g : Nat) (zs : List Int) (cap : Nat) (k : Int) (base : Nat) (w : World) (hown : w.ownsRow base 3 1 (.slice (some ⟨g, 0, none⟩) zs.length cap) zs.length (intCells zs)) (hn : zs.length ≤ 1048576) (hk0 : 0 ≤ k) (hk1 : k ≤ 10000000) :
    Calls Try.prog 181 #[.slice (some ⟨g, 0, none⟩) zs.length cap, .int .i64 k] w fun e w' => e = .returned (.int .i64 (k + (zs.length : Int))) ∧ w'.ownsRow base 3 1 (.slice (some ⟨g, 0, none⟩) zs.length cap) zs.length (intCells (marksI k zs.length)) ∧ w.grownBy w' (some g) := by
  have HO := Lib.hid hown
  clear hown
  go_enter Try.func181, Try.ntmps181
  go_wp2_with fail
  go_loopw [1, 5] (fun m i wr => ∃ j : Nat, j ≤ zs.length ∧ i = .int .i64 j ∧ m = .int .i64 (k + (j : Int)) ∧ wr.ownsRow base 3 1 (.slice (some ⟨g, 0, none⟩) zs.length cap) zs.length (intCells (marksI k j ++ zs.drop j)) ∧ w.grownBy wr (some g)) (fun _ i _ => zs.length - (intOf i).toNat)
  case atStart => exact ⟨0, by omega, rfl, by simp, HO.out, World.grownBy.refl _ _⟩
  case round =>
    obtain ⟨j, hj, rfl, rfl, hown, hg⟩ := hrel
    have HG := Lib.hid hg
    clear hg
    by_cases hlt : j < zs.length
    · have hi : (j : Int) < (zs.length : Int) := by omega
      have hlen : (marksI k j ++ zs.drop j).length = zs.length := by rw [List.length_append, marksI_len, List.length_drop]; omega
      have hd1 := (hown.cellAt j (by omega)).trans (intCells_get _ j (by omega))
      have hf1 := hown.frozenAt j
      have hst1 := hown.stored j (.int .i64 (k + (j : Int)))
      have HG2 := Lib.hid (HG.out.trans_ hst1.2)
      have hst3 := hst1.1
      rw [marksI_step k zs j hlt] at hst3
      have HST := Lib.hid hst3
      clear hst1 hst3 hown hlen
      go_wp2_with fail
      go_roundw
      case rel => exact ⟨j + 1, by omega, by go_num, by go_num, HST.out, HG2.out⟩
      case measure => simp [intOf]; omega
    · obtain rfl : j = zs.length := by omega
      rw [List.drop_length, List.append_nil] at hown
      go_wp2_with fail
      go_ret
      exact ⟨rfl, hown, HG.out⟩
theorem markInts_nil (A : Option Addr) (cap : Nat) (k : Int) (w : World) :
    Calls Try.prog 181 #[.slice A 0 cap, .int .i64 k] w fun e w' => e = .returned (.int .i64 k) ∧ w = w' := by
  go_enter Try.func181, Try.ntmps181
  go_wp2_with fail
  refine wp_loop_rounds 1 ?_
  rw [rounds_succ]
  go_wp2_with fail
  go_ret
  exact ⟨rfl, rfl⟩
theorem markInts_o (A : Option Addr) (cap : Nat) (zs : List Int) (k : Int) (lo hi : Nat) (w : World) (h : OwnInts w lo hi A cap zs) (hn : zs.length ≤ 1048576) (hk0 : 0 ≤ k) (hk1 : k ≤ 10000000) :
    Calls Try.prog 181 #[.slice A zs.length cap, .int .i64 k] w fun e w' => e = .returned (.int .i64 (k + (zs.length : Int))) ∧ Within lo hi w w' ∧ OwnInts w' lo hi A cap (marksI k zs.length) := by
  have hhi := h.1
  rcases h.2 with h2 | ⟨g, rfl, h1, h2, ho⟩
  · subst h2
    refine (markInts_nil A cap k w).mono ?_
    rintro e w1 ⟨rfl, rfl⟩
    exact ⟨by simp, ⟨rfl, rfl, rfl, Nat.le_refl _, fun _ _ _ => rfl⟩, hhi, .inl rfl⟩
  · refine (markInts_c g zs cap k lo w ho hn hk0 hk1).mono ?_
    rintro e w1 ⟨rfl, ho1, hg1⟩
    refine ⟨rfl, ⟨hg1.os, hg1.tape, hg1.output, hg1.size, fun j hj hd => hg1.block j hj (by simp; omega)⟩, Nat.le_trans hhi hg1.size, .inr ⟨g, rfl, h1, h2, ?_⟩⟩
    have := marksI_len k zs.length
    rw [this]
    exact ho1

set_option maxHeartbeats 1000000 in
set_option maxRecDepth 100000 in
theorem heldInts_c (n : Nat) (A : Option Addr) (cap : Nat) (k : Int) (lo hi : Nat) (w : World) (hl : IntsIn w lo hi A (marksI k n)) (hn : n ≤ 1048576) (hk0 : 0 ≤ k) (hk1 : k ≤ 10000000) :
    Calls Try.prog 182 #[.slice A n cap, .int .i64 k] w fun e w' => e = .returned (.int .i64 (k + (n : Int))) ∧ Below w.heap.size w w' := by
  have HL := Lib.hid hl
  clear hl
  go_enter Try.func182, Try.ntmps182
  go_wp2_with fail
  go_loop [1, 5] (fun m i => ∃ j : Nat, j ≤ n ∧ i = .int .i64 j ∧ m = .int .i64 (k + (j : Int))) (fun _ i => n - (intOf i).toNat)
  case atStart => exact ⟨0, by omega, rfl, by simp⟩
  case round =>
    obtain ⟨j, hj, rfl, rfl⟩ := hrel
    by_cases hlt : j < n
    · have hi : (j : Int) < (n : Int) := by omega
      obtain ⟨b, off, rfl, _, _, hcell⟩ := HL.out.2 (by rw [marksI_len]; omega)
      have hc := hcell j (by rw [marksI_len]; exact hlt)
      rw [marksI_get k n j hlt] at hc
      clear hcell
      go_wp2_with fail
      go_round
      case rel => exact ⟨j + 1, by omega, by go_num, by go_num⟩
      case measure => simp [intOf]; omega
    · obtain rfl : j = n := by omega
      go_wp2_with fail
      go_ret
      exact ⟨rfl, Below.refl _ _⟩
end Go.Proofs.Ytdkpmaahinbhlaa
/- A slice of ints that a law is handed, and the laws' copy of it (toIntS). No condition. -/
namespace Go.Proofs.Ytdkpmaahinbhlaa
open Go.RowKit

/-- A slice of integers that came in: nil, or a row whose first 'len' cells are its elements. -/
def IsRow (k : IntKind) (w : World) (a : Option Addr) (len cap : Nat) (zs : List Int) : Prop :=
  (a = none ∧ len = 0 ∧ cap = 0 ∧ zs = []) ∨
  ∃ x, a = some x ∧ len ≤ cap ∧ cap ≤ maxLen ∧ zs.length = cap ∧ (∀ i, i < zs.length → w.cell? (x.add i) = some (.int k (zs.getD i 0))) ∧ ∀ n ∈ zs, (Lit.int k n).wf = true
theorem IsRow.ints {w : World} {a : Option Addr} {len cap : Nat} {zs : List Int} (h : IsRow .i64 w a len cap zs) : ∃ ys : List Int, ys.length = len ∧ IntsIn w 0 w.heap.size a ys ∧ len ≤ maxLen := by
  rcases h with ⟨rfl, rfl, rfl, rfl⟩ | ⟨x, rfl, h1, h2, h3, h4, _⟩
  · exact ⟨[], rfl, ⟨Nat.le_refl _, fun h => absurd h (by simp)⟩, Nat.zero_le _⟩
  · refine ⟨zs.take len, by simp; omega, ⟨Nat.le_refl _, fun hl => ?_⟩, Nat.le_trans h1 h2⟩
    have hl' : 0 < zs.length := by simp at hl; omega
    obtain ⟨b, off, spot⟩ := x
    have hs : spot = none := by simpa [Addr.add] using World.cell?_spot (h4 0 hl')
    subst hs
    have hadd : ∀ k, (⟨b, off, none⟩ : Addr).add k = ⟨b, off + k, none⟩ := fun k => by unfold Addr.add; split <;> simp_all
    have h0 := h4 0 hl'
    rw [hadd] at h0
    refine ⟨b, off, rfl, Nat.zero_le _, World.block_lt_of_cell? w _ h0, fun k hk => ?_⟩
    have hk' : k < len ∧ k < zs.length := by simp at hk; omega
    have := h4 k hk'.2
    rw [hadd] at this
    rw [this]
    simp [List.getD, hk'.1]

theorem intsOf_zero (n : Nat) : List.replicate n (Value.int .i64 0) = intCells (List.replicate n 0) := by simp [intCells]
theorem ints_step (zs : List Int) (k : Nat) (h : k < zs.length) : (intCells (zs.take k ++ List.replicate (zs.length - k) 0)).set k (.int .i64 (zs.getD k 0)) = intCells (zs.take (k + 1) ++ List.replicate (zs.length - (k + 1)) 0) := by
  unfold intCells
  rw [← List.map_set]
  congr 1
  have hl0 : (zs.take k).length = k := by simp; omega
  obtain ⟨r, hr⟩ : ∃ r, zs.length - k = r + 1 := ⟨zs.length - k - 1, by omega⟩
  rw [List.set_append_right _ _ (by omega), hl0, Nat.sub_self, hr, List.replicate_succ, List.set_cons_zero, List.take_succ_eq_append_getElem h, show zs.length - (k + 1) = r by omega, List.append_assoc]
  simp [List.getD, List.getElem?_eq_getElem h]

end Go.Proofs.Ytdkpmaahinbhlaa
/- A graph that a law is handed by value, opened, with the bounds of its bars' ends; a row of ints with the bounds of its elements. No condition. -/
namespace Go.Proofs.Ytdkpmaahinbhlaa
open Go.RowKit Go.Joins Go.ChangeShapes Go.WideShapes Go.Deep

theorem IsRow.intsW {w : World} {a : Option Addr} {len cap : Nat} {zs : List Int} (h : IsRow .i64 w a len cap zs) : ∃ ys : List Int, ys.length = len ∧ IntsIn w 0 w.heap.size a ys ∧ len ≤ maxLen ∧ WfI ys := by
  rcases h with ⟨rfl, rfl, rfl, rfl⟩ | ⟨x, rfl, h1, h2, h3, h4, h5⟩
  · exact ⟨[], rfl, ⟨Nat.le_refl _, fun h => absurd h (by simp)⟩, Nat.zero_le _, fun k hk => absurd hk (by simp)⟩
  · refine ⟨zs.take len, by simp; omega, ⟨Nat.le_refl _, fun hl => ?_⟩, Nat.le_trans h1 h2, fun k hk => ?_⟩
    · have hl' : 0 < zs.length := by simp at hl; omega
      obtain ⟨b, off, spot⟩ := x
      have hs : spot = none := by simpa [Addr.add] using World.cell?_spot (h4 0 hl')
      subst hs
      have hadd : ∀ k, (⟨b, off, none⟩ : Addr).add k = ⟨b, off + k, none⟩ := fun k => by unfold Addr.add; split <;> simp_all
      have h0 := h4 0 hl'
      rw [hadd] at h0
      refine ⟨b, off, rfl, Nat.zero_le _, World.block_lt_of_cell? w _ h0, fun k hk => ?_⟩
      have hk' : k < len ∧ k < zs.length := by simp at hk; omega
      have := h4 k hk'.2
      rw [hadd] at this
      rw [this]
      simp [List.getD, hk'.1]
    · have hk' : k < len ∧ k < zs.length := by simp at hk; omega
      refine h5 _ ?_
      have : (zs.take len).getD k 0 = zs[k] := by simp [List.getD, hk'.1, List.getElem?_eq_getElem hk'.2]
      rw [this]
      exact List.getElem_mem hk'.2

section
variable {H : Type} {enc : TypeId × Value → H} {w : World} {base : Nat}

/-- A slice of the law's bars. -/
theorem open_barsW {n : Nat} {v : Value} {y : DataW H × List MemPlace} (h : DataW.trod enc Try.prog w 0 (fun _ => true) true n 77 [v] = some y) :
    ∃ (A : Option Addr) (cap : Nat) (l : List (Int × Int)), v = .slice A l.length cap ∧ l.length ≤ maxLen ∧ BarsAt w w.heap.size A l ∧ WfB l := by
  rcases open_slice_pairs Try.underlying77 Try.underlying197 (by kernel_rfl) rfl rfl (by kernel_rfl) (by kernel_rfl) h with ⟨hv, _⟩ | ⟨a, len, cap, m, fuel, V0, V1, D0, D1, P0, P1, hv, _, hlc, hcm, hm, _, hi⟩
  · refine ⟨none, 0, [], ?_, by simp, fun h => absurd h (by simp), fun k hk => absurd hk (by simp)⟩
    simpa using hv
  · have hm' : m = cap := by simpa using hm
    have hadd : ∀ (b off k : Nat), (⟨b, off, none⟩ : Addr).add k = ⟨b, off + k, none⟩ := fun b off k => by unfold Addr.add; split <;> simp_all
    have key : ∀ k, k < len → ∃ x z : Int, V0 k = .int .i64 x ∧ V1 k = .int .i64 z ∧ Wf x ∧ Wf z := fun k hk => by
      obtain ⟨_, _, t0, t1⟩ := hi k (by omega)
      obtain ⟨x, e0, _, w0⟩ := DataW.trod_int Try.underlying3 t0
      obtain ⟨z, e1, _, w1⟩ := DataW.trod_int Try.underlying3 t1
      exact ⟨x, z, by simpa using e0, by simpa using e1, w0, w1⟩
    refine ⟨some a, cap, (List.range len).map fun i => (intOf (V0 i), intOf (V1 i)), by simpa using hv, by simp; omega, fun hl => ?_, fun k hk => ?_⟩
    · have hl' : 0 < len := by simpa using hl
      obtain ⟨b, off, spot⟩ := a
      have hs : spot = none := by simpa [Addr.add] using World.cell?_spot (hi 0 (by omega)).1
      subst hs
      have h0 := (hi 0 (by omega)).1
      rw [hadd] at h0
      refine ⟨b, off, rfl, World.block_lt_of_cell? w _ h0, fun k hk => ?_⟩
      have hk' : k < len := by simpa using hk
      obtain ⟨c0, c1, _, _⟩ := hi k (by omega)
      obtain ⟨x, z, g0, g1, _, _⟩ := key k hk'
      rw [hadd] at c0 c1
      have hg : ((List.range len).map fun i => (intOf (V0 i), intOf (V1 i))).getD k (0, 0) = (x, z) := by
        simp [List.getD, hk', g0, g1, intOf]
      rw [hg, c0, g0, show off + k * 2 + 1 = off + (k * 2 + 1) by omega, c1, g1]
      exact ⟨rfl, rfl⟩
    · have hk' : k < len := by simpa using hk
      obtain ⟨x, z, g0, g1, w0, w1⟩ := key k hk'
      have hg : ((List.range len).map fun i => (intOf (V0 i), intOf (V1 i))).getD k (0, 0) = (x, z) := by
        simp [List.getD, hk', g0, g1, intOf]
      rw [hg]
      exact ⟨w0, w1⟩

set_option maxRecDepth 100000 in
theorem open_graphW {r : Reach} {b0 : Nat} {v : Value} {d : DataW H} {p : List MemPlace} (hv : Value.okWide Try.prog w r b0 79 v) (h : DataW.Trod enc Try.prog w 0 (fun _ => true) true 79 v d p) :
    ∃ (q : Int) (A : Option Addr) (cap : Nat) (l : List (Int × Int)), v = .agg #[.int .i64 q, .slice A l.length cap] ∧ l.length ≤ maxLen ∧ BarsAt w w.heap.size A l ∧ WfB l := by
  obtain ⟨v0, v1, y0, y1, n, rfl, _, _, h0, h1⟩ := open_agg2 Try.underlying79 (by kernel_rfl) (by kernel_rfl) hv h
  obtain ⟨q, e0, _⟩ := DataW.trod_int Try.underlying3 h0
  obtain ⟨A, cap, l, e1, hl, hb, hw⟩ := open_barsW h1
  subst e1
  have e0' : v0 = .int .i64 q := by simpa using e0
  subst e0'
  exact ⟨q, A, cap, l, rfl, hl, hb, hw⟩
end
end Go.Proofs.Ytdkpmaahinbhlaa
/- A block of three values: a struct of three cells in a box. No condition. -/
namespace Go.Proofs.Ytdkpmaahinbhlaa
open Go.RowKit

/-- Three values in a block. -/
def Cel3 (W : World) (b : Nat) (T : TypeId) (v0 v1 v2 : Value) : Prop := W.heap[b]? = some (.cells #[v0, v1, v2] T (0, 0))
theorem Cel3.lt {W : World} {b : Nat} {T : TypeId} {v0 v1 v2 : Value} (h : Cel3 W b T v0 v1 v2) : b < W.heap.size := (Array.getElem?_eq_some_iff.1 h).1
theorem Cel3.cells {W : World} {b : Nat} {T : TypeId} {v0 v1 v2 : Value} (h : Cel3 W b T v0 v1 v2) :
    W.cell? ⟨b, 0, none⟩ = some v0 ∧ W.cell? ⟨b, 1, none⟩ = some v1 ∧ W.cell? ⟨b, 2, none⟩ = some v2 ∧ W.frozen? ⟨b, 0, none⟩ = false ∧ W.frozen? ⟨b, 1, none⟩ = false ∧ W.frozen? ⟨b, 2, none⟩ = false := by
  refine ⟨?_, ?_, ?_, frozen_of_row W b 0 _ T h, frozen_of_row W b 1 _ T h, frozen_of_row W b 2 _ T h⟩
  · rw [cell_of_row W b 0 _ T (0, 0) h]; rfl
  · rw [cell_of_row W b 1 _ T (0, 0) h]; rfl
  · rw [cell_of_row W b 2 _ T (0, 0) h]; rfl
theorem Cel3.within {W W' : World} {b lo hi : Nat} {T : TypeId} {v0 v1 v2 : Value} (h : Cel3 W b T v0 v1 v2) (hw : Within lo hi W W') (hd : b < lo ∨ hi ≤ b) : Cel3 W' b T v0 v1 v2 := (hw.block b h.lt hd).trans h
theorem Cel3.kept {W W' : World} {b : Nat} {T : TypeId} {v0 v1 v2 : Value} (h : Cel3 W b T v0 v1 v2) (hb : Below W.heap.size W W') : Cel3 W' b T v0 v1 v2 := (hb.block b h.lt).trans h
theorem Cel3.set0 {W : World} {b : Nat} {T : TypeId} {v0 v1 v2 : Value} (h : Cel3 W b T v0 v1 v2) (u : Value) : Cel3 (W.setCell ⟨b, 0, none⟩ u) b T u v1 v2 := heap_setCell_same W b 0 _ T u h
theorem Cel3.set1 {W : World} {b : Nat} {T : TypeId} {v0 v1 v2 : Value} (h : Cel3 W b T v0 v1 v2) (u : Value) : Cel3 (W.setCell ⟨b, 1, none⟩ u) b T v0 u v2 := heap_setCell_same W b 1 _ T u h
theorem Cel3.set2 {W : World} {b : Nat} {T : TypeId} {v0 v1 v2 : Value} (h : Cel3 W b T v0 v1 v2) (u : Value) : Cel3 (W.setCell ⟨b, 2, none⟩ u) b T v0 v1 u := heap_setCell_same W b 2 _ T u h
theorem cel3_new (w : World) (v0 v1 v2 : Value) (T : TypeId) : Cel3 (w.alloc (.cells #[v0, v1, v2] T)) w.heap.size T v0 v1 v2 := heap_alloc_new w _
theorem within_set (W : World) (b o : Nat) (v : Value) : Within b (b + 1) W (W.setCell ⟨b, o, none⟩ v) := by
  have hg := grownBy_set W b o v
  exact ⟨hg.os, hg.tape, hg.output, hg.size, fun j hj hd => hg.block j hj (by simp; omega)⟩
theorem within_alloc (w : World) (o : Obj) : Within 0 0 w (w.alloc o) := within_of (new_below w o)
theorem Within.refl (lo hi : Nat) (w : World) : Within lo hi w w := ⟨rfl, rfl, rfl, Nat.le_refl _, fun _ _ _ => rfl⟩
theorem Within.trans {lo hi : Nat} {a b c : World} (h : Within lo hi a b) (k : Within lo hi b c) : Within lo hi a c :=
  ⟨k.os.trans h.os, k.tape.trans h.tape, k.output.trans h.output, Nat.le_trans h.size k.size, fun i hi' hd => (k.block i (Nat.lt_of_lt_of_le hi' h.size) hd).trans (h.block i hi' hd)⟩
theorem Within.widen {lo hi lo' hi' : Nat} {a b : World} (h : Within lo hi a b) (h1 : hi ≤ lo ∨ (lo' ≤ lo ∧ hi ≤ hi')) : Within lo' hi' a b :=
  ⟨h.os, h.tape, h.output, h.size, fun i hi' hd => h.block i hi' (by omega)⟩

/-- The world that only an answer's box was written in. -/
theorem ret3 {W : World} {b : Nat} {T : TypeId} {a0 a1 a2 : Value} (h : Cel3 W b T a0 a1 a2) (v0 v1 v2 : Value) : Cel3 (((W.setCell ⟨b, 0, none⟩ v0).setCell ⟨b, 1, none⟩ v1).setCell ⟨b, 2, none⟩ v2) b T v0 v1 v2 ∧ Within b (b + 1) W (((W.setCell ⟨b, 0, none⟩ v0).setCell ⟨b, 1, none⟩ v1).setCell ⟨b, 2, none⟩ v2) :=
  ⟨((h.set0 v0).set1 v1).set2 v2, ((within_set W b 0 v0).trans (within_set _ b 1 v1)).trans (within_set _ b 2 v2)⟩

end Go.Proofs.Ytdkpmaahinbhlaa
/- What a function returns that answers with a row of ints of the call's own. No condition. -/
namespace Go.Proofs.Ytdkpmaahinbhlaa
open Go.RowKit

/-- A row of ints of the call's own. -/
def IntsO (w : World) (zs : List Int) (e : Ending) (w' : World) : Prop :=
  ∃ A cap, e = .returned (.slice A zs.length cap) ∧ OwnInts w' w.heap.size w'.heap.size A cap zs ∧ Below w.heap.size w w'
theorem OwnInts.widen {W : World} {lo hi lo' hi' : Nat} {A : Option Addr} {cap : Nat} {zs : List Int} (h : OwnInts W lo hi A cap zs) (h1 : lo' ≤ lo) (h2 : hi ≤ hi') (h3 : hi' ≤ W.heap.size) : OwnInts W lo' hi' A cap zs :=
  ⟨h3, by
    rcases h.2 with h4 | ⟨g, e, h5, h6, ho⟩
    · exact .inl h4
    · exact .inr ⟨g, e, by omega, by omega, own_base ho h1⟩⟩
end Go.Proofs.Ytdkpmaahinbhlaa
/- A state of the pebble game by value: three rows of ints; how a law's argument is opened. No condition. -/
namespace Go.Proofs.Ytdkpmaahinbhlaa
open Go.RowKit Go.Joins Go.ChangeShapes Go.WideShapes Go.Deep

abbrev pebV (AF : Option Addr) (f cF : Nat) (AT : Option Addr) (t cT : Nat) (AZ : Option Addr) (z cZ : Nat) : Value := .agg #[.slice AF f cF, .slice AT t cT, .slice AZ z cZ]
/-- A state that is read: its rows lie in blocks from lo to hi. -/
structure Peb3 (W : World) (lo hi : Nat) (AF AT AZ : Option Addr) (F T Z : List Int) : Prop where
  f : IntsIn W lo hi AF F
  t : IntsIn W lo hi AT T
  z : IntsIn W lo hi AZ Z
theorem Peb3.within {W W' : World} {lo hi lo' hi' : Nat} {AF AT AZ : Option Addr} {F T Z : List Int} (h : Peb3 W lo hi AF AT AZ F T Z) (hw : Within lo' hi' W W') (hd : hi ≤ lo' ∨ hi' ≤ lo) : Peb3 W' lo hi AF AT AZ F T Z :=
  ⟨h.f.within hw hd, h.t.within hw hd, h.z.within hw hd⟩
theorem IntsIn.widen {W : World} {lo hi lo' hi' : Nat} {A : Option Addr} {zs : List Int} (h : IntsIn W lo hi A zs) (h1 : lo' ≤ lo) (h2 : hi ≤ hi') (h3 : hi' ≤ W.heap.size) : IntsIn W lo' hi' A zs :=
  ⟨h3, fun hl => by
    obtain ⟨b, off, e, g1, g2, hc⟩ := h.2 hl
    exact ⟨b, off, e, by omega, by omega, hc⟩⟩
def Dis (a b : Nat × Nat) : Prop := a.2 ≤ b.1 ∨ b.2 ≤ a.1
/-- A state of the call's own: three rows in blocks of their own, between lo and hi. -/
def Own3 (W : World) (lo hi : Nat) (AF : Option Addr) (cF : Nat) (AT : Option Addr) (cT : Nat) (AZ : Option Addr) (cZ : Nat) (F T Z : List Int) : Prop :=
  ∃ f t z : Nat × Nat, OwnInts W f.1 f.2 AF cF F ∧ OwnInts W t.1 t.2 AT cT T ∧ OwnInts W z.1 z.2 AZ cZ Z ∧ Dis f t ∧ Dis f z ∧ Dis t z ∧ (lo ≤ f.1 ∧ f.2 ≤ hi) ∧ (lo ≤ t.1 ∧ t.2 ≤ hi) ∧ (lo ≤ z.1 ∧ z.2 ≤ hi) ∧ hi ≤ W.heap.size
theorem Own3.within {W W' : World} {lo hi lo' hi' : Nat} {AF AT AZ : Option Addr} {cF cT cZ : Nat} {F T Z : List Int} (h : Own3 W lo hi AF cF AT cT AZ cZ F T Z) (hw : Within lo' hi' W W') (hd : hi ≤ lo' ∨ hi' ≤ lo) : Own3 W' lo hi AF cF AT cT AZ cZ F T Z := by
  obtain ⟨f, t, z, h1, h2, h3, d1, d2, d3, b1, b2, b3, h4⟩ := h
  exact ⟨f, t, z, h1.within hw (by omega), h2.within hw (by omega), h3.within hw (by omega), d1, d2, d3, b1, b2, b3, Nat.le_trans h4 hw.size⟩
theorem Own3.reads {W : World} {lo hi : Nat} {AF AT AZ : Option Addr} {cF cT cZ : Nat} {F T Z : List Int} (h : Own3 W lo hi AF cF AT cT AZ cZ F T Z) : Peb3 W lo hi AF AT AZ F T Z := by
  obtain ⟨f, t, z, h1, h2, h3, _, _, _, b1, b2, b3, h4⟩ := h
  exact ⟨h1.reads.widen b1.1 b1.2 h4, h2.reads.widen b2.1 b2.2 h4, h3.reads.widen b3.1 b3.2 h4⟩
theorem Own3.widen {W : World} {lo hi lo' hi' : Nat} {AF AT AZ : Option Addr} {cF cT cZ : Nat} {F T Z : List Int} (h : Own3 W lo hi AF cF AT cT AZ cZ F T Z) (h1 : lo' ≤ lo) (h2 : hi ≤ hi') (h3 : hi' ≤ W.heap.size) : Own3 W lo' hi' AF cF AT cT AZ cZ F T Z := by
  obtain ⟨f, t, z, g1, g2, g3, d1, d2, d3, b1, b2, b3, _⟩ := h
  exact ⟨f, t, z, g1, g2, g3, d1, d2, d3, by omega, by omega, by omega, h3⟩

section
variable {H : Type} {enc : TypeId × Value → H} {w : World} {base : Nat}
theorem open_row {n : Nat} {v : Value} {y : DataW H × List MemPlace} (h : DataW.trod enc Try.prog w 0 (fun _ => true) true n 29 [v] = some y) :
    ∃ (A : Option Addr) (cap : Nat) (zs : List Int), v = .slice A zs.length cap ∧ zs.length ≤ maxLen ∧ IntsIn w 0 w.heap.size A zs ∧ WfI zs := by
  have key : ∃ (a : Option Addr) (len cap : Nat) (zs : List Int), v = .slice a len cap ∧ IsRow .i64 w a len cap zs := by
    rcases Go.ChangeShapes.open_ints Try.underlying29 Try.underlying3 (by kernel_rfl) h with ⟨hcs, _⟩ | ⟨x, l, c, zs, hcs, _, hl, hm, hz, _, hcell, hwz⟩
    · exact ⟨none, 0, 0, [], by simpa using hcs, .inl ⟨rfl, rfl, rfl, rfl⟩⟩
    · exact ⟨some x, l, c, zs, by simpa using hcs, .inr ⟨_, rfl, hl, hm, by simpa using hz, hcell, hwz⟩⟩
  obtain ⟨a, len, cap, zs, rfl, hr⟩ := key
  obtain ⟨ys, h1, h2, h3, h4⟩ := hr.intsW
  subst h1
  exact ⟨a, cap, ys, rfl, h3, h2, h4⟩
end
end Go.Proofs.Ytdkpmaahinbhlaa
/- How the laws copy a state of the pebble game. No condition. -/
namespace Go.Proofs.Ytdkpmaahinbhlaa
open Go.RowKit

end Go.Proofs.Ytdkpmaahinbhlaa
/- The other end of a bar, the specification's and the program's; a copy of a row of ints: slices.Clone. No condition. -/
namespace Go.Proofs.Ytdkpmaahinbhlaa
open Go.RowKit

set_option maxRecDepth 100000 in
theorem other_c (x : Int × Int) (v : Int) (w : World) (h1 : 0 ≤ x.1 ∧ x.1 ≤ 8) (h2 : 0 ≤ x.2 ∧ x.2 ≤ 8) (h3 : 0 ≤ v ∧ v ≤ 8) :
    Calls Try.prog 226 #[.agg #[.int .i64 x.1, .int .i64 x.2], .int .i64 v] w fun e w' => e = .returned (.int .i64 (oth x v)) ∧ Below w.heap.size w w' := by
  obtain ⟨a, b⟩ := x
  have HO := Lib.hid (show oth (a, b) v = a + b - v from rfl)
  simp only at h1 h2
  go_enter Try.func226, Try.ntmps226
  go_wp2
  go_ret
  exact ⟨by rw [HO.out]; rfl, (Below.refl _ _).alloc (Nat.le_refl _) _⟩

set_option maxRecDepth 100000 in
theorem otherEnd_c (x : Int × Int) (v : Int) (w : World) (h : isEnd x v) :
    Calls Try.prog 225 #[.agg #[.int .i64 x.1, .int .i64 x.2], .int .i64 v] w fun e w' => e = .returned (.int .i64 (oth x v)) ∧ Below w.heap.size w w' := by
  obtain ⟨a, b⟩ := x
  have ho : oth (a, b) v = a + b - v := rfl
  unfold isEnd at h
  simp only at h
  by_cases c : v = a
  · have HO := Lib.hid (show oth (a, b) v = b by omega)
    have e1 : (v == a) = true := by simpa using c
    clear h ho c
    go_enter Try.func225, Try.ntmps225
    go_wp2
    go_ret
    exact ⟨by rw [HO.out]; rfl, (Below.refl _ _).alloc (Nat.le_refl _) _⟩
  · have HO := Lib.hid (show oth (a, b) v = a by omega)
    have e1 : (v == a) = false := by simpa using c
    clear h ho c
    go_enter Try.func225, Try.ntmps225
    go_wp2
    go_ret
    exact ⟨by rw [HO.out]; rfl, (Below.refl _ _).alloc (Nat.le_refl _) _⟩

theorem news_ints {W : World} {lo hi : Nat} {a : Addr} {zs : List Int} (h : IntsIn W lo hi (some a) zs) : ∀ j u, (intCells zs)[j]? = some u → W.cell? (a.add j) = some u := fun j u hj => by
  have hlt : j < zs.length := by
    have := (List.getElem?_eq_some_iff.1 hj).1
    rwa [intCells_len] at this
  obtain ⟨b, off, e, _, _, hc⟩ := h.2 (by omega)
  cases e
  have hadd : (⟨b, off, none⟩ : Addr).add j = ⟨b, off + j, none⟩ := by unfold Addr.add; split <;> simp_all
  rw [hadd, hc j hlt]
  rw [intCells_get zs j hlt] at hj
  exact hj
theorem intCells_one (zs : List Int) : ∀ u ∈ intCells zs, u.oneCell' = true := by
  intro u hu
  obtain ⟨x, _, rfl⟩ := List.mem_map.1 hu
  rfl

set_option maxHeartbeats 2000000 in
set_option maxRecDepth 100000 in
theorem slCloneI (zs : List Int) (A : Option Addr) (cap lo hi : Nat) (w : World) (hz : IntsIn w lo hi A zs) (hn : zs.length ≤ 1048576) :
    Calls Try.prog 146 #[.slice A zs.length cap] w (IntsO w zs) := by
  obtain ⟨i0, hi0, hz0, hz1, hz2⟩ := info_parts infoInt
  have q : ∀ (w : World) (a : Option Addr) (n c n' c' : Nat), (binOp .eql 29 (.slice a n c) (.slice none n' c')).run Try.prog w = .ok (.bool a.isNone) w := fun w a n c n' c' => Go.Lib.run_eql_slice_nil w _ _ a n c n' c' Try.underlying29
  have hm := World.ownsRow_made (base := w.heap.size) (e := 3) (size := 1) w #[] 0 (Nat.le_refl _) (by unfold maxLen; omega) (by simp)
  have HM := Lib.hid hm
  clear hm
  cases A with
  | none =>
    have h0 : zs = [] := by
      refine List.eq_nil_of_length_eq_zero (Nat.eq_zero_of_not_pos fun h => ?_)
      obtain ⟨b, off, e, _⟩ := hz.2 h
      cases e
    subst h0
    clear hz
    go_enter Try.func146, Try.ntmps146
    go_wp2_with fail
    go_ret
    exact ⟨none, 0, rfl, ⟨Nat.le_refl _, .inl rfl⟩, Below.refl _ _⟩
  | some a =>
    have HC := Lib.hid (news_ints (hz.within (within_alloc w (.cells #[] 3)) (.inr (Nat.zero_le _))))
    clear hz
    go_enter Try.func146, Try.ntmps146
    go_wp2_with (at_builtin; refine wpList_append_own _ rfl _ _ 29 rfl w.heap.size 3 i0 _ 1 8 Try.underlying29 hi0 hz0 hz1 hz2 rfl (by omega) _ 0 [] rfl HM.out a zs.length cap (intCells zs) rfl (by rw [intCells_len]; omega) HC.out (intCells_one zs) (by unfold maxLen; omega) (by omega) (by simp) ?_; intro v' w' ho hg hnil; rw [Nat.zero_add, List.nil_append] at ho; obtain ⟨A2, c2, rfl⟩ := own_shape ho; have HO := Lib.hid (own_ints' ho); have HG := Lib.hid (show Below w.heap.size w w' from (new_below w (.cells #[] 3)).grown hg (by simp) fun k hk => by cases hk; exact Nat.le_refl _); clear ho hg hnil)
    go_ret
    exact ⟨A2, c2, rfl, HO.out, HG.out⟩
end Go.Proofs.Ytdkpmaahinbhlaa
/- slices.Repeat of one number, up to eight times. No condition. -/
namespace Go.Proofs.Ytdkpmaahinbhlaa
open Go.RowKit

set_option maxHeartbeats 4000000 in
theorem mul64_one (P : Nat) (h : P ≤ 8) (w : World) : Calls Try.prog 233 #[.int .u64 1, .int .u64 (P : Int)] w fun e w' => e = .returned (.tuple #[.int .u64 0, .int .u64 (P : Int)]) ∧ w' = w := by
  have hP : P = 0 ∨ P = 1 ∨ P = 2 ∨ P = 3 ∨ P = 4 ∨ P = 5 ∨ P = 6 ∨ P = 7 ∨ P = 8 := by omega
  rcases hP with rfl | rfl | rfl | rfl | rfl | rfl | rfl | rfl | rfl
  all_goals
    go_enter Try.func233, Try.ntmps233
    go_wp2_with fail
    go_ret2
    exact ⟨by first | rfl | simp, rfl⟩
set_option maxHeartbeats 4000000 in
theorem mul_one_c (P : Nat) (h : P ≤ 8) (w : World) : Calls Try.prog 197 #[.int .u64 1, .int .u64 (P : Int)] w fun e w' => e = .returned (.tuple #[.int .u64 0, .int .u64 (P : Int)]) ∧ w' = w := by
  go_enter Try.func197, Try.ntmps197
  go_wp2_with fail
  refine (mul64_one P h _).mono ?_
  rintro e w1 ⟨rfl, rfl⟩
  go_wp2_with fail
  go_ret2
  exact ⟨rfl, rfl⟩
/-- A row that holds n times k, and zeros behind them. -/
def repL (P n : Nat) (k : Int) : List Int := List.replicate n k ++ List.replicate (P - n) 0
theorem repL_len (P n : Nat) (k : Int) (h : n ≤ P) : (repL P n k).length = P := by simp [repL]; omega
theorem repL_splice (P n m : Nat) (k : Int) : splice (intCells (repL P n k)) n (intCells (List.replicate m k)) = intCells (repL P (n + m) k) := by
  unfold splice intCells
  rw [← List.map_take, ← List.map_drop, ← List.map_append, ← List.map_append]
  congr 1
  simp only [repL, List.length_map, List.length_replicate]
  rw [List.take_left' (by simp), List.drop_append, List.length_replicate, List.drop_eq_nil_of_le (by simp), List.nil_append, show n + m - n = m by omega, List.drop_replicate, ← List.append_assoc, List.replicate_append_replicate, show P - n - m = P - (n + m) by omega]
theorem repL_get (P n : Nat) (k : Int) (j : Nat) (h : j < n) : (repL P n k).getD j 0 = k := by
  unfold repL
  simp only [List.getD]
  rw [List.getElem?_append_left (by simpa using h)]
  simp [h]
theorem own_heap {W : World} {base g n : Nat} {e : TypeId} {xs : List Value} (h : W.ownsRow base e 1 (.slice (some ⟨g, 0, none⟩) n n) n xs) : W.heap[g]? = some (.cells xs.toArray e (0, 0)) := by
  obtain ⟨h0, h1⟩ := h
  rcases h1 with ⟨h2, _⟩ | ⟨g', cap, cur, e1, _, hh, _, _, hsz, ht⟩
  · cases h2
  · cases e1
    rw [List.take_of_length_le (by rw [Array.length_toList, hsz]; exact Nat.le_refl _)] at ht
    rw [hh, ← ht]
theorem heap_own {W : World} {base g n : Nat} {e : TypeId} {xs : List Value} (h : W.heap[g]? = some (.cells xs.toArray e (0, 0))) (hl : xs.length = n) (hb : base ≤ g) (hn : n ≤ maxLen) : W.ownsRow base e 1 (.slice (some ⟨g, 0, none⟩) n n) n xs :=
  ⟨by rw [hl, Nat.mul_one], .inr ⟨g, n, xs.toArray, rfl, hb, h, Nat.le_refl _, hn, by rw [List.size_toArray, hl, Nat.mul_one], by rw [Nat.mul_one, ← hl]; simp⟩⟩
theorem heap_ints {W : World} {g : Nat} {e : TypeId} {zs : List Int} (h : W.heap[g]? = some (.cells (intCells zs).toArray e (0, 0))) (j : Nat) (hj : j < zs.length) : W.cell? ⟨g, j, none⟩ = some (.int .i64 (zs.getD j 0)) := by
  rw [cell_of_row W g j _ e (0, 0) h]
  simpa using intCells_get zs j hj

set_option maxHeartbeats 2000000 in
set_option maxRecDepth 100000 in
theorem slRepeat (P : Nat) (k : Int) (b0 : Nat) (w : World) (h1 : 1 ≤ P) (h8 : P ≤ 8) (hc : w.cell? ⟨b0, 0, none⟩ = some (.int .i64 k)) :
    Calls Try.prog 131 #[.slice (some ⟨b0, 0, none⟩) 1 1, .int .i64 (P : Int)] w fun e w' => ∃ g, e = .returned (.slice (some ⟨g, 0, none⟩) P P) ∧ w'.ownsRow w.heap.size 3 1 (.slice (some ⟨g, 0, none⟩) P P) P (intCells (List.replicate P k)) ∧ Below w.heap.size w w' := by
  have HC := Lib.hid hc
  have HM := mul_one_c P h8
  have hP0 : ¬ (P : Int) < 0 := by omega
  have hPw : IntKind.u64.wrap (P : Int) = (P : Int) := by rw [IntKind.wrap_u64]; omega
  have hPi : IntKind.i64.wrap (P : Int) = (P : Int) := IntWalk.i64_in _ (by omega)
  have hPm : ¬ (9223372036854775807 : Int) < (P : Int) := by omega
  clear hc
  go_enter Try.func131, Try.ntmps131
  go_wp2_with fail
  refine (HM _).mono ?_
  rintro e w1 ⟨rfl, rfl⟩
  clear HM
  go_wp2_with (first
    | (at_make; refine wpList_mkn _ rfl _ _ 29 rfl w1.heap.size 3 (.int .i64 0) 8 Try.underlying29 infoInt rfl _ _ _ _ P rfl rfl rfl rfl (by omega) (by unfold maxLen; omega) (Nat.le_refl _) ?_; intro w2 hown hb2; have HB := Lib.hid hb2; have HG := Lib.hid (show w2.heap[w1.heap.size]? = some (.cells (intCells (repL P 0 k)).toArray 3 (0, 0)) by rw [show intCells (repL P 0 k) = List.replicate P (.int .i64 0) by simp [repL, intCells]]; exact own_heap hown); have HSRC := Lib.hid (show ∀ j v, (intCells (List.replicate 1 k))[j]? = some v → w2.cell? ((⟨b0, 0, none⟩ : Addr).add j) = some v from fun j v hj => (by have hlt := (List.getElem?_eq_some_iff.1 hj).1; obtain rfl : j = 0 := (by simpa [intCells] using hlt); have hb0 := World.block_lt_of_cell? w1 _ HC.out; rw [show (⟨b0, 0, none⟩ : Addr).add 0 = ⟨b0, 0, none⟩ from rfl, hb2.cell (p := ⟨b0, 0, none⟩) hb0, HC.out]; simpa [intCells] using hj)); clear hown hb2)
    | (with_reducible refine wpList_copy_splice rfl _ _ 29 29 rfl 3 Try.underlying29 (by kernel_rfl) (some ⟨w1.heap.size, 0, none⟩) (some ⟨b0, 0, none⟩) P P 1 1 rfl rfl w1.heap.size 0 (intCells (repL P 0 k)) 3 HG.out (intCells (List.replicate 1 k)) (by simp [intCells, Nat.min_def]; omega) (fun _ => ⟨rfl, _, rfl, HSRC.out⟩) (by rw [intCells_len, intCells_len, repL_len P 0 k (by omega)]; simp; omega) (by simp [intCells, Value.oneCell']) w1.heap.size w1 HB.out (Nat.le_refl _) ?_; intro w3 hg3 hb3; have HG3 := Lib.hid (show w3.heap[w1.heap.size]? = some (.cells (intCells (repL P 1 k)).toArray 3 (0, 0)) by have := hg3.out; rw [repL_splice P 0 1 k] at this; exact this); have HB3 := Lib.hid hb3; clear hg3 hb3))
  clear HG HB HSRC HC
  go_loopw [8] (fun n wr => ∃ j : Nat, 1 ≤ j ∧ j ≤ P ∧ n = .int .i64 j ∧ wr.heap[w1.heap.size]? = some (.cells (intCells (repL P j k)).toArray 3 (0, 0)) ∧ Below w1.heap.size w1 wr) (fun n _ => P - (intOf n).toNat)
  case atStart => exact ⟨1, Nat.le_refl _, h1, rfl, HG3.out, HB3.out⟩
  case round =>
    obtain ⟨j, hj1, hj2, rfl, hg, hb⟩ := hrel
    have HG := Lib.hid hg
    have HB := Lib.hid hb
    clear hg hb
    by_cases hlt : j < P
    · have hji : (j : Int) < (P : Int) := by omega
      obtain ⟨m, hm⟩ : ∃ m, m = Nat.min j (P - j) := ⟨_, rfl⟩
      have hm2 : m ≤ j ∧ m ≤ P - j ∧ 1 ≤ m := by rw [hm]; simp only [Nat.min_def]; split <;> omega
      have hsrc : ∀ j' v, (intCells (List.replicate m k))[j']? = some v → wr.drew.cell? ((⟨w1.heap.size, 0, none⟩ : Addr).add j') = some v := fun j' v hj' => by
        have hlt' : j' < m := by
          have := (List.getElem?_eq_some_iff.1 hj').1
          simpa [intCells] using this
        have h0 := heap_ints HG.out j' (by rw [repL_len P j k hj2]; omega)
        rw [repL_get P j k j' (by omega)] at h0
        have hadd : (⟨w1.heap.size, 0, none⟩ : Addr).add j' = ⟨w1.heap.size, j', none⟩ := by unfold Addr.add; split <;> simp_all
        rw [hadd]
        have hv : v = .int .i64 k := by
          have := intCells_get (List.replicate m k) j' (by simpa using hlt')
          rw [hj'] at this
          simpa [List.getD, hlt'] using this
        rw [hv]
        exact h0
      have HSRC := Lib.hid hsrc
      have HFIT := Lib.hid (show j + (intCells (List.replicate m k)).length ≤ (intCells (repL P j k)).length by rw [intCells_len, intCells_len, repL_len P j k hj2]; simp; omega)
      have HN := Lib.hid (show (intCells (List.replicate m k)).length = Nat.min j (P - j) by rw [intCells_len, List.length_replicate]; exact hm)
      have HB2 := Lib.hid (HB.out.drew)
      have HG2 := Lib.hid (show wr.drew.heap[w1.heap.size]? = some (.cells (intCells (repL P j k)).toArray 3 (0, 0)) from HG.out)
      clear hsrc hm
      have hnej : ¬ P = j := by omega
      have hlm : ((intCells (List.replicate m k)).length : Int) = (m : Int) := by simp [intCells]
      have hsm : IntKind.i64.wrap ((j : Int) + (m : Int)) = (j : Int) + (m : Int) := IntWalk.i64_in _ (by omega)
      go_wp2_with fail
      go_region_law (refine step_copy_splice rfl _ _ 29 29 rfl 3 Try.underlying29 (by kernel_rfl) (some ⟨w1.heap.size, j, none⟩) (some ⟨w1.heap.size, 0, none⟩) (P - j) (P - j) j P (by simp [Act.eval, Act.put]) (by simp [Act.eval, Act.put]) w1.heap.size j (intCells (repL P j k)) 3 HG2.out (intCells (List.replicate m k)) HN.out (fun _ => ⟨rfl, _, rfl, HSRC.out⟩) HFIT.out (by simp [intCells, Value.oneCell']) w1.heap.size w1 HB2.out (Nat.le_refl _) ?_; intro w4 hg4 hb4; have HG4 := Lib.hid (show w4.heap[w1.heap.size]? = some (.cells (intCells (repL P (j + m) k)).toArray 3 (0, 0)) by have := hg4.out; rw [repL_splice P j m k] at this; exact this); have HB4 := Lib.hid hb4; clear hg4 hb4)
      all_goals
        go_simp
        go_roundw
        case rel => exact ⟨.int .i64 ((j : Int) + (m : Int)), _, _, _, _, _, _, _, _, _, _, _, _, _, ⟨j + m, by omega, by omega, by go_num, HG4.out, HB4.out⟩, rfl⟩
        case measure => simp [intOf]; omega
    · obtain rfl : j = P := by omega
      go_wp2_with fail
      go_ret
      have hr : repL j j k = List.replicate j k := by simp [repL]
      have h2 := HG.out
      rw [hr] at h2
      exact ⟨_, rfl, heap_own h2 (by simp [intCells]) (Nat.le_refl _) (by unfold maxLen; omega), HB.out⟩
end Go.Proofs.Ytdkpmaahinbhlaa
/- What the library's cmp.Compare and cmp.Or and the program's Bar.compare answer. No condition. -/
namespace Go.Proofs.Ytdkpmaahinbhlaa
open Go.RowKit

def cmpI (a b : Int) : Int := if a < b then -1 else if b < a then 1 else 0
def orI (a b : Int) : Int := if a = 0 then b else a
def cmpB (x y : Int × Int) : Int := orI (cmpI x.1 y.1) (cmpI x.2 y.2)
theorem cmpB_neg (x y : Int × Int) : cmpB x y < 0 ↔ aftB y x = false := by
  obtain ⟨a, b⟩ := x
  obtain ⟨c, d⟩ := y
  simp only [cmpB, orI, cmpI, aftB, decide_eq_false_iff_not]
  repeat' split
  all_goals omega
theorem cmpI_in (a b : Int) : -1 ≤ cmpI a b ∧ cmpI a b ≤ 1 := by
  unfold cmpI
  repeat' split
  all_goals omega
theorem cmpB_in (x y : Int × Int) : -1 ≤ cmpB x y ∧ cmpB x y ≤ 1 := by
  have h1 := cmpI_in x.1 y.1
  have h2 := cmpI_in x.2 y.2
  unfold cmpB orI
  split <;> omega

theorem isNaN_c (a : Int) (w : World) :
    Calls Try.prog 234 #[.int .i64 a] w fun e w' => e = .returned (.bool false) ∧ w' = w := by
  go_enter Try.func234, Try.ntmps234
  go_wp2
  go_ret
  exact ⟨by simp, rfl⟩

theorem compare_i (a b : Int) (w : World) :
    Calls Try.prog 231 #[.int .i64 a, .int .i64 b] w fun e w' => e = .returned (.int .i64 (cmpI a b)) ∧ w' = w := by
  by_cases h1 : a < b
  · have h2 : ¬ b < a := by omega
    have HC := Lib.hid (show cmpI a b = -1 by simp [cmpI, h1])
    go_enter Try.func231, Try.ntmps231
    go_wp2_with fail
    refine (isNaN_c a _).mono ?_
    rintro e w1 ⟨rfl, rfl⟩
    go_wp2_with fail
    refine (isNaN_c b _).mono ?_
    rintro e w1 ⟨rfl, rfl⟩
    go_wp2_with fail
    go_ret
    exact ⟨by rw [HC.out]; rfl, rfl⟩
  · by_cases h2 : b < a
    · have HC := Lib.hid (show cmpI a b = 1 by simp [cmpI, h1, h2])
      go_enter Try.func231, Try.ntmps231
      go_wp2_with fail
      refine (isNaN_c a _).mono ?_
      rintro e w1 ⟨rfl, rfl⟩
      go_wp2_with fail
      refine (isNaN_c b _).mono ?_
      rintro e w1 ⟨rfl, rfl⟩
      go_wp2_with fail
      go_ret
      exact ⟨by rw [HC.out]; rfl, rfl⟩
    · have HC := Lib.hid (show cmpI a b = 0 by simp [cmpI, h1, h2])
      go_enter Try.func231, Try.ntmps231
      go_wp2_with fail
      refine (isNaN_c a _).mono ?_
      rintro e w1 ⟨rfl, rfl⟩
      go_wp2_with fail
      refine (isNaN_c b _).mono ?_
      rintro e w1 ⟨rfl, rfl⟩
      go_wp2_with fail
      go_ret
      exact ⟨by rw [HC.out]; rfl, rfl⟩

theorem or_c (x y : Int) (g : Nat) (w : World) (h0 : w.cell? ⟨g, 0, none⟩ = some (.int .i64 x)) (h1 : w.cell? ⟨g, 1, none⟩ = some (.int .i64 y)) :
    Calls Try.prog 230 #[.slice (some ⟨g, 0, none⟩) 2 2] w fun e w' => e = .returned (.int .i64 (orI x y)) ∧ w' = w := by
  by_cases hx : x = 0
  · by_cases hy : y = 0
    · have HC := Lib.hid (show orI x y = 0 by simp [orI, hx, hy])
      subst hx hy
      go_enter Try.func230, Try.ntmps230
      go_wp2_with fail
      refine wp_loop_rounds 3 ?_
      rw [rounds_succ]
      go_wp2_with fail
      rw [rounds_succ]
      go_wp2_with fail
      rw [rounds_succ]
      go_wp2_with fail
      go_ret
      exact ⟨by rw [HC.out]; rfl, rfl⟩
    · have HC := Lib.hid (show orI x y = y by simp [orI, hx])
      have hy' : (y != 0) = true := by simpa using hy
      subst hx
      go_enter Try.func230, Try.ntmps230
      go_wp2_with fail
      refine wp_loop_rounds 3 ?_
      rw [rounds_succ]
      go_wp2_with fail
      rw [rounds_succ]
      go_wp2_with fail
      go_ret
      exact ⟨by rw [HC.out]; rfl, rfl⟩
  · have HC := Lib.hid (show orI x y = x by simp [orI, hx])
    have hx' : (x != 0) = true := by simpa using hx
    go_enter Try.func230, Try.ntmps230
    go_wp2_with fail
    refine wp_loop_rounds 3 ?_
    rw [rounds_succ]
    go_wp2_with fail
    go_ret
    exact ⟨by rw [HC.out]; rfl, rfl⟩

set_option maxHeartbeats 1000000 in
set_option maxRecDepth 100000 in
theorem compare_b (x y : Int × Int) (w : World) :
    Calls Try.prog 196 #[.agg #[.int .i64 x.1, .int .i64 x.2], .agg #[.int .i64 y.1, .int .i64 y.2]] w fun e w' => e = .returned (.int .i64 (cmpB x y)) ∧ Below w.heap.size w w' := by
  obtain ⟨a, b⟩ := x
  obtain ⟨c, d⟩ := y
  have HC := Lib.hid (show cmpB (a, b) (c, d) = orI (cmpI a c) (cmpI b d) from rfl)
  have hA1 := new_below w (.cells #[.int .i64 a, .int .i64 b] 108)
  have hA2 := new_below (w.alloc (.cells #[.int .i64 a, .int .i64 b] 108)) (.cells #[.int .i64 c, .int .i64 d] 108)
  have HA := Lib.hid (below_on hA1 hA2 hA1.size)
  have HX := Lib.hid ((box_new w a (.int .i64 b) 108).kept hA2)
  have hY := box_new (w.alloc (.cells #[.int .i64 a, .int .i64 b] 108)) c (.int .i64 d) 108
  rw [show (w.alloc (.cells #[.int .i64 a, .int .i64 b] 108)).heap.size = w.heap.size + 1 by simp] at hY
  have HY := Lib.hid hY
  clear hA1 hA2 hY
  go_enter Try.func196, Try.ntmps196
  go_wp2_with fail
  generalize ((w.alloc (.cells #[.int .i64 a, .int .i64 b] 108)).alloc (.cells #[.int .i64 c, .int .i64 d] 108)) = w2 at *
  obtain ⟨_, g1, g2⟩ := HX.out
  obtain ⟨_, g3, g4⟩ := HY.out
  go_still_tail 10, (by kernel_rfl)
  still_call (compare_i _ _ _)
  repeat still_step
  still_call (compare_i _ _ _)
  refine wpStill_nil ?_
  change wpList _ _ _ _ _ w2.drew
  have HD := Lib.hid (HA.out.drew)
  have hds : w.heap.size ≤ w2.drew.heap.size := HA.out.size
  clear g1 g2 g3 g4
  generalize w2.drew = w3 at *
  go_wp2_with fail
  refine (or_c (cmpI a c) (cmpI b d) w3.heap.size _ (by rw [World.cell?_alloc_at _ _ _ _ rfl]; rfl) (by rw [World.cell?_alloc_at _ _ _ _ rfl]; rfl)).mono ?_
  rintro e w4 ⟨rfl, rfl⟩
  go_wp2_with fail
  go_ret
  exact ⟨by rw [HC.out]; rfl, HD.out.alloc hds _⟩
end Go.Proofs.Ytdkpmaahinbhlaa
/- What the library's slices.IsSortedFunc answers of bars. No condition. -/
namespace Go.Proofs.Ytdkpmaahinbhlaa
open Go.RowKit

/-- Each bar but the first stands behind or beside the one before it. -/
def Srt (l : List (Int × Int)) : Prop := ∀ j : Nat, 0 < j → j < l.length → aftB (l.getD (j - 1) (0, 0)) (l.getD j (0, 0)) = true
open Classical in
noncomputable def sortedB (l : List (Int × Int)) : Bool := if Srt l then true else false
theorem sortedB_yes {l : List (Int × Int)} (h : Srt l) : sortedB l = true := by unfold sortedB; rw [if_pos h]
theorem sortedB_no {l : List (Int × Int)} (h : ¬ Srt l) : sortedB l = false := by unfold sortedB; rw [if_neg h]

set_option maxHeartbeats 1000000 in
set_option maxRecDepth 100000 in
theorem sorted_c (l : List (Int × Int)) (A : Option Addr) (cap : Nat) (w : World) (hl : BarsAt w w.heap.size A l) (hn : l.length ≤ 24) :
    Calls Try.prog 195 #[.slice A l.length cap, .func (.func 196) #[] #[]] w fun e w' => e = .returned (.bool (sortedB l)) ∧ Below w.heap.size w w' := by
  have HL := Lib.hid hl
  clear hl
  go_enter Try.func195, Try.ntmps195
  go_wp2_with fail
  go_loopw [5] (fun i wr => ∃ v : Int, i = .int .i64 v ∧ -1 ≤ v ∧ v < (l.length : Int) ∧ (∀ j : Nat, v < (j : Int) → 0 < j → j < l.length → aftB (l.getD (j - 1) (0, 0)) (l.getD j (0, 0)) = true) ∧ Below w.heap.size w wr) (fun i _ => (intOf i).toNat)
  case atStart => exact ⟨(l.length : Int) - 1, by go_num, by omega, by omega, fun j h1 _ h2 => by omega, Below.refl _ _⟩
  case round =>
    obtain ⟨v, rfl, hv1, hv2, hall, hb⟩ := hrel
    have HB := Lib.hid hb
    have HALL := Lib.hid hall
    have hbs := hb.size
    clear hb hall
    by_cases hv : 0 < v
    · obtain ⟨k, rfl⟩ : ∃ k : Nat, v = (k : Int) + 1 := ⟨(v - 1).toNat, by omega⟩
      obtain ⟨b, off, rfl, hbB, hcell⟩ := HL.out (by omega)
      have hc1 := (HB.out.cell (p := ⟨b, off + (k + 1) * 2, none⟩) hbB).trans (hcell (k + 1) (by omega)).1
      have hc2 := (HB.out.cell (p := ⟨b, off + (k + 1) * 2 + 1, none⟩) hbB).trans (hcell (k + 1) (by omega)).2
      have hc3 := (HB.out.cell (p := ⟨b, off + k * 2, none⟩) hbB).trans (hcell k (by omega)).1
      have hc4 := (HB.out.cell (p := ⟨b, off + k * 2 + 1, none⟩) hbB).trans (hcell k (by omega)).2
      have HS := Lib.hid (fun (h : aftB (l.getD k (0, 0)) (l.getD (k + 1) (0, 0)) = true) (j : Nat) (h1 : (k : Int) < (j : Int)) (h2 : 0 < j) (h3 : j < l.length) => (if e : j = k + 1 then by subst e; exact h else HALL.out j (by omega) h2 h3 : aftB (l.getD (j - 1) (0, 0)) (l.getD j (0, 0)) = true))
      have HN := Lib.hid (fun h : Srt l => h (k + 1) (by omega) (by omega))
      clear hcell
      obtain ⟨x, hx⟩ : ∃ x, l.getD (k + 1) (0, 0) = x := ⟨_, rfl⟩
      obtain ⟨y, hy⟩ : ∃ y, l.getD k (0, 0) = y := ⟨_, rfl⟩
      rw [hx] at hc1 hc2
      rw [hy] at hc3 hc4
      have HSY := Lib.hid (show aftB y x = true → _ from fun h => HS.out (by rw [hx, hy]; exact h))
      have HNY := Lib.hid (show aftB y x = false → ¬ Srt l from fun h k' => by
        have := HN.out k'
        rw [Nat.add_sub_cancel, hx, hy, h] at this
        cases this)
      have HCB := Lib.hid (cmpB_neg x y)
      clear HS HN hx hy
      have hk1 : (0 : Int) ≤ (k : Int) + 1 := by omega
      have htn : ((k : Int) + 1).toNat = k + 1 := by omega
      have hk2 : (k : Int) < (l.length : Int) := by omega
      have hwr : IntKind.i64.wrap (k : Int) = (k : Int) := IntWalk.i64_in _ (by omega)
      obtain ⟨x1, x2⟩ := x
      obtain ⟨y1, y2⟩ := y
      simp only at hc1 hc2 hc3 hc4
      go_wp2_with fail
      go_still_tail 10, (by kernel_rfl)
      change wpList _ _ _ _ _ wr.drew
      have HD := Lib.hid (HB.out.drew)
      have hds : w.heap.size ≤ wr.drew.heap.size := hbs
      clear hc1 hc2 hc3 hc4
      generalize wr.drew = w2 at *
      go_wp2_with fail
      refine (compare_b (x1, x2) (y1, y2) _).mono ?_
      rintro e w3 ⟨rfl, hb3⟩
      have HB3 := Lib.hid (HD.out.trans (hb3.mono hds))
      clear hb3
      by_cases ha : aftB (y1, y2) (x1, x2) = true
      · have hlt : ¬ cmpB (x1, x2) (y1, y2) < 0 := fun h => by have := HCB.out.1 h; rw [this] at ha; cases ha
        have HH := Lib.hid (HSY.out ha)
        clear ha
        go_wp2_with fail
        go_roundw
        case rel => exact ⟨(k : Int), by go_num, by omega, by omega, HH.out, HB3.out⟩
        case measure => simp [intOf] <;> omega
      · have ha' : aftB (y1, y2) (x1, x2) = false := by simpa using ha
        have hlt : cmpB (x1, x2) (y1, y2) < 0 := HCB.out.2 ha'
        have HH := Lib.hid (sortedB_no (HNY.out ha'))
        clear ha ha'
        go_wp2_with fail
        go_ret
        exact ⟨by rw [HH.out]; rfl, HB3.out⟩
    · have HH := Lib.hid (sortedB_yes (l := l) fun j h1 h2 => HALL.out j (by omega) h1 h2)
      go_wp2_with fail
      go_ret
      exact ⟨by rw [HH.out]; rfl, HB.out⟩
end Go.Proofs.Ytdkpmaahinbhlaa
/- What the program's IsGraph answers: the same as the specification's. No condition. -/
namespace Go.Proofs.Ytdkpmaahinbhlaa
open Go.RowKit

theorem specIsGraph' (p : Int) (l : List (Int × Int)) (A : Option Addr) (cap : Nat) (w : World) (hl : BarsAt w w.heap.size A l) (hn : l.length ≤ 1048576) :
    Calls Try.prog 118 #[.agg #[.int .i64 p, .slice A l.length cap]] w fun e w' => e = .returned (.bool (isGB p l)) ∧ Below w.heap.size w w' := specIsGraph p l A cap w hl (by omega)

/-- A bar's ends are in order and below p. -/
def EndsOk (p : Int) (l : List (Int × Int)) (k : Nat) : Prop := 0 ≤ (l.getD k (0, 0)).1 ∧ (l.getD k (0, 0)).1 < (l.getD k (0, 0)).2 ∧ (l.getD k (0, 0)).2 < p
theorem isG_of {p : Int} {l : List (Int × Int)} (hp : 1 ≤ p ∧ p ≤ 8) (h24 : l.length ≤ 24) (he : ∀ k, k < l.length → EndsOk p l k) (hs : Srt l) : IsG p l :=
  ⟨hp, h24, fun i hi => ⟨(he i hi).1, (he i hi).2.1, (he i hi).2.2, fun h0 => hs i h0 hi⟩⟩
theorem srt_of {p : Int} {l : List (Int × Int)} (h : IsG p l) : Srt l := fun j h0 hj => (h.2.2 j hj).2.2.2 h0

set_option maxHeartbeats 2000000 in
set_option maxRecDepth 100000 in
theorem implIsGraph (p : Int) (l : List (Int × Int)) (A : Option Addr) (cap : Nat) (w : World) (hl : BarsAt w w.heap.size A l) (hn : l.length ≤ 1048576) :
    Calls Try.prog 130 #[.agg #[.int .i64 p, .slice A l.length cap]] w fun e w' => e = .returned (.bool (isGB p l)) ∧ Below w.heap.size w w' := by
  have hA := new_below w (.cells #[.int .i64 p, .slice A l.length cap] 26)
  have HA := Lib.hid hA
  have HL := Lib.hid (hl.on hA)
  have BX := Lib.hid (box_new w p (.slice A l.length cap) 26)
  clear hl hA
  by_cases hp : 1 ≤ p ∧ p ≤ 8
  · by_cases h24 : l.length ≤ 24
    · obtain ⟨hp1, hp2⟩ := hp
      have d1 : ¬ p < 1 := by omega
      have d2 : ¬ 8 < p := by omega
      have d3 : ¬ (24 : Int) < (l.length : Int) := by omega
      go_enter Try.func130, Try.ntmps130
      go_wp2_with fail
      generalize (w.alloc (.cells #[.int .i64 p, .slice A l.length cap] 26)) = w0 at *
      go_loopw [22] (fun i wr => ∃ k : Nat, k ≤ l.length ∧ i = .int .i64 k ∧ (∀ j, j < k → EndsOk p l j) ∧ Below w0.heap.size w0 wr) (fun i _ => l.length - (intOf i).toNat)
      case atStart => exact ⟨0, by omega, rfl, fun j hj => absurd hj (by omega), Below.refl _ _⟩
      case round =>
        obtain ⟨k, hk, rfl, hok, hb⟩ := hrel
        have BX1 := Lib.hid (BX.out.kept hb)
        have HB := Lib.hid hb
        have HOK := Lib.hid hok
        have hbs := hb.size
        clear hb hok
        by_cases hlt : k < l.length
        · have hi : (k : Int) < (l.length : Int) := by omega
          obtain ⟨b, off, rfl, hbB, hcell⟩ := HL.out (by omega)
          have hc1 := (HB.out.cell (p := ⟨b, off + k * 2, none⟩) hbB).trans (hcell k hlt).1
          have hc2 := (HB.out.cell (p := ⟨b, off + k * 2 + 1, none⟩) hbB).trans (hcell k hlt).2
          have HSTEP := Lib.hid (show EndsOk p l k → ∀ j, j < k + 1 → EndsOk p l j from fun h j hj => by
            by_cases e : j = k
            · subst e; exact h
            · exact HOK.out j (by omega))
          have HNOT := Lib.hid (show ¬ EndsOk p l k → isGB p l = false from fun h => isGB_no fun g => h ⟨(g.2.2 k hlt).1, (g.2.2 k hlt).2.1, (g.2.2 k hlt).2.2.1⟩)
          have HDEF := Lib.hid (show EndsOk p l k = (0 ≤ (l.getD k (0, 0)).1 ∧ (l.getD k (0, 0)).1 < (l.getD k (0, 0)).2 ∧ (l.getD k (0, 0)).2 < p) from rfl)
          obtain ⟨x, hx⟩ : ∃ x, l.getD k (0, 0) = x := ⟨_, rfl⟩
          rw [hx] at hc1 hc2 HDEF
          clear hx hcell
          obtain ⟨x1, x2⟩ := x
          simp only at hc1 hc2 HDEF
          have hal := new_below wr (.cells #[.int .i64 x1, .int .i64 x2] 108)
          have BX2 := Lib.hid (BX1.out.kept hal)
          have HX2 := Lib.hid (box_new wr x1 (.int .i64 x2) 108)
          have HB2 := Lib.hid (below_on HB.out hal hbs)
          clear hal
          obtain ⟨_, g2, g3⟩ := BX2.out
          by_cases c1 : x1 < 0
          · have Q := Lib.hid (HNOT.out (by rw [HDEF.out]; omega))
            go_wp2_with fail
            go_ret
            exact ⟨by rw [Q.out]; rfl, below_on HA.out HB2.out HA.out.size⟩
          · by_cases c2 : x2 ≤ x1
            · have Q := Lib.hid (HNOT.out (by rw [HDEF.out]; omega))
              go_wp2_with fail
              go_ret
              exact ⟨by rw [Q.out]; rfl, below_on HA.out HB2.out HA.out.size⟩
            · by_cases c3 : p ≤ x2
              · have Q := Lib.hid (HNOT.out (by rw [HDEF.out]; omega))
                go_wp2_with fail
                go_ret
                exact ⟨by rw [Q.out]; rfl, below_on HA.out HB2.out HA.out.size⟩
              · have HS := Lib.hid (HSTEP.out (by rw [HDEF.out]; omega))
                go_wp2_with fail
                go_roundw
                case rel => exact ⟨k + 1, by omega, by go_num, HS.out, HB2.out⟩
                case measure => simp [intOf]; omega
        · obtain rfl : k = l.length := by omega
          have HQ := Lib.hid (show isGB p l = sortedB l by
            by_cases h : Srt l
            · rw [sortedB_yes h, isGB_yes (isG_of ⟨hp1, hp2⟩ h24 HOK.out h)]
            · rw [sortedB_no h, isGB_no fun g => h (srt_of g)])
          obtain ⟨_, g2, g3⟩ := BX1.out
          go_wp2_with fail
          clear g2 g3
          refine (sorted_c l A cap _ (HL.out.on HB.out) h24).mono ?_
          rintro e w3 ⟨rfl, hb3⟩
          have HB3 := Lib.hid (below_on (below_on HA.out HB.out HA.out.size) hb3 (Nat.le_trans HA.out.size hbs))
          clear hb3
          go_wp2_with fail
          go_ret
          exact ⟨by rw [HQ.out]; rfl, HB3.out⟩
    · obtain ⟨hp1, hp2⟩ := hp
      have d1 : ¬ p < 1 := by omega
      have d2 : ¬ 8 < p := by omega
      have d3 : (24 : Int) < (l.length : Int) := by omega
      have Q := Lib.hid (isGB_no (p := p) (l := l) fun g => h24 g.2.1)
      go_enter Try.func130, Try.ntmps130
      go_wp2_with fail
      go_ret
      exact ⟨by rw [Q.out]; rfl, HA.out⟩
  · have Q := Lib.hid (isGB_no (p := p) (l := l) fun g => hp g.1)
    by_cases d1 : p < 1
    · clear hp
      go_enter Try.func130, Try.ntmps130
      go_wp2_with fail
      go_ret
      exact ⟨by rw [Q.out]; rfl, HA.out⟩
    · have d2 : 8 < p := by omega
      clear hp
      go_enter Try.func130, Try.ntmps130
      go_wp2_with fail
      go_ret
      exact ⟨by rw [Q.out]; rfl, HA.out⟩
end Go.Proofs.Ytdkpmaahinbhlaa
/- How the laws compare, mark and measure a state of the pebble game. No condition. -/
namespace Go.Proofs.Ytdkpmaahinbhlaa
open Go.RowKit

end Go.Proofs.Ytdkpmaahinbhlaa
/- What impl.NewPebbles answers. No condition. -/
namespace Go.Proofs.Ytdkpmaahinbhlaa
open Go.RowKit

/-- What NewPebbles answers. -/
noncomputable def newB (p k : Int) (l : List (Int × Int)) : Bool := isGB p l && (decide (1 ≤ k) && decide (k ≤ 3))
noncomputable def newF (p k : Int) (l : List (Int × Int)) : List Int := if newB p k l = true then List.replicate p.toNat k else []
theorem new_no {p k : Int} {l : List (Int × Int)} (h : isGB p l = false ∨ k < 1 ∨ 3 < k) : newB p k l = false ∧ newF p k l = [] := by
  have hb : newB p k l = false := by
    unfold newB
    rcases h with h | h | h
    · rw [h]; rfl
    · rw [decide_eq_false (by omega : ¬ 1 ≤ k)]; simp
    · rw [decide_eq_false (by omega : ¬ k ≤ 3)]; simp
  exact ⟨hb, by unfold newF; rw [hb]; rfl⟩
theorem new_yes {P : Nat} {k : Int} {l : List (Int × Int)} (h : isGB (P : Int) l = true) (h1 : 1 ≤ k) (h2 : k ≤ 3) : newB (P : Int) k l = true ∧ newF (P : Int) k l = List.replicate P k := by
  have hb : newB (P : Int) k l = true := by
    unfold newB
    rw [h, decide_eq_true h1, decide_eq_true h2]
    rfl
  exact ⟨hb, by unfold newF; rw [hb, if_pos rfl, Int.toNat_natCast]⟩
theorem newF_len (p k : Int) (l : List (Int × Int)) : (newF p k l).length ≤ 1048576 := by
  by_cases h : newB p k l = true
  · have hg : isGB p l = true := by
      cases e : isGB p l with
      | true => rfl
      | false => rw [(new_no (k := k) (.inl e)).1] at h; cases h
    have hG : IsG p l := Classical.byContradiction fun g => by rw [isGB_no g] at hg; cases hg
    unfold newF
    rw [if_pos h, List.length_replicate]
    have := hG.1
    omega
  · unfold newF
    rw [if_neg h]
    simp
/-- A state of the call's own, and a bool. -/
def PebOB (w : World) (F T Z : List Int) (r : Bool) (e : Ending) (w' : World) : Prop :=
  ∃ AF cF AT cT AZ cZ, e = .returned (.tuple #[pebV AF F.length cF AT T.length cT AZ Z.length cZ, .bool r]) ∧ Own3 w' w.heap.size w'.heap.size AF cF AT cT AZ cZ F T Z ∧ Below w.heap.size w w'
theorem own3_nil (w : World) (lo : Nat) (h : lo ≤ w.heap.size) (AF AT AZ : Option Addr) (cF cT cZ : Nat) : Own3 w lo w.heap.size AF cF AT cT AZ cZ [] [] [] :=
  ⟨(w.heap.size, w.heap.size), (w.heap.size, w.heap.size), (w.heap.size, w.heap.size), ⟨Nat.le_refl _, .inl rfl⟩, ⟨Nat.le_refl _, .inl rfl⟩, ⟨Nat.le_refl _, .inl rfl⟩, .inl (Nat.le_refl _), .inl (Nat.le_refl _), .inl (Nat.le_refl _), ⟨h, Nat.le_refl _⟩, ⟨h, Nat.le_refl _⟩, ⟨h, Nat.le_refl _⟩, Nat.le_refl _⟩
theorem own3_f {W : World} {lo a b : Nat} {AF AT AZ : Option Addr} {cF cT cZ : Nat} {F : List Int} (h : OwnInts W a b AF cF F) (h1 : lo ≤ a) (h2 : b ≤ W.heap.size) (h3 : lo ≤ W.heap.size) : Own3 W lo W.heap.size AF cF AT cT AZ cZ F [] [] :=
  ⟨(a, b), (W.heap.size, W.heap.size), (W.heap.size, W.heap.size), h, ⟨Nat.le_refl _, .inl rfl⟩, ⟨Nat.le_refl _, .inl rfl⟩, .inl h2, .inl h2, .inl (Nat.le_refl _), ⟨h1, h2⟩, ⟨h3, Nat.le_refl _⟩, ⟨h3, Nat.le_refl _⟩, Nat.le_refl _⟩

set_option maxHeartbeats 2000000 in
set_option maxRecDepth 100000 in
theorem implNewP (p k : Int) (l : List (Int × Int)) (A : Option Addr) (cap : Nat) (w : World) (hl : BarsAt w w.heap.size A l) (hn : l.length ≤ 1048576) :
    Calls Try.prog 36 #[.agg #[.int .i64 p, .slice A l.length cap], .int .i64 k] w (PebOB w (newF p k l) [] [] (newB p k l)) := by
  have HISG : ∀ W : World, BarsAt W W.heap.size A l → Calls Try.prog 130 #[.agg #[.int .i64 p, .slice A l.length cap]] W fun e w' => e = .returned (.bool (isGB p l)) ∧ Below W.heap.size W w' := fun W h => implIsGraph p l A cap W h hn
  by_cases hbad : isGB p l = false ∨ k < 1 ∨ 3 < k
  · have HR := Lib.hid (new_no hbad)
    rcases hg : isGB p l with _ | _
    · skip
      rw [hg] at HISG
      clear hbad
      have W0 := Lib.hid (Below.refl w.heap.size w)
      have HB_0 := Lib.hid (bars_in hl)
      clear hl
      have Z1 := Lib.hid (within_alloc w (.cells #[.int .i64 p, (.slice A l.length cap)] 26)).size
      have W1 := Lib.hid (within_on W0.out (within_alloc w (.cells #[.int .i64 p, (.slice A l.length cap)] 26)) W0.out.size (.inr (Nat.le_refl _)))
      have HB_1 := Lib.hid (HB_0.out.within (within_alloc w (.cells #[.int .i64 p, (.slice A l.length cap)] 26)) (by omega))
      have Y1 := Lib.hid (show (w.alloc (.cells #[.int .i64 p, (.slice A l.length cap)] 26)).heap.size = w.heap.size + 1 by simp)
      have hnew := box_new w p (.slice A l.length cap) 26
      have BX_1 := Lib.hid hnew
      clear hnew
      have Z2 := Lib.hid (within_alloc (w.alloc (.cells #[.int .i64 p, (.slice A l.length cap)] 26)) (.cells #[(.slice none 0 0), (.slice none 0 0), (.slice none 0 0)] 31)).size
      have W2 := Lib.hid (within_on W1.out (within_alloc (w.alloc (.cells #[.int .i64 p, (.slice A l.length cap)] 26)) (.cells #[(.slice none 0 0), (.slice none 0 0), (.slice none 0 0)] 31)) W1.out.size (.inr (Nat.le_refl _)))
      have HB_2 := Lib.hid (HB_1.out.within (within_alloc (w.alloc (.cells #[.int .i64 p, (.slice A l.length cap)] 26)) (.cells #[(.slice none 0 0), (.slice none 0 0), (.slice none 0 0)] 31)) (by omega))
      have BX_2 := Lib.hid (BX_1.out.within (within_alloc (w.alloc (.cells #[.int .i64 p, (.slice A l.length cap)] 26)) (.cells #[(.slice none 0 0), (.slice none 0 0), (.slice none 0 0)] 31)) (by omega))
      have Y2 := Lib.hid (show ((w.alloc (.cells #[.int .i64 p, (.slice A l.length cap)] 26)).alloc (.cells #[(.slice none 0 0), (.slice none 0 0), (.slice none 0 0)] 31)).heap.size = (w.alloc (.cells #[.int .i64 p, (.slice A l.length cap)] 26)).heap.size + 1 by simp)
      have hnew := cel3_new (w.alloc (.cells #[.int .i64 p, (.slice A l.length cap)] 26)) (.slice none 0 0) (.slice none 0 0) (.slice none 0 0) 31
      rw [show (w.alloc (.cells #[.int .i64 p, (.slice A l.length cap)] 26)).heap.size = w.heap.size + 1 by simp] at hnew
      have GR_2 := Lib.hid hnew
      clear hnew
      go_enter Try.func36, Try.ntmps36
      obtain ⟨g0_0, g0_1, g0_2⟩ := BX_2.out
      go_wp2_with fail
      clear g0_0 g0_1 g0_2
      generalize ((w.alloc (.cells #[.int .i64 p, (.slice A l.length cap)] 26)).alloc (.cells #[(.slice none 0 0), (.slice none 0 0), (.slice none 0 0)] 31)) = w2 at *
      generalize (w.alloc (.cells #[.int .i64 p, (.slice A l.length cap)] 26)) = w1 at *
      refine (HISG _ HB_2.out.at).mono ?_
      rintro e w3 ⟨rfl, hb⟩
      have Z3 := Lib.hid (within_of hb).size
      have W3 := Lib.hid (within_on W2.out (within_of hb) W2.out.size (.inr (Nat.le_refl _)))
      have HB_3 := Lib.hid (HB_2.out.within (within_of hb) (by omega))
      have BX_3 := Lib.hid (BX_2.out.within (within_of hb) (by omega))
      have GR_3 := Lib.hid (GR_2.out.within (within_of hb) (by omega))
      clear hb HISG
      obtain ⟨g1_0, g1_1, g1_2, g1_3, g1_4, g1_5⟩ := GR_3.out.cells
      have Z4 := Lib.hid ((ret3 GR_3.out (.slice none 0 0) (.slice none 0 0) (.slice none 0 0)).2).size
      have W4 := Lib.hid (within_on W3.out ((ret3 GR_3.out (.slice none 0 0) (.slice none 0 0) (.slice none 0 0)).2) W3.out.size (by have := Z1.out; have := Z2.out; have := Z3.out; have := Z4.out; have := Y1.out; have := Y2.out; omega))
      have HB_4 := Lib.hid (HB_3.out.within ((ret3 GR_3.out (.slice none 0 0) (.slice none 0 0) (.slice none 0 0)).2) (by have := Z1.out; have := Z2.out; have := Z3.out; have := Z4.out; have := Y1.out; have := Y2.out; omega))
      have BX_4 := Lib.hid (BX_3.out.within ((ret3 GR_3.out (.slice none 0 0) (.slice none 0 0) (.slice none 0 0)).2) (by have := Z1.out; have := Z2.out; have := Z3.out; have := Z4.out; have := Y1.out; have := Y2.out; omega))
      have GR_4 := Lib.hid ((ret3 GR_3.out (.slice none 0 0) (.slice none 0 0) (.slice none 0 0)).1)
      obtain ⟨g2_0, g2_1, g2_2, g2_3, g2_4, g2_5⟩ := GR_4.out.cells
      go_wp2_with fail
      generalize (((w3.setCell ⟨w.heap.size + 1, 0, none⟩ (.slice none 0 0)).setCell ⟨w.heap.size + 1, 1, none⟩ (.slice none 0 0)).setCell ⟨w.heap.size + 1, 2, none⟩ (.slice none 0 0)) = w4 at *
      refine bodyPost_ret (v := .tuple #[pebV none 0 0 none 0 0 none 0 0, .bool false]) ?_ rfl ?_
      · simp [results, Try.results36, go_sem, g2_0, g2_1, g2_2]
      · rw [HR.out.1, HR.out.2]
        exact ⟨none, 0, none, 0, none, 0, rfl, own3_nil _ _ W4.out.size _ _ _ _ _ _, W4.out⟩
    · skip
      rw [hg] at HISG
      have hk : (k < 1) ∨ (¬ k < 1 ∧ 3 < k) := by simp only [hg] at hbad; simp at hbad; omega
      clear hbad
      have W0 := Lib.hid (Below.refl w.heap.size w)
      have HB_0 := Lib.hid (bars_in hl)
      clear hl
      have Z1 := Lib.hid (within_alloc w (.cells #[.int .i64 p, (.slice A l.length cap)] 26)).size
      have W1 := Lib.hid (within_on W0.out (within_alloc w (.cells #[.int .i64 p, (.slice A l.length cap)] 26)) W0.out.size (.inr (Nat.le_refl _)))
      have HB_1 := Lib.hid (HB_0.out.within (within_alloc w (.cells #[.int .i64 p, (.slice A l.length cap)] 26)) (by omega))
      have Y1 := Lib.hid (show (w.alloc (.cells #[.int .i64 p, (.slice A l.length cap)] 26)).heap.size = w.heap.size + 1 by simp)
      have hnew := box_new w p (.slice A l.length cap) 26
      have BX_1 := Lib.hid hnew
      clear hnew
      have Z2 := Lib.hid (within_alloc (w.alloc (.cells #[.int .i64 p, (.slice A l.length cap)] 26)) (.cells #[(.slice none 0 0), (.slice none 0 0), (.slice none 0 0)] 31)).size
      have W2 := Lib.hid (within_on W1.out (within_alloc (w.alloc (.cells #[.int .i64 p, (.slice A l.length cap)] 26)) (.cells #[(.slice none 0 0), (.slice none 0 0), (.slice none 0 0)] 31)) W1.out.size (.inr (Nat.le_refl _)))
      have HB_2 := Lib.hid (HB_1.out.within (within_alloc (w.alloc (.cells #[.int .i64 p, (.slice A l.length cap)] 26)) (.cells #[(.slice none 0 0), (.slice none 0 0), (.slice none 0 0)] 31)) (by omega))
      have BX_2 := Lib.hid (BX_1.out.within (within_alloc (w.alloc (.cells #[.int .i64 p, (.slice A l.length cap)] 26)) (.cells #[(.slice none 0 0), (.slice none 0 0), (.slice none 0 0)] 31)) (by omega))
      have Y2 := Lib.hid (show ((w.alloc (.cells #[.int .i64 p, (.slice A l.length cap)] 26)).alloc (.cells #[(.slice none 0 0), (.slice none 0 0), (.slice none 0 0)] 31)).heap.size = (w.alloc (.cells #[.int .i64 p, (.slice A l.length cap)] 26)).heap.size + 1 by simp)
      have hnew := cel3_new (w.alloc (.cells #[.int .i64 p, (.slice A l.length cap)] 26)) (.slice none 0 0) (.slice none 0 0) (.slice none 0 0) 31
      rw [show (w.alloc (.cells #[.int .i64 p, (.slice A l.length cap)] 26)).heap.size = w.heap.size + 1 by simp] at hnew
      have GR_2 := Lib.hid hnew
      clear hnew
      go_enter Try.func36, Try.ntmps36
      obtain ⟨g0_0, g0_1, g0_2⟩ := BX_2.out
      go_wp2_with fail
      clear g0_0 g0_1 g0_2
      generalize ((w.alloc (.cells #[.int .i64 p, (.slice A l.length cap)] 26)).alloc (.cells #[(.slice none 0 0), (.slice none 0 0), (.slice none 0 0)] 31)) = w2 at *
      generalize (w.alloc (.cells #[.int .i64 p, (.slice A l.length cap)] 26)) = w1 at *
      refine (HISG _ HB_2.out.at).mono ?_
      rintro e w3 ⟨rfl, hb⟩
      have Z3 := Lib.hid (within_of hb).size
      have W3 := Lib.hid (within_on W2.out (within_of hb) W2.out.size (.inr (Nat.le_refl _)))
      have HB_3 := Lib.hid (HB_2.out.within (within_of hb) (by omega))
      have BX_3 := Lib.hid (BX_2.out.within (within_of hb) (by omega))
      have GR_3 := Lib.hid (GR_2.out.within (within_of hb) (by omega))
      clear hb HISG
      rcases hk with hk | ⟨hk1, hk⟩
      all_goals
        obtain ⟨g1_0, g1_1, g1_2, g1_3, g1_4, g1_5⟩ := GR_3.out.cells
        have Z4 := Lib.hid ((ret3 GR_3.out (.slice none 0 0) (.slice none 0 0) (.slice none 0 0)).2).size
        have W4 := Lib.hid (within_on W3.out ((ret3 GR_3.out (.slice none 0 0) (.slice none 0 0) (.slice none 0 0)).2) W3.out.size (by have := Z1.out; have := Z2.out; have := Z3.out; have := Z4.out; have := Y1.out; have := Y2.out; omega))
        have HB_4 := Lib.hid (HB_3.out.within ((ret3 GR_3.out (.slice none 0 0) (.slice none 0 0) (.slice none 0 0)).2) (by have := Z1.out; have := Z2.out; have := Z3.out; have := Z4.out; have := Y1.out; have := Y2.out; omega))
        have BX_4 := Lib.hid (BX_3.out.within ((ret3 GR_3.out (.slice none 0 0) (.slice none 0 0) (.slice none 0 0)).2) (by have := Z1.out; have := Z2.out; have := Z3.out; have := Z4.out; have := Y1.out; have := Y2.out; omega))
        have GR_4 := Lib.hid ((ret3 GR_3.out (.slice none 0 0) (.slice none 0 0) (.slice none 0 0)).1)
        obtain ⟨g2_0, g2_1, g2_2, g2_3, g2_4, g2_5⟩ := GR_4.out.cells
        go_wp2_with fail
        generalize (((w3.setCell ⟨w.heap.size + 1, 0, none⟩ (.slice none 0 0)).setCell ⟨w.heap.size + 1, 1, none⟩ (.slice none 0 0)).setCell ⟨w.heap.size + 1, 2, none⟩ (.slice none 0 0)) = w4 at *
        refine bodyPost_ret (v := .tuple #[pebV none 0 0 none 0 0 none 0 0, .bool false]) ?_ rfl ?_
        · simp [results, Try.results36, go_sem, g2_0, g2_1, g2_2]
        · rw [HR.out.1, HR.out.2]
          exact ⟨none, 0, none, 0, none, 0, rfl, own3_nil _ _ W4.out.size _ _ _ _ _ _, W4.out⟩
  · skip
    have hg : isGB p l = true := by
      cases h : isGB p l with
      | true => rfl
      | false => exact absurd (.inl h) hbad
    have hG : IsG p l := Classical.byContradiction fun g => by rw [isGB_no g] at hg; cases hg
    obtain ⟨P, rfl⟩ : ∃ P : Nat, p = (P : Int) := ⟨p.toNat, by have := hG.1; omega⟩
    have hP : 1 ≤ P ∧ P ≤ 8 := by have := hG.1; omega
    have hk1 : ¬ k < 1 := by omega
    have hk2 : ¬ 3 < k := by omega
    have HR := Lib.hid (new_yes (l := l) hg (by omega : 1 ≤ k) (by omega))
    rw [hg] at HISG
    clear hbad hG hg
    have W0 := Lib.hid (Below.refl w.heap.size w)
    have HB_0 := Lib.hid (bars_in hl)
    clear hl
    have Z1 := Lib.hid (within_alloc w (.cells #[.int .i64 (P : Int), (.slice A l.length cap)] 26)).size
    have W1 := Lib.hid (within_on W0.out (within_alloc w (.cells #[.int .i64 (P : Int), (.slice A l.length cap)] 26)) W0.out.size (.inr (Nat.le_refl _)))
    have HB_1 := Lib.hid (HB_0.out.within (within_alloc w (.cells #[.int .i64 (P : Int), (.slice A l.length cap)] 26)) (by omega))
    have Y1 := Lib.hid (show (w.alloc (.cells #[.int .i64 (P : Int), (.slice A l.length cap)] 26)).heap.size = w.heap.size + 1 by simp)
    have hnew := box_new w (P : Int) (.slice A l.length cap) 26
    have BX_1 := Lib.hid hnew
    clear hnew
    have Z2 := Lib.hid (within_alloc (w.alloc (.cells #[.int .i64 (P : Int), (.slice A l.length cap)] 26)) (.cells #[(.slice none 0 0), (.slice none 0 0), (.slice none 0 0)] 31)).size
    have W2 := Lib.hid (within_on W1.out (within_alloc (w.alloc (.cells #[.int .i64 (P : Int), (.slice A l.length cap)] 26)) (.cells #[(.slice none 0 0), (.slice none 0 0), (.slice none 0 0)] 31)) W1.out.size (.inr (Nat.le_refl _)))
    have HB_2 := Lib.hid (HB_1.out.within (within_alloc (w.alloc (.cells #[.int .i64 (P : Int), (.slice A l.length cap)] 26)) (.cells #[(.slice none 0 0), (.slice none 0 0), (.slice none 0 0)] 31)) (by omega))
    have BX_2 := Lib.hid (BX_1.out.within (within_alloc (w.alloc (.cells #[.int .i64 (P : Int), (.slice A l.length cap)] 26)) (.cells #[(.slice none 0 0), (.slice none 0 0), (.slice none 0 0)] 31)) (by omega))
    have Y2 := Lib.hid (show ((w.alloc (.cells #[.int .i64 (P : Int), (.slice A l.length cap)] 26)).alloc (.cells #[(.slice none 0 0), (.slice none 0 0), (.slice none 0 0)] 31)).heap.size = (w.alloc (.cells #[.int .i64 (P : Int), (.slice A l.length cap)] 26)).heap.size + 1 by simp)
    have hnew := cel3_new (w.alloc (.cells #[.int .i64 (P : Int), (.slice A l.length cap)] 26)) (.slice none 0 0) (.slice none 0 0) (.slice none 0 0) 31
    rw [show (w.alloc (.cells #[.int .i64 (P : Int), (.slice A l.length cap)] 26)).heap.size = w.heap.size + 1 by simp] at hnew
    have GR_2 := Lib.hid hnew
    clear hnew
    go_enter Try.func36, Try.ntmps36
    obtain ⟨g0_0, g0_1, g0_2⟩ := BX_2.out
    go_wp2_with fail
    clear g0_0 g0_1 g0_2
    generalize ((w.alloc (.cells #[.int .i64 (P : Int), (.slice A l.length cap)] 26)).alloc (.cells #[(.slice none 0 0), (.slice none 0 0), (.slice none 0 0)] 31)) = w2 at *
    generalize (w.alloc (.cells #[.int .i64 (P : Int), (.slice A l.length cap)] 26)) = w1 at *
    refine (HISG _ HB_2.out.at).mono ?_
    rintro e w3 ⟨rfl, hb⟩
    have Z3 := Lib.hid (within_of hb).size
    have W3 := Lib.hid (within_on W2.out (within_of hb) W2.out.size (.inr (Nat.le_refl _)))
    have HB_3 := Lib.hid (HB_2.out.within (within_of hb) (by omega))
    have BX_3 := Lib.hid (BX_2.out.within (within_of hb) (by omega))
    have GR_3 := Lib.hid (GR_2.out.within (within_of hb) (by omega))
    clear hb HISG
    have Z4 := Lib.hid (within_alloc w3 (.cells #[.int .i64 k] 3)).size
    have W4 := Lib.hid (within_on W3.out (within_alloc w3 (.cells #[.int .i64 k] 3)) W3.out.size (.inr (Nat.le_refl _)))
    have HB_4 := Lib.hid (HB_3.out.within (within_alloc w3 (.cells #[.int .i64 k] 3)) (by omega))
    have BX_4 := Lib.hid (BX_3.out.within (within_alloc w3 (.cells #[.int .i64 k] 3)) (by omega))
    have GR_4 := Lib.hid (GR_3.out.within (within_alloc w3 (.cells #[.int .i64 k] 3)) (by omega))
    have Y4 := Lib.hid (show (w3.alloc (.cells #[.int .i64 k] 3)).heap.size = w3.heap.size + 1 by simp)
    have hck : (w3.alloc (.cells #[.int .i64 k] 3)).cell? ⟨w3.heap.size, 0, none⟩ = some (.int .i64 k) := by rw [World.cell?_alloc_at _ _ _ _ rfl]; rfl
    have HCK := Lib.hid hck
    clear hck
    obtain ⟨g1_0, g1_1, g1_2⟩ := BX_4.out
    go_wp2_with fail
    clear g1_0 g1_1 g1_2
    generalize (w3.alloc (.cells #[.int .i64 k] 3)) = w4 at *
    refine (slRepeat P k w3.heap.size _ hP.1 hP.2 HCK.out).mono ?_
    rintro e w5 ⟨g, rfl, ho, hb⟩
    have Z5 := Lib.hid (within_of hb).size
    have W5 := Lib.hid (within_on W4.out (within_of hb) W4.out.size (.inr (Nat.le_refl _)))
    have HB_5 := Lib.hid (HB_4.out.within (within_of hb) (by omega))
    have BX_5 := Lib.hid (BX_4.out.within (within_of hb) (by omega))
    have GR_5 := Lib.hid (GR_4.out.within (within_of hb) (by omega))
    have OF_5 := Lib.hid (own_ints' (zs := List.replicate P k) (by rw [List.length_replicate]; exact ho))
    clear ho hb
    obtain ⟨g2_0, g2_1, g2_2, g2_3, g2_4, g2_5⟩ := GR_5.out.cells
    have Z6 := Lib.hid ((ret3 GR_5.out (.slice (some ⟨g, 0, none⟩) P P) (.slice none 0 0) (.slice none 0 0)).2).size
    have W6 := Lib.hid (within_on W5.out ((ret3 GR_5.out (.slice (some ⟨g, 0, none⟩) P P) (.slice none 0 0) (.slice none 0 0)).2) W5.out.size (by have := Z1.out; have := Z2.out; have := Z3.out; have := Z4.out; have := Z5.out; have := Z6.out; have := Y1.out; have := Y2.out; have := Y4.out; omega))
    have HB_6 := Lib.hid (HB_5.out.within ((ret3 GR_5.out (.slice (some ⟨g, 0, none⟩) P P) (.slice none 0 0) (.slice none 0 0)).2) (by have := Z1.out; have := Z2.out; have := Z3.out; have := Z4.out; have := Z5.out; have := Z6.out; have := Y1.out; have := Y2.out; have := Y4.out; omega))
    have BX_6 := Lib.hid (BX_5.out.within ((ret3 GR_5.out (.slice (some ⟨g, 0, none⟩) P P) (.slice none 0 0) (.slice none 0 0)).2) (by have := Z1.out; have := Z2.out; have := Z3.out; have := Z4.out; have := Z5.out; have := Z6.out; have := Y1.out; have := Y2.out; have := Y4.out; omega))
    have GR_6 := Lib.hid ((ret3 GR_5.out (.slice (some ⟨g, 0, none⟩) P P) (.slice none 0 0) (.slice none 0 0)).1)
    have OF_6 := Lib.hid (OF_5.out.within ((ret3 GR_5.out (.slice (some ⟨g, 0, none⟩) P P) (.slice none 0 0) (.slice none 0 0)).2) (by have := Z1.out; have := Z2.out; have := Z3.out; have := Z4.out; have := Z5.out; have := Z6.out; have := Y1.out; have := Y2.out; have := Y4.out; omega))
    obtain ⟨g3_0, g3_1, g3_2, g3_3, g3_4, g3_5⟩ := GR_6.out.cells
    go_wp2_with fail
    generalize (((w5.setCell ⟨w.heap.size + 1, 0, none⟩ (.slice (some ⟨g, 0, none⟩) P P)).setCell ⟨w.heap.size + 1, 1, none⟩ (.slice none 0 0)).setCell ⟨w.heap.size + 1, 2, none⟩ (.slice none 0 0)) = w6 at *
    refine bodyPost_ret (v := .tuple #[pebV (some ⟨g, 0, none⟩) P P none 0 0 none 0 0, .bool true]) ?_ rfl ?_
    · simp [results, Try.results36, go_sem, g3_0, g3_1, g3_2]
    · rw [HR.out.1, HR.out.2]
      exact ⟨some ⟨g, 0, none⟩, P, none, 0, none, 0, by rw [List.length_replicate]; rfl, own3_f OF_6.out (by have := Z1.out; have := Z2.out; have := Z3.out; have := Z4.out; have := Z5.out; have := Z6.out; have := Y1.out; have := Y2.out; have := Y4.out; omega) (by have := Z1.out; have := Z2.out; have := Z3.out; have := Z4.out; have := Z5.out; have := Z6.out; have := Y1.out; have := Y2.out; have := Y4.out; omega) (by have := Z1.out; have := Z2.out; have := Z3.out; have := Z4.out; have := Z5.out; have := Z6.out; have := Y1.out; have := Y2.out; have := Y4.out; omega), W6.out⟩

end Go.Proofs.Ytdkpmaahinbhlaa
/- Rows of ints of the call's own, the empty ones too: what an append onto them asks. No condition. -/
namespace Go.Proofs.Ytdkpmaahinbhlaa
open Go.RowKit

/-- A row of the call's own in a block from lo to hi, or no block; an empty one too can be appended to. -/
def OwnR (W : World) (lo hi : Nat) (A : Option Addr) (cap : Nat) (zs : List Int) : Prop :=
  hi ≤ W.heap.size ∧ ((A = none ∧ cap = 0 ∧ zs = []) ∨ ∃ g, A = some ⟨g, 0, none⟩ ∧ lo ≤ g ∧ g < hi ∧ W.ownsRow lo 3 1 (.slice (some ⟨g, 0, none⟩) zs.length cap) zs.length (intCells zs))
theorem OwnR.within {W W' : World} {lo hi lo' hi' : Nat} {A : Option Addr} {cap : Nat} {zs : List Int} (h : OwnR W lo hi A cap zs) (hw : Within lo' hi' W W') (hd : hi ≤ lo' ∨ hi' ≤ lo) : OwnR W' lo hi A cap zs :=
  ⟨Nat.le_trans h.1 hw.size, by
    rcases h.2 with h2 | ⟨g, e, h1, h2, ho⟩
    · exact .inl h2
    · exact .inr ⟨g, e, h1, h2, own_block ho (hw.block g (Nat.lt_of_lt_of_le h2 h.1) (by omega))⟩⟩
theorem OwnR.ints {W : World} {lo hi : Nat} {A : Option Addr} {cap : Nat} {zs : List Int} (h : OwnR W lo hi A cap zs) : OwnInts W lo hi A cap zs :=
  ⟨h.1, by
    rcases h.2 with ⟨_, _, h2⟩ | h2
    · exact .inl h2
    · exact .inr h2⟩
/-- What an append onto the row asks. -/
theorem OwnR.row {W : World} {lo hi : Nat} {A : Option Addr} {cap : Nat} {zs : List Int} (h : OwnR W lo hi A cap zs) : W.ownsRow lo 3 1 (.slice A zs.length cap) zs.length (intCells zs) := by
  rcases h.2 with ⟨rfl, rfl, rfl⟩ | ⟨g, rfl, _, _, ho⟩
  · exact ⟨rfl, .inl ⟨rfl, rfl⟩⟩
  · exact ho
theorem own_r {w' : World} {base : Nat} {A : Option Addr} {cap : Nat} {zs : List Int} (h : w'.ownsRow base 3 1 (.slice A zs.length cap) zs.length (intCells zs)) : OwnR w' base w'.heap.size A cap zs := by
  rcases h.2 with ⟨h1, h0⟩ | ⟨g, cap', cur, h1, h2⟩
  · injection h1 with e1 e2 e3
    exact ⟨Nat.le_refl _, .inl ⟨e1, e3, List.eq_nil_of_length_eq_zero h0⟩⟩
  · cases h1
    exact ⟨Nat.le_refl _, .inr ⟨g, rfl, (h.lt g rfl).1, (h.lt g rfl).2, h⟩⟩
/-- A state of the call's own whose rows, the empty ones too, can be appended to. -/
def Own3R (W : World) (lo hi : Nat) (AF : Option Addr) (cF : Nat) (AT : Option Addr) (cT : Nat) (AZ : Option Addr) (cZ : Nat) (F T Z : List Int) : Prop :=
  ∃ f t z : Nat × Nat, OwnR W f.1 f.2 AF cF F ∧ OwnR W t.1 t.2 AT cT T ∧ OwnR W z.1 z.2 AZ cZ Z ∧ Dis f t ∧ Dis f z ∧ Dis t z ∧ (lo ≤ f.1 ∧ f.2 ≤ hi) ∧ (lo ≤ t.1 ∧ t.2 ≤ hi) ∧ (lo ≤ z.1 ∧ z.2 ≤ hi) ∧ hi ≤ W.heap.size
theorem Own3R.own3 {W : World} {lo hi : Nat} {AF AT AZ : Option Addr} {cF cT cZ : Nat} {F T Z : List Int} (h : Own3R W lo hi AF cF AT cT AZ cZ F T Z) : Own3 W lo hi AF cF AT cT AZ cZ F T Z := by
  obtain ⟨f, t, z, h1, h2, h3, r⟩ := h
  exact ⟨f, t, z, h1.ints, h2.ints, h3.ints, r⟩
theorem Own3R.within {W W' : World} {lo hi lo' hi' : Nat} {AF AT AZ : Option Addr} {cF cT cZ : Nat} {F T Z : List Int} (h : Own3R W lo hi AF cF AT cT AZ cZ F T Z) (hw : Within lo' hi' W W') (hd : hi ≤ lo' ∨ hi' ≤ lo) : Own3R W' lo hi AF cF AT cT AZ cZ F T Z := by
  obtain ⟨f, t, z, h1, h2, h3, d1, d2, d3, b1, b2, b3, h4⟩ := h
  exact ⟨f, t, z, h1.within hw (by omega), h2.within hw (by omega), h3.within hw (by omega), d1, d2, d3, b1, b2, b3, Nat.le_trans h4 hw.size⟩
/-- The answer: a row of the call's own that can be appended to. -/
def IntsR (w : World) (zs : List Int) (e : Ending) (w' : World) : Prop :=
  ∃ A cap, e = .returned (.slice A zs.length cap) ∧ OwnR w' w.heap.size w'.heap.size A cap zs ∧ Below w.heap.size w w'
/-- The answer: a state of the call's own that can be appended to. -/
def PebR (w : World) (F T Z : List Int) (e : Ending) (w' : World) : Prop :=
  ∃ AF cF AT cT AZ cZ, e = .returned (pebV AF F.length cF AT T.length cT AZ Z.length cZ) ∧ Own3R w' w.heap.size w'.heap.size AF cF AT cT AZ cZ F T Z ∧ Below w.heap.size w w'

set_option maxHeartbeats 2000000 in
set_option maxRecDepth 100000 in
theorem slCloneR (zs : List Int) (A : Option Addr) (cap lo hi : Nat) (w : World) (hz : IntsIn w lo hi A zs) (hn : zs.length ≤ 1048576) :
    Calls Try.prog 146 #[.slice A zs.length cap] w (IntsR w zs) := by
  obtain ⟨i0, hi0, hz0, hz1, hz2⟩ := info_parts infoInt
  have q : ∀ (w : World) (a : Option Addr) (n c n' c' : Nat), (binOp .eql 29 (.slice a n c) (.slice none n' c')).run Try.prog w = .ok (.bool a.isNone) w := fun w a n c n' c' => Go.Lib.run_eql_slice_nil w _ _ a n c n' c' Try.underlying29
  have hm := World.ownsRow_made (base := w.heap.size) (e := 3) (size := 1) w #[] 0 (Nat.le_refl _) (by unfold maxLen; omega) (by simp)
  have HM := Lib.hid hm
  clear hm
  cases A with
  | none =>
    have h0 : zs = [] := by
      refine List.eq_nil_of_length_eq_zero (Nat.eq_zero_of_not_pos fun h => ?_)
      obtain ⟨b, off, e, _⟩ := hz.2 h
      cases e
    subst h0
    clear hz
    go_enter Try.func146, Try.ntmps146
    go_wp2_with fail
    go_ret
    exact ⟨none, 0, rfl, own_r ⟨rfl, .inl ⟨rfl, rfl⟩⟩, Below.refl _ _⟩
  | some a =>
    have HC := Lib.hid (news_ints (hz.within (within_alloc w (.cells #[] 3)) (.inr (Nat.zero_le _))))
    clear hz
    go_enter Try.func146, Try.ntmps146
    go_wp2_with (at_builtin; refine wpList_append_own _ rfl _ _ 29 rfl w.heap.size 3 i0 _ 1 8 Try.underlying29 hi0 hz0 hz1 hz2 rfl (by omega) _ 0 [] rfl HM.out a zs.length cap (intCells zs) rfl (by rw [intCells_len]; omega) HC.out (intCells_one zs) (by unfold maxLen; omega) (by omega) (by simp) ?_; intro v' w' ho hg hnil; rw [Nat.zero_add, List.nil_append] at ho; obtain ⟨A2, c2, rfl⟩ := own_shape ho; have HO := Lib.hid (own_r ho); have HG := Lib.hid (show Below w.heap.size w w' from (new_below w (.cells #[] 3)).grown hg (by simp) fun k hk => by cases hk; exact Nat.le_refl _); clear ho hg hnil)
    go_ret
    exact ⟨A2, c2, rfl, HO.out, HG.out⟩
end Go.Proofs.Ytdkpmaahinbhlaa
/- A copy of a row of ints by append onto an empty row: what is run, and where the copy lies. No condition. -/
namespace Go.Proofs.Ytdkpmaahinbhlaa
open Go.RowKit

theorem run_copyI (w : World) (ty : TypeId) (g : Nat) (A : Option Addr) (zs : List Int) (cap lo hi : Nat) (hz : IntsIn w lo hi A zs) (hn : zs.length ≤ 1048576) :
    ∃ A' c' w', (Builtin.append_ #[29, 29] ty #[.slice (some ⟨g, 0, none⟩) 0 0, .slice A zs.length cap]).run Try.prog w = .ok (.slice A' zs.length c') w' ∧ OwnInts w' w.heap.size w'.heap.size A' c' zs ∧ Below w.heap.size w w' := by
  obtain ⟨i0, hi0, hz0, hz1, hz2⟩ := info_parts infoInt
  by_cases h0 : zs.length = 0
  · have e : zs = [] := List.eq_nil_of_length_eq_zero h0
    subst e
    refine ⟨some ⟨g, 0, none⟩, 0, w, ?_, ⟨Nat.le_refl _, .inl rfl⟩, Below.refl _ _⟩
    cases A <;> simp [Builtin.append_, run_underlying Try.underlying29, sizeOf, typeInfo, hi0, Builtin.lenOf, Builtin.firstCells, loadCells, loadCellsFrom, storeCells]
  · obtain ⟨b, off, rfl, _, _, _⟩ := hz.2 (by omega)
    have hr := run_append_grow (P := Try.prog) w 29 ty 3 i0 _ Try.underlying29 hi0 hz0 ⟨g, 0, none⟩ 0 0 [] (by simp) (fun j v hj => by simp at hj) ⟨b, off, none⟩ zs.length cap (intCells zs) (by rw [hz1, intCells_len]; omega) (news_ints hz) (by omega) (by omega) (growslice_fits (by omega) (by rw [hz2]; omega))
    rw [Nat.zero_add] at hr
    refine ⟨_, _, _, hr, ?_, ((Below.refl _ _).drew).alloc (Nat.le_refl _) _⟩
    have hge := grownCap_ge w zs.length 0 3
    have hcm := grownCap_le_maxLen w zs.length 0 3 (by unfold maxLen; omega)
    refine own_ints' ⟨by rw [intCells_len]; omega, .inr ⟨w.heap.size, _, _, rfl, Nat.le_refl _, heap_alloc_new w.drew _, hge, hcm, ?_, ?_⟩⟩
    · simp only [Array.size_append, List.size_toArray, size_zeroCells]
      rw [intCells_len]
      simp [Value.cells]
      omega
    · have hl : zs.length * 1 = (intCells zs).length := by rw [intCells_len]; omega
      rw [hl]
      simp
theorem wp_copyI {w : World} {o : Oper} {a : Act} {K : Act → World → Prop} {Q : Exit → Act → World → Prop} (s x : Operand) (ho : o.op = .call { callee := .builtin .append, args := #[s, x], argTypes := #[29, 29] })
    (g : Nat) (A : Option Addr) (zs : List Int) (cap lo hi : Nat) (hs : a.eval s = .slice (some ⟨g, 0, none⟩) 0 0) (hx : a.eval x = .slice A zs.length cap) (hz : IntsIn w lo hi A zs) (hn : zs.length ≤ 1048576)
    (h : ∀ A' c' w', OwnInts w' w.heap.size w'.heap.size A' c' zs → Below w.heap.size w w' → K (a.put o.dst (.slice A' zs.length c')) w') : o.wp Try.prog a w K Q := by
  obtain ⟨A', c', w', hr, h2, h3⟩ := run_copyI w o.type g A zs cap lo hi hz hn
  unfold Oper.wp execOp
  simp only [ho, resolve, invoke, builtin, Sem.run_bind, Sem.run_pure, Result.andThen_ok, List.map_toArray, List.map_cons, List.map_nil, hs, hx, hr]
  exact h A' c' w' h2 h3
theorem step_copyI {w : World} {ops : Array Oper} {o : Oper} {a : Act} {K : Act → World → Prop} {Q : Exit → Act → World → Prop} {E : Prop} (hgd : o.guard = none) (s x : Operand) (ho : o.op = .call { callee := .builtin .append, args := #[s, x], argTypes := #[29, 29] })
    (g : Nat) (A : Option Addr) (zs : List Int) (cap lo hi : Nat) (hs : a.eval s = .slice (some ⟨g, 0, none⟩) 0 0) (hx : a.eval x = .slice A zs.length cap) (hz : IntsIn w lo hi A zs) (hn : zs.length ≤ 1048576)
    (h : ∀ A' c' w', OwnInts w' w.heap.size w'.heap.size A' c' zs → Below w.heap.size w w' → K (a.put o.dst (.slice A' zs.length c')) w') : if Region.wanted o (yielded ops a.tmps) = true then Oper.wp Try.prog o a w K Q else E := by
  have hw : Region.wanted o (yielded ops a.tmps) = true := by simp [Region.wanted, hgd]
  rw [if_pos hw]
  exact wp_copyI s x ho g A zs cap lo hi hs hx hz hn h
/-- What stands while a state is copied. -/
structure CpS (w W : World) (AF : Option Addr) (cF : Nat) (AT : Option Addr) (cT : Nat) (AZ : Option Addr) (cZ lo hi : Nat) (F T Z : List Int) : Prop where
  arg : Cel3 W w.heap.size 31 (.slice AF F.length cF) (.slice AT T.length cT) (.slice AZ Z.length cZ)
  ret : Cel3 W (w.heap.size + 1) 31 (.slice none 0 0) (.slice none 0 0) (.slice none 0 0)
  src : Peb3 W lo hi AF AT AZ F T Z
  bel : Below w.heap.size w W
theorem CpS.below {w W W' : World} {AF : Option Addr} {cF : Nat} {AT : Option Addr} {cT : Nat} {AZ : Option Addr} {cZ lo hi : Nat} {F T Z : List Int} (h : CpS w W AF cF AT cT AZ cZ lo hi F T Z) (hb : Below W.heap.size W W') : CpS w W' AF cF AT cT AZ cZ lo hi F T Z :=
  ⟨h.arg.kept hb, h.ret.kept hb, h.src.within (within_of hb) (.inr (Nat.zero_le _)), below_on h.bel hb h.bel.size⟩
theorem CpS.cells {w W : World} {AF : Option Addr} {cF : Nat} {AT : Option Addr} {cT : Nat} {AZ : Option Addr} {cZ lo hi : Nat} {F T Z : List Int} (h : CpS w W AF cF AT cT AZ cZ lo hi F T Z) :
    W.cell? ⟨w.heap.size, 0, none⟩ = some (.slice AF F.length cF) ∧ W.cell? ⟨w.heap.size, 1, none⟩ = some (.slice AT T.length cT) ∧ W.cell? ⟨w.heap.size, 2, none⟩ = some (.slice AZ Z.length cZ) := ⟨h.arg.cells.1, h.arg.cells.2.1, h.arg.cells.2.2.1⟩
/-- A state of the call's own. -/
def PebO (w : World) (F T Z : List Int) (e : Ending) (w' : World) : Prop :=
  ∃ AF cF AT cT AZ cZ, e = .returned (pebV AF F.length cF AT T.length cT AZ Z.length cZ) ∧ Own3 w' w.heap.size w'.heap.size AF cF AT cT AZ cZ F T Z ∧ Below w.heap.size w w'
end Go.Proofs.Ytdkpmaahinbhlaa
/- A state of the call's own whose rows are written: where they lie, and what a store makes of them. No condition. -/
namespace Go.Proofs.Ytdkpmaahinbhlaa
open Go.RowKit

/-- Three rows in blocks of their own; the first two are not empty. -/
structure St3 (W : World) (B gF cF gT cT : Nat) (AZ : Option Addr) (cZ z1 z2 : Nat) (F T Z : List Int) : Prop where
  f : W.ownsRow B 3 1 (.slice (some ⟨gF, 0, none⟩) F.length cF) F.length (intCells F)
  t : W.ownsRow B 3 1 (.slice (some ⟨gT, 0, none⟩) T.length cT) T.length (intCells T)
  z : OwnInts W z1 z2 AZ cZ Z
  b : B ≤ z1
  ne : gF ≠ gT
  dF : gF < z1 ∨ z2 ≤ gF
  dT : gT < z1 ∨ z2 ≤ gT
theorem own_raise {W : World} {B g cap n size : Nat} {e : TypeId} {xs : List Value} (h : W.ownsRow B e size (.slice (some ⟨g, 0, none⟩) n cap) n xs) : W.ownsRow g e size (.slice (some ⟨g, 0, none⟩) n cap) n xs := by
  refine ⟨h.1, ?_⟩
  rcases h.2 with ⟨h1, _⟩ | ⟨g', cap', cur, h1, _, h3⟩
  · cases h1
  · cases h1
    exact .inr ⟨g, cap, cur, rfl, Nat.le_refl _, h3⟩
theorem Own3.open_ {W : World} {lo hi : Nat} {AF AT AZ : Option Addr} {cF cT cZ : Nat} {F T Z : List Int} (h : Own3 W lo hi AF cF AT cT AZ cZ F T Z) (hF : 0 < F.length) (hT : 0 < T.length) :
    ∃ gF gT z1 z2, AF = some ⟨gF, 0, none⟩ ∧ AT = some ⟨gT, 0, none⟩ ∧ lo ≤ gF ∧ gF < hi ∧ lo ≤ gT ∧ gT < hi ∧ z2 ≤ hi ∧ St3 W lo gF cF gT cT AZ cZ z1 z2 F T Z := by
  obtain ⟨⟨f1, f2⟩, ⟨t1, t2⟩, ⟨z1, z2⟩, o1, o2, o3, d1, d2, d3, b1, b2, b3, h4⟩ := h
  simp only [Dis] at o1 o2 o3 d1 d2 d3 b1 b2 b3
  rcases o1.2 with e | ⟨gF, rfl, g1, g2, hf⟩
  · subst e; simp at hF
  · rcases o2.2 with e | ⟨gT, rfl, g3, g4, ht⟩
    · subst e; simp at hT
    · exact ⟨gF, gT, z1, z2, rfl, rfl, by omega, by omega, by omega, by omega, by omega, own_base hf b1.1, own_base ht b2.1, o3, b3.1, by omega, by omega, by omega⟩
theorem St3.own {W : World} {B gF cF gT cT : Nat} {AZ : Option Addr} {cZ z1 z2 : Nat} {F T Z : List Int} (h : St3 W B gF cF gT cT AZ cZ z1 z2 F T Z) : Own3 W B W.heap.size (some ⟨gF, 0, none⟩) cF (some ⟨gT, 0, none⟩) cT AZ cZ F T Z := by
  have h1 := h.f.lt gF rfl
  have h2 := h.t.lt gT rfl
  have h3 := h.z.1
  have n1 := h.ne
  have n2 := h.dF
  have n3 := h.dT
  have n4 := h.b
  exact ⟨(gF, gF + 1), (gT, gT + 1), (z1, z2), ⟨by simp only []; omega, .inr ⟨gF, rfl, Nat.le_refl _, Nat.lt_succ_self _, own_raise h.f⟩⟩, ⟨by simp only []; omega, .inr ⟨gT, rfl, Nat.le_refl _, Nat.lt_succ_self _, own_raise h.t⟩⟩, h.z, by unfold Dis; simp only []; omega, by unfold Dis; simp only []; omega, by unfold Dis; simp only []; omega, by simp only []; omega, by simp only []; omega, ⟨h.b, h3⟩, Nat.le_refl _⟩
theorem St3.own_hi {W : World} {B gF cF gT cT : Nat} {AZ : Option Addr} {cZ z1 z2 hi : Nat} {F T Z : List Int} (h : St3 W B gF cF gT cT AZ cZ z1 z2 F T Z) (h1 : gF < hi) (h2 : gT < hi) (h3 : z2 ≤ hi) (h4 : hi ≤ W.heap.size) : Own3 W B hi (some ⟨gF, 0, none⟩) cF (some ⟨gT, 0, none⟩) cT AZ cZ F T Z := by
  have k1 := h.f.lt gF rfl
  have k2 := h.t.lt gT rfl
  have n1 := h.ne
  have n2 := h.dF
  have n3 := h.dT
  have n4 := h.b
  exact ⟨(gF, gF + 1), (gT, gT + 1), (z1, z2), ⟨by simp only []; omega, .inr ⟨gF, rfl, Nat.le_refl _, Nat.lt_succ_self _, own_raise h.f⟩⟩, ⟨by simp only []; omega, .inr ⟨gT, rfl, Nat.le_refl _, Nat.lt_succ_self _, own_raise h.t⟩⟩, h.z, by unfold Dis; simp only []; omega, by unfold Dis; simp only []; omega, by unfold Dis; simp only []; omega, by simp only []; omega, by simp only []; omega, ⟨h.b, h3⟩, h4⟩
theorem St3.below {W W' : World} {B gF cF gT cT : Nat} {AZ : Option Addr} {cZ z1 z2 : Nat} {F T Z : List Int} (h : St3 W B gF cF gT cT AZ cZ z1 z2 F T Z) (hb : Below W.heap.size W W') : St3 W' B gF cF gT cT AZ cZ z1 z2 F T Z :=
  ⟨own_below h.f hb, own_below h.t hb, h.z.within (within_of hb) (.inr (Nat.zero_le _)), h.b, h.ne, h.dF, h.dT⟩
theorem St3.within {W W' : World} {B gF cF gT cT : Nat} {AZ : Option Addr} {cZ z1 z2 lo hi : Nat} {F T Z : List Int} (h : St3 W B gF cF gT cT AZ cZ z1 z2 F T Z) (hw : Within lo hi W W') (h1 : gF < lo ∨ hi ≤ gF) (h2 : gT < lo ∨ hi ≤ gT) (h3 : z2 ≤ lo ∨ hi ≤ z1) : St3 W' B gF cF gT cT AZ cZ z1 z2 F T Z :=
  ⟨own_block h.f (hw.block gF (h.f.lt gF rfl).2 h1), own_block h.t (hw.block gT (h.t.lt gT rfl).2 h2), h.z.within hw h3, h.b, h.ne, h.dF, h.dT⟩
theorem intCells_set (zs : List Int) (i : Nat) (x : Int) : (intCells zs).set i (.int .i64 x) = intCells (zs.set i x) := by
  unfold intCells
  rw [← List.map_set]
theorem St3.setF {W : World} {B gF cF gT cT : Nat} {AZ : Option Addr} {cZ z1 z2 : Nat} {F T Z : List Int} (h : St3 W B gF cF gT cT AZ cZ z1 z2 F T Z) (i : Nat) (x : Int) : St3 (W.setCell ⟨gF, i, none⟩ (.int .i64 x)) B gF cF gT cT AZ cZ z1 z2 (F.set i x) T Z := by
  have hw := within_set W gF i (.int .i64 x)
  have h1 := (h.f.stored i (.int .i64 x)).1
  rw [intCells_set] at h1
  exact ⟨by rw [List.length_set]; exact h1, own_block h.t (hw.block gT (h.t.lt gT rfl).2 (by have := h.ne; omega)), h.z.within hw (by have := h.dF; omega), h.b, h.ne, h.dF, h.dT⟩
theorem St3.setT {W : World} {B gF cF gT cT : Nat} {AZ : Option Addr} {cZ z1 z2 : Nat} {F T Z : List Int} (h : St3 W B gF cF gT cT AZ cZ z1 z2 F T Z) (i : Nat) (x : Int) : St3 (W.setCell ⟨gT, i, none⟩ (.int .i64 x)) B gF cF gT cT AZ cZ z1 z2 F (T.set i x) Z := by
  have hw := within_set W gT i (.int .i64 x)
  have h1 := (h.t.stored i (.int .i64 x)).1
  rw [intCells_set] at h1
  exact ⟨own_block h.f (hw.block gF (h.f.lt gF rfl).2 (by have := h.ne; omega)), by rw [List.length_set]; exact h1, h.z.within hw (by have := h.dT; omega), h.b, h.ne, h.dF, h.dT⟩
theorem St3.cellF {W : World} {B gF cF gT cT : Nat} {AZ : Option Addr} {cZ z1 z2 : Nat} {F T Z : List Int} (h : St3 W B gF cF gT cT AZ cZ z1 z2 F T Z) (i : Nat) (hi : i < F.length) : W.cell? ⟨gF, i, none⟩ = some (.int .i64 (F.getD i 0)) ∧ W.frozen? ⟨gF, i, none⟩ = false :=
  ⟨(h.f.cellAt i (by omega)).trans (intCells_get F i hi), h.f.frozenAt i⟩
theorem St3.cellT {W : World} {B gF cF gT cT : Nat} {AZ : Option Addr} {cZ z1 z2 : Nat} {F T Z : List Int} (h : St3 W B gF cF gT cT AZ cZ z1 z2 F T Z) (i : Nat) (hi : i < T.length) : W.cell? ⟨gT, i, none⟩ = some (.int .i64 (T.getD i 0)) ∧ W.frozen? ⟨gT, i, none⟩ = false :=
  ⟨(h.t.cellAt i (by omega)).trans (intCells_get T i hi), h.t.frozenAt i⟩
end Go.Proofs.Ytdkpmaahinbhlaa
/- A state of the call's own, each row in a range of its own; what may be written is named. No program's walk. No condition. -/
namespace Go.Proofs.Ytdkpmaahinbhlaa
open Go.RowKit

/-- The blocks of two ranges may be written; nothing else was. -/
structure Within2 (f t : Nat × Nat) (w w' : World) : Prop where
  os : w'.os = w.os
  tape : w'.tape = w.tape
  output : w'.output = w.output
  size : w.heap.size ≤ w'.heap.size
  block : ∀ k, k < w.heap.size → (k < f.1 ∨ f.2 ≤ k) → (k < t.1 ∨ t.2 ≤ k) → w'.heap[k]? = w.heap[k]?
theorem Within2.refl (f t : Nat × Nat) (w : World) : Within2 f t w w := ⟨rfl, rfl, rfl, Nat.le_refl _, fun _ _ _ _ => rfl⟩
theorem Within2.trans {f t : Nat × Nat} {a b c : World} (h : Within2 f t a b) (k : Within2 f t b c) : Within2 f t a c :=
  ⟨k.os.trans h.os, k.tape.trans h.tape, k.output.trans h.output, Nat.le_trans h.size k.size, fun i hi' h1 h2 => (k.block i (Nat.lt_of_lt_of_le hi' h.size) h1 h2).trans (h.block i hi' h1 h2)⟩
theorem Within2.of {f t : Nat × Nat} {lo hi : Nat} {a b : World} (h : Within lo hi a b) (hd : hi ≤ lo ∨ (f.1 ≤ lo ∧ hi ≤ f.2) ∨ (t.1 ≤ lo ∧ hi ≤ t.2)) : Within2 f t a b :=
  ⟨h.os, h.tape, h.output, h.size, fun i hi' h1 h2 => h.block i hi' (by omega)⟩
/-- What lies under a bound that no range reaches stands. -/
theorem Within2.one {f t : Nat × Nat} {a b : World} (h : Within2 f t a b) (k : Nat) (h1 : k < f.1 ∨ f.2 ≤ k) (h2 : k < t.1 ∨ t.2 ≤ k) : a.heap.size ≤ k ∨ b.heap[k]? = a.heap[k]? := by
  by_cases hk : k < a.heap.size
  · exact .inr (h.block k hk h1 h2)
  · exact .inl (by omega)
theorem OwnR.at {W W' : World} {lo hi : Nat} {A : Option Addr} {cap : Nat} {zs : List Int} (h : OwnR W lo hi A cap zs) {f t : Nat × Nat} (hw : Within2 f t W W') (h1 : hi ≤ f.1 ∨ f.2 ≤ lo) (h2 : hi ≤ t.1 ∨ t.2 ≤ lo) : OwnR W' lo hi A cap zs :=
  ⟨Nat.le_trans h.1 hw.size, by
    rcases h.2 with e | ⟨g, e, g1, g2, ho⟩
    · exact .inl e
    · exact .inr ⟨g, e, g1, g2, own_block ho (hw.block g (Nat.lt_of_lt_of_le g2 h.1) (by omega) (by omega))⟩⟩
theorem IntsIn.at {W W' : World} {lo hi : Nat} {A : Option Addr} {zs : List Int} (h : IntsIn W lo hi A zs) {f t : Nat × Nat} (hw : Within2 f t W W') (h1 : hi ≤ f.1 ∨ f.2 ≤ lo) (h2 : hi ≤ t.1 ∨ t.2 ≤ lo) : IntsIn W' lo hi A zs :=
  ⟨Nat.le_trans h.1 hw.size, fun hl => by
    obtain ⟨b, off, e, b1, b2, hc⟩ := h.2 hl
    exact ⟨b, off, e, b1, b2, fun k hk => (World.cell?_of_block (a := ⟨b, off + k, none⟩) (hw.block b (Nat.lt_of_lt_of_le b2 h.1) (by omega) (by omega))).trans (hc k hk)⟩⟩
theorem Cel3.at {W W' : World} {b : Nat} {T : TypeId} {v0 v1 v2 : Value} (h : Cel3 W b T v0 v1 v2) {f t : Nat × Nat} (hw : Within2 f t W W') (h1 : b < f.1 ∨ f.2 ≤ b) (h2 : b < t.1 ∨ t.2 ≤ b) : Cel3 W' b T v0 v1 v2 := (hw.block b h.lt h1 h2).trans h
/-- A state of the call's own: each row in its range. -/
def OwnF (W : World) (f t z : Nat × Nat) (AF : Option Addr) (cF : Nat) (AT : Option Addr) (cT : Nat) (AZ : Option Addr) (cZ : Nat) (F T Z : List Int) : Prop :=
  OwnR W f.1 f.2 AF cF F ∧ OwnR W t.1 t.2 AT cT T ∧ OwnR W z.1 z.2 AZ cZ Z ∧ Dis f t ∧ Dis f z ∧ Dis t z
theorem Own3R.ownF {W : World} {lo hi : Nat} {AF AT AZ : Option Addr} {cF cT cZ : Nat} {F T Z : List Int} (h : Own3R W lo hi AF cF AT cT AZ cZ F T Z) : ∃ f t z : Nat × Nat, OwnF W f t z AF cF AT cT AZ cZ F T Z ∧ (lo ≤ f.1 ∧ f.2 ≤ hi) ∧ (lo ≤ t.1 ∧ t.2 ≤ hi) ∧ (lo ≤ z.1 ∧ z.2 ≤ hi) := by
  obtain ⟨f, t, z, h1, h2, h3, d1, d2, d3, b1, b2, b3, _⟩ := h
  exact ⟨f, t, z, ⟨h1, h2, h3, d1, d2, d3⟩, b1, b2, b3⟩
theorem OwnF.hi {W : World} {f t z : Nat × Nat} {AF AT AZ : Option Addr} {cF cT cZ : Nat} {F T Z : List Int} (h : OwnF W f t z AF cF AT cT AZ cZ F T Z) : f.2 ≤ W.heap.size ∧ t.2 ≤ W.heap.size ∧ z.2 ≤ W.heap.size := ⟨h.1.1, h.2.1.1, h.2.2.1.1⟩
theorem OwnF.within {W W' : World} {f t z : Nat × Nat} {AF AT AZ : Option Addr} {cF cT cZ : Nat} {F T Z : List Int} (h : OwnF W f t z AF cF AT cT AZ cZ F T Z) {lo' hi' : Nat} (hw : Within lo' hi' W W') (h1 : f.2 ≤ lo' ∨ hi' ≤ f.1) (h2 : t.2 ≤ lo' ∨ hi' ≤ t.1) (h3 : z.2 ≤ lo' ∨ hi' ≤ z.1) : OwnF W' f t z AF cF AT cT AZ cZ F T Z :=
  ⟨h.1.within hw h1, h.2.1.within hw h2, h.2.2.1.within hw h3, h.2.2.2⟩
theorem OwnF.below {W W' : World} {f t z : Nat × Nat} {AF AT AZ : Option Addr} {cF cT cZ : Nat} {F T Z : List Int} (h : OwnF W f t z AF cF AT cT AZ cZ F T Z) (hb : Below W.heap.size W W') : OwnF W' f t z AF cF AT cT AZ cZ F T Z :=
  h.within (within_of hb) (.inr (Nat.zero_le _)) (.inr (Nat.zero_le _)) (.inr (Nat.zero_le _))
theorem OwnF.reads {W : World} {f t z : Nat × Nat} {AF AT AZ : Option Addr} {cF cT cZ : Nat} {F T Z : List Int} (h : OwnF W f t z AF cF AT cT AZ cZ F T Z) : Peb3 W 0 W.heap.size AF AT AZ F T Z :=
  ⟨h.1.ints.reads.widen (Nat.zero_le _) h.1.1 (Nat.le_refl _), h.2.1.ints.reads.widen (Nat.zero_le _) h.2.1.1 (Nat.le_refl _), h.2.2.1.ints.reads.widen (Nat.zero_le _) h.2.2.1.1 (Nat.le_refl _)⟩
theorem own_rebase {W : World} {a b g cap n : Nat} {e : TypeId} {size : Nat} {xs : List Value} (h : W.ownsRow a e size (.slice (some ⟨g, 0, none⟩) n cap) n xs) (hb : b ≤ g) : W.ownsRow b e size (.slice (some ⟨g, 0, none⟩) n cap) n xs := by
  refine ⟨h.1, ?_⟩
  rcases h.2 with ⟨e0, _⟩ | ⟨g', c', cur, e1, _, r⟩
  · cases e0
  · cases e1
    exact .inr ⟨g, cap, cur, rfl, hb, r⟩
theorem OwnR.open_ {W : World} {lo hi : Nat} {A : Option Addr} {cap : Nat} {zs : List Int} (h : OwnR W lo hi A cap zs) (hz : 0 < zs.length) : ∃ g, A = some ⟨g, 0, none⟩ ∧ lo ≤ g ∧ g < hi ∧ W.ownsRow 0 3 1 (.slice (some ⟨g, 0, none⟩) zs.length cap) zs.length (intCells zs) := by
  rcases h.2 with ⟨_, _, e⟩ | ⟨g, e, h1, h2, ho⟩
  · rw [e] at hz; exact absurd hz (by simp)
  · exact ⟨g, e, h1, h2, own_rebase ho (Nat.zero_le _)⟩
theorem OwnF.fst {W : World} {f t z : Nat × Nat} {AF AT AZ : Option Addr} {cF cT cZ : Nat} {F T Z : List Int} (h : OwnF W f t z AF cF AT cT AZ cZ F T Z) (hF : 0 < F.length) : ∃ gF, AF = some ⟨gF, 0, none⟩ ∧ f.1 ≤ gF ∧ gF < f.2 := by
  obtain ⟨g, e, h1, h2, _⟩ := h.1.open_ hF
  exact ⟨g, e, h1, h2⟩
theorem OwnF.open_ {W : World} {f t z : Nat × Nat} {AF AT AZ : Option Addr} {cF cT cZ : Nat} {F T Z : List Int} (h : OwnF W f t z AF cF AT cT AZ cZ F T Z) (hF : 0 < F.length) (hT : 0 < T.length) :
    ∃ gF gT, AF = some ⟨gF, 0, none⟩ ∧ AT = some ⟨gT, 0, none⟩ ∧ (f.1 ≤ gF ∧ gF < f.2) ∧ (t.1 ≤ gT ∧ gT < t.2) ∧ St3 W 0 gF cF gT cT AZ cZ z.1 z.2 F T Z := by
  obtain ⟨o1, o2, o3, d1, d2, d3⟩ := h
  obtain ⟨gF, rfl, f1, f2, hf⟩ := o1.open_ hF
  obtain ⟨gT, rfl, t1, t2, ht⟩ := o2.open_ hT
  unfold Dis at d1 d2 d3
  exact ⟨gF, gT, rfl, rfl, ⟨f1, f2⟩, ⟨t1, t2⟩, ⟨hf, ht, o3.ints, Nat.zero_le _, by omega, by omega, by omega⟩⟩
/-- The opened state, closed again; the third row stood. -/
theorem St3.ownF {W : World} {f t z : Nat × Nat} {gF cF gT cT : Nat} {AZ : Option Addr} {cZ z1 z2 : Nat} {F T Z : List Int} (h : St3 W 0 gF cF gT cT AZ cZ z1 z2 F T Z) (hf : f.1 ≤ gF ∧ gF < f.2) (ht : t.1 ≤ gT ∧ gT < t.2) (s1 : f.2 ≤ W.heap.size) (s2 : t.2 ≤ W.heap.size) (hz : OwnR W z.1 z.2 AZ cZ Z) (d1 : Dis f t) (d2 : Dis f z) (d3 : Dis t z) : OwnF W f t z (some ⟨gF, 0, none⟩) cF (some ⟨gT, 0, none⟩) cT AZ cZ F T Z :=
  ⟨⟨s1, .inr ⟨gF, rfl, hf.1, hf.2, own_rebase h.f hf.1⟩⟩, ⟨s2, .inr ⟨gT, rfl, ht.1, ht.2, own_rebase h.t ht.1⟩⟩, hz, d1, d2, d3⟩
theorem below_at {B : Nat} {f t : Nat × Nat} {a b c : World} (h : Below B a b) (k : Within2 f t b c) (hB : B ≤ b.heap.size) (h1 : B ≤ f.1) (h2 : B ≤ t.1) : Below B a c :=
  ⟨k.os.trans h.os, k.tape.trans h.tape, k.output.trans h.output, Nat.le_trans h.size k.size, fun i hi' => (k.block i (by omega) (by omega) (by omega)).trans (h.block i hi')⟩
theorem OwnF.own3 {W : World} {f t z : Nat × Nat} {AF AT AZ : Option Addr} {cF cT cZ : Nat} {F T Z : List Int} (h : OwnF W f t z AF cF AT cT AZ cZ F T Z) {lo hi : Nat} (h1 : lo ≤ f.1 ∧ f.2 ≤ hi) (h2 : lo ≤ t.1 ∧ t.2 ≤ hi) (h3 : lo ≤ z.1 ∧ z.2 ≤ hi) (h4 : hi ≤ W.heap.size) : Own3 W lo hi AF cF AT cT AZ cZ F T Z :=
  ⟨f, t, z, h.1.ints, h.2.1.ints, h.2.2.1.ints, h.2.2.2.1, h.2.2.2.2.1, h.2.2.2.2.2, h1, h2, h3, h4⟩
end Go.Proofs.Ytdkpmaahinbhlaa
/- A state that is copied row by row in whatever order: what stands on the way. No program's walk. No condition. -/
namespace Go.Proofs.Ytdkpmaahinbhlaa
open Go.RowKit

theorem as_fun {R : Nat → Array Bool → Act → World → Prop} {n : Nat} {l : Array Bool} {a : Act} {w : World} (h : ∀ R' : Nat → Array Bool → Act → World → Prop, R' = R → R' n l a w) : R n l a w := h R rfl
theorem as_of {R R' : Nat → Array Bool → Act → World → Prop} (h : R = R') {n : Nat} {l : Array Bool} {a : Act} {w : World} (x : R n l a w) : R' n l a w := h ▸ x
theorem OwnInts.r {W : World} {lo hi : Nat} {A : Option Addr} {cap : Nat} {zs : List Int} (h : OwnInts W lo hi A cap zs) (hz : zs ≠ []) : OwnR W lo hi A cap zs :=
  ⟨h.1, .inr (h.2.resolve_left hz)⟩
theorem ownR_nil (W : World) (lo hi : Nat) (h : hi ≤ W.heap.size) : OwnR W lo hi none 0 [] := ⟨h, .inl ⟨rfl, rfl, rfl⟩⟩
theorem ownR_empty (W : World) : OwnR (W.alloc (.cells #[] 3)) W.heap.size (W.heap.size + 1) (some ⟨W.heap.size, 0, none⟩) 0 [] := by
  have hm := World.ownsRow_made (base := W.heap.size) (e := 3) (size := 1) W #[] 0 (Nat.le_refl _) (by unfold maxLen; omega) (by simp)
  refine ⟨by simp, .inr ⟨W.heap.size, rfl, Nat.le_refl _, Nat.lt_succ_self _, ?_⟩⟩
  simpa [intCells] using hm
/-- Three rows, each in its range from B on. -/
structure CpR (W : World) (B : Nat) (f t z : Nat × Nat) (AF : Option Addr) (cF : Nat) (AT : Option Addr) (cT : Nat) (AZ : Option Addr) (cZ : Nat) (F T Z : List Int) : Prop where
  own : OwnF W f t z AF cF AT cT AZ cZ F T Z
  lf : B ≤ f.1
  lt : B ≤ t.1
  lz : B ≤ z.1
  b : B ≤ W.heap.size
theorem CpR.nil (W : World) (B : Nat) (h : B ≤ W.heap.size) : CpR W B (B, B) (B, B) (B, B) none 0 none 0 none 0 [] [] [] :=
  ⟨⟨ownR_nil W B B h, ownR_nil W B B h, ownR_nil W B B h, .inl (Nat.le_refl _), .inl (Nat.le_refl _), .inl (Nat.le_refl _)⟩, Nat.le_refl _, Nat.le_refl _, Nat.le_refl _, h⟩
theorem CpR.newF {W W' : World} {B : Nat} {f t z f' : Nat × Nat} {AF AT AZ AF' : Option Addr} {cF cT cZ cF' : Nat} {F T Z F' : List Int} (h : CpR W B f t z AF cF AT cT AZ cZ F T Z) (hb : Below W.heap.size W W') (hn : OwnR W' f'.1 f'.2 AF' cF' F') (hl : f' = f ∨ W.heap.size ≤ f'.1) : CpR W' B f' t z AF' cF' AT cT AZ cZ F' T Z := by
  obtain ⟨⟨o1, o2, o3, d1, d2, d3⟩, lf, lt, lz, b⟩ := h
  have q2 := o2.within (within_of hb) (.inr (Nat.zero_le _))
  have q3 := o3.within (within_of hb) (.inr (Nat.zero_le _))
  have s2 := o2.1
  have s3 := o3.1
  have hs := hb.size
  rcases hl with rfl | hl
  · exact ⟨⟨hn, q2, q3, d1, d2, d3⟩, lf, lt, lz, by omega⟩
  · exact ⟨⟨hn, q2, q3, .inr (by omega), .inr (by omega), d3⟩, by omega, lt, lz, by omega⟩
theorem CpR.newT {W W' : World} {B : Nat} {f t z t' : Nat × Nat} {AF AT AZ AT' : Option Addr} {cF cT cZ cT' : Nat} {F T Z T' : List Int} (h : CpR W B f t z AF cF AT cT AZ cZ F T Z) (hb : Below W.heap.size W W') (hn : OwnR W' t'.1 t'.2 AT' cT' T') (hl : t' = t ∨ W.heap.size ≤ t'.1) : CpR W' B f t' z AF cF AT' cT' AZ cZ F T' Z := by
  obtain ⟨⟨o1, o2, o3, d1, d2, d3⟩, lf, lt, lz, b⟩ := h
  have q1 := o1.within (within_of hb) (.inr (Nat.zero_le _))
  have q3 := o3.within (within_of hb) (.inr (Nat.zero_le _))
  have s1 := o1.1
  have s3 := o3.1
  have hs := hb.size
  rcases hl with rfl | hl
  · exact ⟨⟨q1, hn, q3, d1, d2, d3⟩, lf, lt, lz, by omega⟩
  · exact ⟨⟨q1, hn, q3, .inl (by omega), d2, .inr (by omega)⟩, lf, by omega, lz, by omega⟩
theorem CpR.newZ {W W' : World} {B : Nat} {f t z z' : Nat × Nat} {AF AT AZ AZ' : Option Addr} {cF cT cZ cZ' : Nat} {F T Z Z' : List Int} (h : CpR W B f t z AF cF AT cT AZ cZ F T Z) (hb : Below W.heap.size W W') (hn : OwnR W' z'.1 z'.2 AZ' cZ' Z') (hl : z' = z ∨ W.heap.size ≤ z'.1) : CpR W' B f t z' AF cF AT cT AZ' cZ' F T Z' := by
  obtain ⟨⟨o1, o2, o3, d1, d2, d3⟩, lf, lt, lz, b⟩ := h
  have q1 := o1.within (within_of hb) (.inr (Nat.zero_le _))
  have q2 := o2.within (within_of hb) (.inr (Nat.zero_le _))
  have s1 := o1.1
  have s2 := o2.1
  have hs := hb.size
  rcases hl with rfl | hl
  · exact ⟨⟨q1, q2, hn, d1, d2, d3⟩, lf, lt, lz, by omega⟩
  · exact ⟨⟨q1, q2, hn, d1, .inl (by omega), .inl (by omega)⟩, lf, lt, by omega, by omega⟩
theorem OwnF.own3R {W : World} {f t z : Nat × Nat} {AF AT AZ : Option Addr} {cF cT cZ : Nat} {F T Z : List Int} (h : OwnF W f t z AF cF AT cT AZ cZ F T Z) {lo hi : Nat} (h1 : lo ≤ f.1 ∧ f.2 ≤ hi) (h2 : lo ≤ t.1 ∧ t.2 ≤ hi) (h3 : lo ≤ z.1 ∧ z.2 ≤ hi) (h4 : hi ≤ W.heap.size) : Own3R W lo hi AF cF AT cT AZ cZ F T Z :=
  ⟨f, t, z, h.1, h.2.1, h.2.2.1, h.2.2.2.1, h.2.2.2.2.1, h.2.2.2.2.2, h1, h2, h3, h4⟩
/-- An append of a row onto an empty row of the call's own. -/
theorem run_copyR (w : World) (ty : TypeId) (g l h : Nat) (A : Option Addr) (zs : List Int) (cap lo hi : Nat) (hg : OwnR w l h (some ⟨g, 0, none⟩) 0 []) (hz : IntsIn w lo hi A zs) (hn : zs.length ≤ 1048576) :
    ∃ A' c' w', ∃ r : Nat × Nat, (Builtin.append_ #[29, 29] ty #[.slice (some ⟨g, 0, none⟩) 0 0, .slice A zs.length cap]).run Try.prog w = .ok (.slice A' zs.length c') w' ∧ OwnR w' r.1 r.2 A' c' zs ∧ (r = (l, h) ∨ w.heap.size ≤ r.1) ∧ Below w.heap.size w w' := by
  by_cases e : zs = []
  · subst e
    obtain ⟨i0, hi0, hz0, hz1, hz2⟩ := info_parts infoInt
    refine ⟨some ⟨g, 0, none⟩, 0, w, (l, h), ?_, hg, .inl rfl, Below.refl _ _⟩
    cases A <;> simp [Builtin.append_, run_underlying Try.underlying29, sizeOf, typeInfo, hi0, Builtin.lenOf, Builtin.firstCells, loadCells, loadCellsFrom, storeCells]
  · obtain ⟨A', c', w', h1, h2, h3⟩ := run_copyI w ty g A zs cap lo hi hz hn
    exact ⟨A', c', w', (w.heap.size, w'.heap.size), h1, h2.r e, .inr (Nat.le_refl _), h3⟩
theorem step_copyR {w : World} {ops : Array Oper} {o : Oper} {a : Act} {K : Act → World → Prop} {Q : Exit → Act → World → Prop} {E : Prop} (hgd : o.guard = none) (s x : Operand) (ho : o.op = .call { callee := .builtin .append, args := #[s, x], argTypes := #[29, 29] })
    (g l h : Nat) (A : Option Addr) (zs : List Int) (cap lo hi : Nat) (hs : a.eval s = .slice (some ⟨g, 0, none⟩) 0 0) (hx : a.eval x = .slice A zs.length cap) (hg : OwnR w l h (some ⟨g, 0, none⟩) 0 []) (hz : IntsIn w lo hi A zs) (hn : zs.length ≤ 1048576)
    (hK : ∀ A' c' w' (r : Nat × Nat), OwnR w' r.1 r.2 A' c' zs → (r = (l, h) ∨ w.heap.size ≤ r.1) → Below w.heap.size w w' → K (a.put o.dst (.slice A' zs.length c')) w') : if Region.wanted o (yielded ops a.tmps) = true then Oper.wp Try.prog o a w K Q else E := by
  have hw : Region.wanted o (yielded ops a.tmps) = true := by simp [Region.wanted, hgd]
  rw [if_pos hw]
  obtain ⟨A', c', w', r, hr, h2, h3, h4⟩ := run_copyR w o.type g l h A zs cap lo hi hg hz hn
  unfold Oper.wp execOp
  simp only [ho, resolve, invoke, builtin, Sem.run_bind, Sem.run_pure, Result.andThen_ok, List.map_toArray, List.map_cons, List.map_nil, hs, hx, hr]
  exact hK A' c' w' r h2 h3 h4
end Go.Proofs.Ytdkpmaahinbhlaa
/- A row of ints that is collected: its range is the first one, or new; what else was there stands. No program's walk. No condition. -/
namespace Go.Proofs.Ytdkpmaahinbhlaa
open Go.RowKit

structure GrowP (a b : Nat) (V W : World) (ys : List Int) (A : Option Addr) (cap lo hi : Nat) : Prop where
  row : OwnR W lo hi A cap ys
  rng : (lo = a ∧ hi = b) ∨ V.heap.size ≤ lo
  le : lo ≤ W.heap.size
  wi : Within a b V W
theorem GrowP.push {a b : Nat} {V W W' : World} {ys : List Int} {y : Int} {A A' : Option Addr} {cap lo hi c' lo' hi' : Nat} (h : GrowP a b V W ys A cap lo hi) (hr : OwnR W' lo' hi' A' c' (ys ++ [y])) (hd : (lo' = lo ∧ hi' = hi) ∨ (W.heap.size ≤ lo' ∧ lo' ≤ W'.heap.size ∧ hi' ≤ W'.heap.size)) (hw : Within lo hi W W') : GrowP a b V W' (ys ++ [y]) A' c' lo' hi' := by
  obtain ⟨_, h2, h3, h4⟩ := h
  have s1 := h4.size
  have s2 := hw.size
  refine ⟨hr, ?_, ?_, ⟨hw.os.trans h4.os, hw.tape.trans h4.tape, hw.output.trans h4.output, Nat.le_trans s1 s2, fun i hi hd => (hw.block i (by omega) (by omega)).trans (h4.block i hi hd)⟩⟩
  · rcases hd with ⟨rfl, rfl⟩ | hd
    · exact h2
    · exact .inr (by omega)
  · rcases hd with ⟨rfl, rfl⟩ | hd
    · omega
    · exact hd.2.1
theorem GrowP.out {a b : Nat} {V W : World} {ys : List Int} {A : Option Addr} {cap lo hi : Nat} (h : GrowP a b V W ys A cap lo hi) {B : Nat} (h1 : B ≤ a) (h2 : B ≤ V.heap.size) : OwnInts W B W.heap.size A cap ys :=
  h.row.ints.widen (by have := h.rng; omega) h.row.1 (Nat.le_refl _)
end Go.Proofs.Ytdkpmaahinbhlaa
/- An append of one int onto a row of the call's own, in its range. No program's walk. No condition. -/
namespace Go.Proofs.Ytdkpmaahinbhlaa
open Go.RowKit

theorem wpList_pushR (w : World) {ops : Array Oper} {rest : List Oper} {o : Oper} {a : Act} {Q : Exit → Act → World → Prop} (hgd : o.guard = none) (s x : Operand)
    (ho : o.op = .call { callee := .builtin .append, args := #[s, x], argTypes := #[29, 29] }) (lo hi : Nat) (A : Option Addr) (cap : Nat) (zs : List Int) (y : Int) (hs : a.eval s = .slice A zs.length cap) (hr : OwnR w lo hi A cap zs)
    (tb : TypeId) (hx : a.eval x = .slice (some ⟨w.heap.size, 0, none⟩) 1 1) (hn : zs.length ≤ 1048576) (hlo : lo ≤ w.heap.size)
    (h : ∀ A' c' w' lo' hi', OwnR w' lo' hi' A' c' (zs ++ [y]) → ((lo' = lo ∧ hi' = hi) ∨ (w.heap.size ≤ lo' ∧ lo' ≤ w'.heap.size ∧ hi' ≤ w'.heap.size)) → Within lo hi w w' → wpList Try.prog ops Q rest (a.put o.dst (.slice A' (zs.length + 1) c')) w') : wpList Try.prog ops Q (o :: rest) a (w.alloc (.cells #[.int .i64 y] tb)) := by
  have hlen : (zs ++ [y]).length = zs.length + 1 := by simp
  have hcells : intCells (zs ++ [y]) = intCells zs ++ [.int .i64 y] := by simp [intCells]
  refine wpList_at w hgd s x 29 ho lo 3 (.int .i64 0) 1 8 Try.underlying29 infoInt rfl (by decide) _ _ _ hs hr.row #[.int .i64 y] 1 rfl (by simp [Value.oneCell']) tb 1 hx (by omega) (by unfold maxLen; omega) hlo ?_
  intro v' w' hown hg hat _
  obtain ⟨A', c', rfl⟩ := own_shape hown
  rw [show intCells zs ++ (#[Value.int .i64 y] : Array Value).toList = intCells (zs ++ [y]) from hcells.symm, ← hlen] at hown
  rw [← hlen] at hat
  have hw : Within lo hi w w' := ⟨hg.os, hg.tape, hg.output, hg.size, fun k hk hd => hg.block k hk fun e => by
    rcases hr.2 with ⟨rfl, rfl, rfl⟩ | ⟨g, rfl, g1, g2, _⟩
    · cases e
    · have : k = g := by simpa [Value.ownBlock] using e
      omega⟩
  rcases hown.2 with ⟨_, e0⟩ | ⟨g', cap', cur, e1, _⟩
  · rw [hlen] at e0; omega
  · injection e1 with q1 q2 q3
    subst q1
    have hlt := hown.lt g' rfl
    rcases hat with e | e
    · rcases hr.2 with ⟨rfl, rfl, rfl⟩ | ⟨g, rfl, g1, g2, _⟩
      · cases e
      · have : g' = g := by simpa [Value.ownBlock] using e
        subst this
        exact h _ c' w' lo hi ⟨Nat.le_trans hr.1 hg.size, .inr ⟨g', rfl, g1, g2, hown⟩⟩ (.inl ⟨rfl, rfl⟩) hw
    · have : g' = w.heap.size + 1 := by simpa [Value.ownBlock] using e
      exact h _ c' w' g' (g' + 1) ⟨hlt.2, .inr ⟨g', rfl, Nat.le_refl _, by omega, own_rebase hown (Nat.le_refl _)⟩⟩ (.inr ⟨by omega, by omega, hlt.2⟩) hw
/-- What lay under a bound stands: as a range from it on. -/
theorem within_low {B : Nat} {w w' : World} (h : Below B w w') : Within B w.heap.size w w' := ⟨h.os, h.tape, h.output, h.size, fun k _ hd => h.block k (by omega)⟩
theorem below_low {B lo hi : Nat} {w w' : World} (h : Within lo hi w w') (hB : B ≤ lo) (hw : B ≤ w.heap.size) : Below B w w' := ⟨h.os, h.tape, h.output, h.size, fun k hk => h.block k (by omega) (by omega)⟩
theorem below_low2 {B : Nat} {f t : Nat × Nat} {w w' : World} (h : Within2 f t w w') (h1 : B ≤ f.1) (h2 : B ≤ t.1) (hw : B ≤ w.heap.size) : Below B w w' := ⟨h.os, h.tape, h.output, h.size, fun k hk => h.block k (by omega) (by omega) (by omega)⟩
/-- What placing a bar answers, and what it makes of the state in the box pb. -/
def PlaceP (w : World) (B pb : Nat) (f t z : Nat × Nat) (AF : Option Addr) (cF : Nat) (AT : Option Addr) (cT : Nat) (AZ : Option Addr) (cZ : Nat) (l : List (Int × Int)) (c : Int) (F T Z : List Int) (n : Int) (e : Ending) (w' : World) : Prop :=
  Below B w w' ∧ ((e = .returned (.bool false) ∧ plaR l c F T Z n = none ∧ OwnF w' f t z AF cF AT cT AZ cZ F T Z ∧ Cel3 w' pb 31 (.slice AF F.length cF) (.slice AT T.length cT) (.slice AZ Z.length cZ)) ∨
    ∃ (s : List Int × List Int × List Int) (AT' : Option Addr) (cT' : Nat) (AZ' : Option Addr) (cZ' : Nat) (t' z' : Nat × Nat), e = .returned (.bool true) ∧ plaR l c F T Z n = some s ∧ OwnF w' f t' z' AF cF AT' cT' AZ' cZ' s.1 s.2.1 s.2.2 ∧ Cel3 w' pb 31 (.slice AF s.1.length cF) (.slice AT' s.2.1.length cT') (.slice AZ' s.2.2.length cZ') ∧
      (t' = t ∨ (w.heap.size ≤ t'.1 ∧ t'.1 ≤ w'.heap.size)) ∧ (z' = z ∨ (w.heap.size ≤ z'.1 ∧ z'.1 ≤ w'.heap.size)))
end Go.Proofs.Ytdkpmaahinbhlaa
/- Rows of rows of ints: how they are read and compared. No condition. -/
namespace Go.Proofs.Ytdkpmaahinbhlaa
open Go.RowKit

/-- The slice at A reads as the rows rs; it and its rows lie in blocks from lo to hi. -/
def RowsIn (W : World) (lo hi : Nat) (A : Option Addr) (rs : List (List Int)) : Prop :=
  hi ≤ W.heap.size ∧ (0 < rs.length → ∃ b off, A = some ⟨b, off, none⟩ ∧ lo ≤ b ∧ b < hi ∧ ∀ k, k < rs.length → ∃ A' c', W.cell? ⟨b, off + k, none⟩ = some (.slice A' (rs.getD k []).length c') ∧ IntsIn W lo hi A' (rs.getD k []))
theorem RowsIn.within {W W' : World} {lo hi lo' hi' : Nat} {A : Option Addr} {rs : List (List Int)} (h : RowsIn W lo hi A rs) (hw : Within lo' hi' W W') (hd : hi ≤ lo' ∨ hi' ≤ lo) : RowsIn W' lo hi A rs :=
  ⟨Nat.le_trans h.1 hw.size, fun hl => by
    obtain ⟨b, off, e, h1, h2, hc⟩ := h.2 hl
    have hk := hw.block b (Nat.lt_of_lt_of_le h2 h.1) (by omega)
    refine ⟨b, off, e, h1, h2, fun k hk' => ?_⟩
    obtain ⟨A', c', h3, h4⟩ := hc k hk'
    exact ⟨A', c', (World.cell?_of_block (a := ⟨b, off + k, none⟩) hk).trans h3, h4.within hw hd⟩⟩

set_option maxHeartbeats 2000000 in
set_option maxRecDepth 100000 in
theorem eqRows_c (rs : List (List Int)) (A A' : Option Addr) (cap cap' lo hi lo' hi' : Nat) (w : World) (hl : RowsIn w lo hi A rs) (hl' : RowsIn w lo' hi' A' rs) (hn : rs.length ≤ 1048576) (hr : ∀ k, k < rs.length → (rs.getD k []).length ≤ 1048576) :
    Calls Try.prog 90 #[.slice A rs.length cap, .slice A' rs.length cap'] w fun e w' => e = .returned (.bool true) ∧ Below w.heap.size w w' := by
  have HL := Lib.hid hl
  have HL' := Lib.hid hl'
  have HR := Lib.hid hr
  clear hl hl' hr
  go_enter Try.func90, Try.ntmps90
  go_wp2_with fail
  go_loopw [5] (fun i wr => ∃ k : Nat, k ≤ rs.length ∧ i = .int .i64 k ∧ Below w.heap.size w wr) (fun i _ => rs.length - (intOf i).toNat)
  case atStart => exact ⟨0, by omega, rfl, Below.refl _ _⟩
  case round =>
    obtain ⟨k, hk, rfl, hb⟩ := hrel
    have HB := Lib.hid hb
    have HQ := Lib.hid (HL.out.within (within_low hb) (.inl HL.out.1))
    have HQ' := Lib.hid (HL'.out.within (within_low hb) (.inl HL'.out.1))
    have HWS := Lib.hid hb.size
    clear hb
    by_cases hlt : k < rs.length
    · have hi : (k : Int) < (rs.length : Int) := by omega
      obtain ⟨b, off, rfl, _, _, hcell⟩ := HQ.out.2 (by omega)
      obtain ⟨b', off', rfl, _, _, hcell'⟩ := HQ'.out.2 (by omega)
      obtain ⟨A1, c1, hc1, hi1⟩ := hcell k hlt
      obtain ⟨A2, c2, hc2, hi2⟩ := hcell' k hlt
      have hz := HR.out k hlt
      clear hcell hcell'
      obtain ⟨zs, hzs⟩ : ∃ zs, rs.getD k [] = zs := ⟨_, rfl⟩
      rw [hzs] at hc1 hc2 hi1 hi2 hz
      clear hzs
      have HI1 := Lib.hid hi1
      have HI2 := Lib.hid hi2
      clear hi1 hi2
      go_wp2_with fail
      refine wp_region_held_drew (S := (fun W' : World => W'.cell? ⟨b, off + k, none⟩ = some (.slice A1 zs.length c1) ∧ W'.cell? ⟨b', off' + k, none⟩ = some (.slice A2 zs.length c2))) (by kernel_rfl) ?_ (fun hHeld => ?_)
      · exact ⟨hc1, hc2⟩
      have HD := Lib.hid (show Below wr.heap.size wr wr.drew from (Below.refl _ _).drew)
      have HDS := Lib.hid HD.out.size
      generalize wr.drew = WD at *
      refine wpAnyH_take (i := 0) (v := .slice (some ⟨b, off, none⟩) rs.length cap) rfl (by kernel_rfl) (by kernel_rfl) (by kernel_rfl) (fun _ _ _ h => h) (Or.inl ⟨by kernel_rfl, fun w hSw => by (try dsimp only at hSw); go_simp; all_goals first | omega | exact IntWalk.i64_in _ (by omega)⟩) (by assumption) ?_
      refine wpAnyH_take (i := 1) (v := .int .i64 (k : Int)) rfl (by kernel_rfl) (by kernel_rfl) (by kernel_rfl) (fun _ _ _ h => h) (Or.inl ⟨by kernel_rfl, fun w hSw => by (try dsimp only at hSw); go_simp; all_goals first | omega | exact IntWalk.i64_in _ (by omega)⟩) (by assumption) ?_
      refine wpAnyH_take (i := 2) (v := .pointer (some ⟨b, off + k, none⟩)) rfl (by kernel_rfl) (by kernel_rfl) (by kernel_rfl) (fun _ _ _ h => h) (Or.inl ⟨by kernel_rfl, fun w hSw => by (try dsimp only at hSw); go_simp; all_goals first | omega | exact IntWalk.i64_in _ (by omega)⟩) (by assumption) ?_
      refine wpAnyH_take (i := 3) (v := .slice A1 zs.length c1) rfl (by kernel_rfl) (by kernel_rfl) (by kernel_rfl) (fun _ _ _ h => h) (Or.inl ⟨by kernel_rfl, fun w hSw => by (try dsimp only at hSw); go_simp; all_goals first | omega | exact IntWalk.i64_in _ (by omega)⟩) (by assumption) ?_
      refine wpAnyH_take (i := 4) (v := .slice (some ⟨b', off', none⟩) rs.length cap') rfl (by kernel_rfl) (by kernel_rfl) (by kernel_rfl) (fun _ _ _ h => h) (Or.inl ⟨by kernel_rfl, fun w hSw => by (try dsimp only at hSw); go_simp; all_goals first | omega | exact IntWalk.i64_in _ (by omega)⟩) (by assumption) ?_
      refine wpAnyH_take (i := 5) (v := .int .i64 (k : Int)) rfl (by kernel_rfl) (by kernel_rfl) (by kernel_rfl) (fun _ _ _ h => h) (Or.inl ⟨by kernel_rfl, fun w hSw => by (try dsimp only at hSw); go_simp; all_goals first | omega | exact IntWalk.i64_in _ (by omega)⟩) (by assumption) ?_
      refine wpAnyH_take (i := 6) (v := .pointer (some ⟨b', off' + k, none⟩)) rfl (by kernel_rfl) (by kernel_rfl) (by kernel_rfl) (fun _ _ _ h => h) (Or.inl ⟨by kernel_rfl, fun w hSw => by (try dsimp only at hSw); go_simp; all_goals first | omega | exact IntWalk.i64_in _ (by omega)⟩) (by assumption) ?_
      refine wpAnyH_take (i := 7) (v := .slice A2 zs.length c2) rfl (by kernel_rfl) (by kernel_rfl) (by kernel_rfl) (fun _ _ _ h => h) (Or.inl ⟨by kernel_rfl, fun w hSw => by (try dsimp only at hSw); go_simp; all_goals first | omega | exact IntWalk.i64_in _ (by omega)⟩) (by assumption) ?_
      refine wpAnyH_ready (rs := [8]) (by kernel_rfl) (by simp) (AllReadyH.cons rfl (fun K hK => ?_) AllReadyH.nil)
      go_simp
      go_at_call 178
      refine (eqInts_c zs A1 A2 c1 c2 _ _ _ _ _ (HI1.out.within (within_of HD.out) (.inr (Nat.zero_le _))) (HI2.out.within (within_of HD.out) (.inr (Nat.zero_le _))) hz).mono ?_
      rintro e w9 ⟨rfl, hb9⟩
      have HB9 := Lib.hid hb9
      refine hK.out _ _ ⟨(World.cell?_of_block (hb9.block b (by have := HQ.out.1; have := HDS.out; omega))).trans hHeld.1, (World.cell?_of_block (hb9.block b' (by have := HQ'.out.1; have := HDS.out; omega))).trans hHeld.2⟩ (fun hHeld => ?_)
      clear hK K hb9
      refine wpAnyH_take (i := 9) (v := .bool false) rfl (by kernel_rfl) (by kernel_rfl) (by kernel_rfl) (fun _ _ _ h => h) (Or.inl ⟨by kernel_rfl, fun w hSw => by (try dsimp only at hSw); go_simp; all_goals first | omega | exact IntWalk.i64_in _ (by omega)⟩) (by assumption) ?_
      refine wpAnyH_done (by kernel_rfl) ?_ _
      go_wp2_with fail
      go_roundw
      case rel => exact ⟨k + 1, by omega, by go_num, below_on HB.out (below_on HD.out HB9.out HDS.out) HWS.out⟩
      case measure => simp [intOf]; omega
    · go_wp2_with fail
      go_ret
      exact ⟨rfl, HB.out⟩
end Go.Proofs.Ytdkpmaahinbhlaa
/- Rows of rows of the call's own: the laws' marks in them (laws.markIntSS, heldIntSS). No condition. -/
namespace Go.Proofs.Ytdkpmaahinbhlaa
open Go.RowKit

/-- The rows rs of the call's own: their row lies in a block from lo to hi, each of them in a range of its own. -/
def RowsOwn (W : World) (lo hi : Nat) (A : Option Addr) (rs : List (List Int)) : Prop :=
  hi ≤ W.heap.size ∧ (0 < rs.length → ∃ (g : Nat) (r : Nat → Nat × Nat) (S : Nat → Option Addr × Nat), A = some ⟨g, 0, none⟩ ∧ lo ≤ g ∧ g < hi ∧ (∀ j k, j < k → k < rs.length → Dis (r j) (r k)) ∧
    ∀ k, k < rs.length → W.cell? ⟨g, k, none⟩ = some (.slice (S k).1 (rs.getD k []).length (S k).2) ∧ OwnInts W (r k).1 (r k).2 (S k).1 (S k).2 (rs.getD k []) ∧ lo ≤ (r k).1 ∧ (r k).2 ≤ hi ∧ (g < (r k).1 ∨ (r k).2 ≤ g))
theorem RowsOwn.within {W W' : World} {lo hi lo' hi' : Nat} {A : Option Addr} {rs : List (List Int)} (h : RowsOwn W lo hi A rs) (hw : Within lo' hi' W W') (hd : hi ≤ lo' ∨ hi' ≤ lo) : RowsOwn W' lo hi A rs :=
  ⟨Nat.le_trans h.1 hw.size, fun hl => by
    obtain ⟨g, r, S, e, h1, h2, hdis, hc⟩ := h.2 hl
    have hk := hw.block g (Nat.lt_of_lt_of_le h2 h.1) (by omega)
    refine ⟨g, r, S, e, h1, h2, hdis, fun k hk' => ?_⟩
    obtain ⟨c1, c2, c3, c4, c5⟩ := hc k hk'
    exact ⟨(World.cell?_of_block (a := ⟨g, k, none⟩) hk).trans c1, c2.within hw (by omega), c3, c4, c5⟩⟩
theorem RowsOwn.reads {W : World} {lo hi : Nat} {A : Option Addr} {rs : List (List Int)} (h : RowsOwn W lo hi A rs) : RowsIn W lo hi A rs :=
  ⟨h.1, fun hl => by
    obtain ⟨g, r, S, e, h1, h2, _, hc⟩ := h.2 hl
    refine ⟨g, 0, e, h1, h2, fun k hk => ?_⟩
    obtain ⟨c1, c2, c3, c4, _⟩ := hc k hk
    exact ⟨(S k).1, (S k).2, by rw [Nat.zero_add]; exact c1, c2.reads.widen c3 c4 h.1⟩⟩

/-- The number of ints in the first n rows. -/
def tot (rs : List (List Int)) : Nat → Nat
  | 0 => 0
  | n + 1 => tot rs n + (rs.getD n []).length
theorem tot_le (rs : List (List Int)) {j n : Nat} (h : j ≤ n) : tot rs j ≤ tot rs n := by
  induction n with
  | zero =>
    obtain rfl : j = 0 := by omega
    exact Nat.le_refl _
  | succ n ih =>
    by_cases e : j = n + 1
    · subst e; exact Nat.le_refl _
    · have := ih (by omega)
      rw [tot]; omega
theorem tot_bound (rs : List (List Int)) (m n : Nat) (h : ∀ k, k < n → (rs.getD k []).length ≤ m) : tot rs n ≤ n * m := by
  induction n with
  | zero => simp [tot]
  | succ n ih =>
    have h1 := ih fun k hk => h k (by omega)
    have h2 := h n (by omega)
    rw [tot, Nat.add_mul]
    omega
/-- The rows that the marks from k on make. -/
def marksR (k : Int) (rs : List (List Int)) : List (List Int) := (List.range rs.length).map fun j => marksI (k + (tot rs j : Int)) (rs.getD j []).length
theorem marksR_len (k : Int) (rs : List (List Int)) : (marksR k rs).length = rs.length := by simp [marksR]
theorem marksR_get (k : Int) (rs : List (List Int)) (j : Nat) (h : j < rs.length) : (marksR k rs).getD j [] = marksI (k + (tot rs j : Int)) (rs.getD j []).length := by simp [marksR, List.getD, h]
/-- The row j while the first n rows are marked. -/
def stg (k : Int) (rs : List (List Int)) (n j : Nat) : List Int := if j < n then marksI (k + (tot rs j : Int)) (rs.getD j []).length else rs.getD j []
theorem stg_len (k : Int) (rs : List (List Int)) (n j : Nat) : (stg k rs n j).length = (rs.getD j []).length := by
  unfold stg
  split
  · rw [marksI_len]
  · rfl
theorem stg_now (k : Int) (rs : List (List Int)) (n : Nat) : stg k rs n n = rs.getD n [] := by unfold stg; rw [if_neg (by omega)]
theorem stg_next (k : Int) (rs : List (List Int)) (n : Nat) : stg k rs (n + 1) n = marksI (k + (tot rs n : Int)) (rs.getD n []).length := by unfold stg; rw [if_pos (by omega)]
theorem stg_else (k : Int) (rs : List (List Int)) (n j : Nat) (h : j ≠ n) : stg k rs (n + 1) j = stg k rs n j := by
  unfold stg
  by_cases e : j < n
  · rw [if_pos e, if_pos (by omega)]
  · rw [if_neg e, if_neg (by omega)]
/-- The rows while the first n of them are marked. -/
def MarkSt (W : World) (lo hi g : Nat) (r : Nat → Nat × Nat) (S : Nat → Option Addr × Nat) (k0 : Int) (rs : List (List Int)) (n : Nat) : Prop :=
  hi ≤ W.heap.size ∧ ∀ k, k < rs.length → W.cell? ⟨g, k, none⟩ = some (.slice (S k).1 (rs.getD k []).length (S k).2) ∧ OwnInts W (r k).1 (r k).2 (S k).1 (S k).2 (stg k0 rs n k) ∧ lo ≤ (r k).1 ∧ (r k).2 ≤ hi ∧ (g < (r k).1 ∨ (r k).2 ≤ g)
theorem MarkSt.below {W W' : World} {lo hi g : Nat} {r : Nat → Nat × Nat} {S : Nat → Option Addr × Nat} {k0 : Int} {rs : List (List Int)} {n : Nat} (h : MarkSt W lo hi g r S k0 rs n) (hg : g < hi) (hb : Below W.heap.size W W') : MarkSt W' lo hi g r S k0 rs n :=
  ⟨Nat.le_trans h.1 hb.size, fun k hk => by
    obtain ⟨c1, c2, c3, c4, c5⟩ := h.2 k hk
    have := h.1
    exact ⟨(hb.cell (p := ⟨g, k, none⟩) (show g < W.heap.size by omega)).trans c1, c2.within (within_of hb) (.inr (Nat.zero_le _)), c3, c4, c5⟩⟩
theorem MarkSt.next {W W' : World} {lo hi g : Nat} {r : Nat → Nat × Nat} {S : Nat → Option Addr × Nat} {k0 : Int} {rs : List (List Int)} {n : Nat} (h : MarkSt W lo hi g r S k0 rs n) (hg : g < hi) (hn : n < rs.length) (hd : ∀ j k, j < k → k < rs.length → Dis (r j) (r k))
    (hw : Within (r n).1 (r n).2 W W') (ho : OwnInts W' (r n).1 (r n).2 (S n).1 (S n).2 (marksI (k0 + (tot rs n : Int)) (rs.getD n []).length)) : MarkSt W' lo hi g r S k0 rs (n + 1) :=
  ⟨Nat.le_trans h.1 hw.size, fun k hk => by
    obtain ⟨c1, c2, c3, c4, c5⟩ := h.2 k hk
    obtain ⟨_, _, _, _, d5⟩ := h.2 n hn
    have := h.1
    refine ⟨(World.cell?_of_block (a := ⟨g, k, none⟩) (hw.block g (by omega) (by omega))).trans c1, ?_, c3, c4, c5⟩
    by_cases e : k = n
    · subst e
      rw [stg_next]
      exact ho
    · rw [stg_else _ _ _ _ e]
      refine c2.within hw ?_
      rcases Nat.lt_or_gt_of_ne e with e1 | e1
      · exact hd k n e1 hn
      · exact (hd n k e1 hk).symm⟩

set_option maxHeartbeats 2000000 in
set_option maxRecDepth 100000 in
theorem markRows_c (rs : List (List Int)) (A : Option Addr) (cap lo hi : Nat) (k0 : Int) (w : World) (h : RowsOwn w lo hi A rs) (hn : rs.length ≤ 1048576) (hr : ∀ k, k < rs.length → (rs.getD k []).length ≤ 1048576) (hk0 : 0 ≤ k0) (hk1 : k0 + (tot rs rs.length : Int) ≤ 10000000) :
    Calls Try.prog 93 #[.slice A rs.length cap, .int .i64 k0] w fun e w' => e = .returned (.int .i64 (k0 + (tot rs rs.length : Int))) ∧ Within lo hi w w' ∧ RowsOwn w' lo hi A (marksR k0 rs) := by
  by_cases h0 : rs.length = 0
  · have hs := h.1
    have ht : tot rs rs.length = 0 := by rw [h0]; rfl
    rw [ht]
    rw [h0]
    go_enter Try.func93, Try.ntmps93
    go_wp2_with fail
    refine wp_loop_rounds 1 ?_
    rw [rounds_succ]
    go_wp2_with fail
    go_ret
    exact ⟨by simp, Within.refl _ _ _, hs, fun hl => by rw [marksR_len] at hl; omega⟩
  · obtain ⟨g, r, S, rfl, h1, h2, hd, hc⟩ := h.2 (by omega)
    have HD := Lib.hid hd
    have HR := Lib.hid hr
    have HM := Lib.hid (show MarkSt w lo hi g r S k0 rs 0 from ⟨h.1, fun k hk => by
      have := hc k hk
      unfold stg
      rw [if_neg (by omega)]
      exact this⟩)
    clear hd hr hc h
    go_enter Try.func93, Try.ntmps93
    go_wp2_with fail
    go_loopw [1, 5] (fun m i wr => ∃ j : Nat, j ≤ rs.length ∧ i = .int .i64 j ∧ m = .int .i64 (k0 + (tot rs j : Int)) ∧ MarkSt wr lo hi g r S k0 rs j ∧ Within lo hi w wr) (fun _ i _ => rs.length - (intOf i).toNat)
    case atStart => exact ⟨0, by omega, rfl, by simp [tot], HM.out, Within.refl _ _ _⟩
    case round =>
      obtain ⟨j, hj, rfl, rfl, hm, hw⟩ := hrel
      have HW := Lib.hid hw
      have HM := Lib.hid hm
      clear hm hw
      by_cases hlt : j < rs.length
      · have hij : (j : Int) < (rs.length : Int) := by omega
        obtain ⟨c1, c2, c3, c4, c5⟩ := HM.out.2 j hlt
        rw [stg_now] at c2
        have hz := HR.out j hlt
        have ht := tot_le rs (j := j + 1) (n := rs.length) (by omega)
        have hs : tot rs (j + 1) = tot rs j + (rs.getD j []).length := rfl
        obtain ⟨zs, hzs⟩ : ∃ zs, rs.getD j [] = zs := ⟨_, rfl⟩
        rw [hzs] at c1 c2 hz hs
        have HZS := Lib.hid hzs
        have HO := Lib.hid c2
        have HS := Lib.hid hs
        have HQ := Lib.hid (And.intro c3 c4)
        clear c2 hzs hs c3 c4 c5
        obtain ⟨⟨A', cp⟩, hS⟩ : ∃ s, S j = s := ⟨_, rfl⟩
        rw [hS] at c1 HO
        have HSJ := Lib.hid hS
        clear hS
        go_wp2_with fail
        refine (markInts_o A' cp zs (k0 + (tot rs j : Int)) (r j).1 (r j).2 _ HO.out hz (by omega) (by have := HS.out; omega)).mono ?_
        rintro e w3 ⟨rfl, hw3, ho3⟩
        have HM3 := Lib.hid (HM.out.next h2 hlt HD.out hw3 (by rw [HZS.out, HSJ.out]; exact ho3))
        have HW3 := Lib.hid (show Within lo hi w w3 from ⟨hw3.os.trans HW.out.os, hw3.tape.trans HW.out.tape, hw3.output.trans HW.out.output, Nat.le_trans HW.out.size hw3.size, fun i hi' hd' => (hw3.block i (Nat.lt_of_lt_of_le hi' HW.out.size) (by have := HQ.out; omega)).trans (HW.out.block i hi' hd')⟩)
        have hnx : k0 + (tot rs j : Int) + (zs.length : Int) = k0 + (tot rs (j + 1) : Int) := by rw [HS.out]; omega
        clear hw3 ho3
        rw [hnx]
        go_wp2_with fail
        go_roundw
        case rel => exact ⟨j + 1, by omega, by go_num, rfl, HM3.out, HW3.out⟩
        case measure => simp [intOf]; omega
      · obtain rfl : j = rs.length := by omega
        go_wp2_with fail
        go_ret
        refine ⟨rfl, HW.out, HM.out.1, fun _ => ⟨g, r, S, rfl, h1, h2, fun j k hjk hk => HD.out j k hjk (by rw [marksR_len] at hk; exact hk), fun k hk => ?_⟩⟩
        rw [marksR_len] at hk
        obtain ⟨c1, c2, c3, c4, c5⟩ := HM.out.2 k hk
        rw [marksR_get _ _ _ hk, marksI_len]
        unfold stg at c2
        rw [if_pos hk] at c2
        exact ⟨c1, c2, c3, c4, c5⟩

set_option maxHeartbeats 2000000 in
set_option maxRecDepth 100000 in
theorem heldRows_c (rs : List (List Int)) (A : Option Addr) (cap lo hi : Nat) (k0 : Int) (w : World) (h : RowsIn w lo hi A (marksR k0 rs)) (hn : rs.length ≤ 1048576) (hr : ∀ k, k < rs.length → (rs.getD k []).length ≤ 1048576) (hk0 : 0 ≤ k0) (hk1 : k0 + (tot rs rs.length : Int) ≤ 10000000) :
    Calls Try.prog 94 #[.slice A rs.length cap, .int .i64 k0] w fun e w' => e = .returned (.int .i64 (k0 + (tot rs rs.length : Int))) ∧ Below w.heap.size w w' := by
  have HL := Lib.hid h
  have HR := Lib.hid hr
  clear h hr
  go_enter Try.func94, Try.ntmps94
  go_wp2_with fail
  go_loopw [1, 5] (fun m i wr => ∃ j : Nat, j ≤ rs.length ∧ i = .int .i64 j ∧ m = .int .i64 (k0 + (tot rs j : Int)) ∧ Below w.heap.size w wr) (fun _ i _ => rs.length - (intOf i).toNat)
  case atStart => exact ⟨0, by omega, rfl, by simp [tot], Below.refl _ _⟩
  case round =>
    obtain ⟨j, hj, rfl, rfl, hb⟩ := hrel
    have HQ := Lib.hid (HL.out.within (within_low hb) (.inl HL.out.1))
    have HB := Lib.hid hb
    clear hb
    by_cases hlt : j < rs.length
    · have hi : (j : Int) < (rs.length : Int) := by omega
      obtain ⟨b, off, rfl, _, _, hcell⟩ := HQ.out.2 (by rw [marksR_len]; omega)
      obtain ⟨A1, c1, hc1, hi1⟩ := hcell j (by rw [marksR_len]; exact hlt)
      rw [marksR_get _ _ _ hlt] at hc1 hi1
      rw [marksI_len] at hc1
      have hz := HR.out j hlt
      have ht := tot_le rs (j := j + 1) (n := rs.length) (by omega)
      have hs : tot rs (j + 1) = tot rs j + (rs.getD j []).length := rfl
      obtain ⟨m, hm⟩ : ∃ m, (rs.getD j []).length = m := ⟨_, rfl⟩
      rw [hm] at hc1 hi1 hz hs
      have HI1 := Lib.hid hi1
      have HS := Lib.hid hs
      clear hcell hi1 hm hs
      go_wp2_with fail
      refine (heldInts_c m A1 c1 (k0 + (tot rs j : Int)) _ _ _ HI1.out hz (by omega) (by have := HS.out; omega)).mono ?_
      rintro e w3 ⟨rfl, hb3⟩
      have HB3 := Lib.hid (below_on HB.out hb3 HB.out.size)
      have hnx : k0 + (tot rs j : Int) + (m : Int) = k0 + (tot rs (j + 1) : Int) := by rw [HS.out]; omega
      clear hb3
      rw [hnx]
      have hnn : ¬ k0 + (tot rs (j + 1) : Int) < 0 := by omega
      go_wp2_with fail
      go_roundw
      case rel => exact ⟨j + 1, by omega, by go_num, rfl, HB3.out⟩
      case measure => simp [intOf]; omega
    · obtain rfl : j = rs.length := by omega
      go_wp2_with fail
      go_ret
      exact ⟨rfl, HB.out⟩
end Go.Proofs.Ytdkpmaahinbhlaa
/- Rows of slices of the call's own: what an append onto them asks and does. No condition. -/
namespace Go.Proofs.Ytdkpmaahinbhlaa
open Go.RowKit

/-- A row of slices of the call's own in a block from lo to hi, or no block; an empty one too can be appended to. -/
def OwnS (W : World) (lo hi : Nat) (A : Option Addr) (cap : Nat) (zs : List Value) : Prop :=
  hi ≤ W.heap.size ∧ ((A = none ∧ cap = 0 ∧ zs = []) ∨ ∃ g, A = some ⟨g, 0, none⟩ ∧ lo ≤ g ∧ g < hi ∧ W.ownsRow lo 29 1 (.slice (some ⟨g, 0, none⟩) zs.length cap) zs.length zs)
theorem OwnS.within {W W' : World} {lo hi lo' hi' : Nat} {A : Option Addr} {cap : Nat} {zs : List Value} (h : OwnS W lo hi A cap zs) (hw : Within lo' hi' W W') (hd : hi ≤ lo' ∨ hi' ≤ lo) : OwnS W' lo hi A cap zs :=
  ⟨Nat.le_trans h.1 hw.size, by
    rcases h.2 with h2 | ⟨g, e, h1, h2, ho⟩
    · exact .inl h2
    · exact .inr ⟨g, e, h1, h2, own_block ho (hw.block g (Nat.lt_of_lt_of_le h2 h.1) (by omega))⟩⟩
/-- What an append onto the row asks. -/
theorem OwnS.row {W : World} {lo hi : Nat} {A : Option Addr} {cap : Nat} {zs : List Value} (h : OwnS W lo hi A cap zs) : W.ownsRow lo 29 1 (.slice A zs.length cap) zs.length zs := by
  rcases h.2 with ⟨rfl, rfl, rfl⟩ | ⟨g, rfl, _, _, ho⟩
  · exact ⟨rfl, .inl ⟨rfl, rfl⟩⟩
  · exact ho
theorem own_s {w' : World} {base : Nat} {A : Option Addr} {cap : Nat} {zs : List Value} (h : w'.ownsRow base 29 1 (.slice A zs.length cap) zs.length zs) : OwnS w' base w'.heap.size A cap zs := by
  rcases h.2 with ⟨h1, h0⟩ | ⟨g, cap', cur, h1, h2⟩
  · injection h1 with e1 e2 e3
    exact ⟨Nat.le_refl _, .inl ⟨e1, e3, List.eq_nil_of_length_eq_zero h0⟩⟩
  · cases h1
    exact ⟨Nat.le_refl _, .inr ⟨g, rfl, (h.lt g rfl).1, (h.lt g rfl).2, h⟩⟩
theorem infoInts : (Try.prog.info? 29).map (fun i => (i.zero, i.size, i.bytes)) = some (some (.slice none 0 0), 1, 24) := by kernel_rfl
theorem wpList_pushS (w : World) {ops : Array Oper} {rest : List Oper} {o : Oper} {a : Act} {Q : Exit → Act → World → Prop} (hgd : o.guard = none) (s x : Operand)
    (ho : o.op = .call { callee := .builtin .append, args := #[s, x], argTypes := #[63, 63] }) (lo hi : Nat) (A : Option Addr) (cap : Nat) (zs : List Value) (y : Value) (hy : y.oneCell' = true) (hs : a.eval s = .slice A zs.length cap) (hr : OwnS w lo hi A cap zs)
    (tb : TypeId) (hx : a.eval x = .slice (some ⟨w.heap.size, 0, none⟩) 1 1) (hn : zs.length ≤ 1048576) (hlo : lo ≤ w.heap.size)
    (h : ∀ A' c' w' lo' hi', OwnS w' lo' hi' A' c' (zs ++ [y]) → ((lo' = lo ∧ hi' = hi) ∨ (w.heap.size ≤ lo' ∧ lo' ≤ w'.heap.size ∧ hi' ≤ w'.heap.size)) → Within lo hi w w' → wpList Try.prog ops Q rest (a.put o.dst (.slice A' (zs.length + 1) c')) w') : wpList Try.prog ops Q (o :: rest) a (w.alloc (.cells #[y] tb)) := by
  have hlen : (zs ++ [y]).length = zs.length + 1 := by simp
  refine wpList_at w hgd s x 63 ho lo 29 (.slice none 0 0) 1 24 Try.underlying63 infoInts rfl (by decide) _ _ _ hs hr.row #[y] 1 rfl (by intro u hu; simp at hu; subst hu; exact hy) tb 1 hx (by omega) (by unfold maxLen; omega) hlo ?_
  intro v' w' hown hg hat _
  obtain ⟨A', c', rfl⟩ := own_shape hown
  rw [show zs ++ (#[y] : Array Value).toList = zs ++ [y] from rfl, ← hlen] at hown
  rw [← hlen] at hat
  have hw : Within lo hi w w' := ⟨hg.os, hg.tape, hg.output, hg.size, fun k hk hd => hg.block k hk fun e => by
    rcases hr.2 with ⟨rfl, rfl, rfl⟩ | ⟨g, rfl, g1, g2, _⟩
    · cases e
    · have : k = g := by simpa [Value.ownBlock] using e
      omega⟩
  rcases hown.2 with ⟨_, e0⟩ | ⟨g', cap', cur, e1, _⟩
  · rw [hlen] at e0; omega
  · injection e1 with q1 q2 q3
    subst q1
    have hlt := hown.lt g' rfl
    rcases hat with e | e
    · rcases hr.2 with ⟨rfl, rfl, rfl⟩ | ⟨g, rfl, g1, g2, _⟩
      · cases e
      · have : g' = g := by simpa [Value.ownBlock] using e
        subst this
        exact h _ c' w' lo hi ⟨Nat.le_trans hr.1 hg.size, .inr ⟨g', rfl, g1, g2, hown⟩⟩ (.inl ⟨rfl, rfl⟩) hw
    · have : g' = w.heap.size + 1 := by simpa [Value.ownBlock] using e
      exact h _ c' w' g' (g' + 1) ⟨hlt.2, .inr ⟨g', rfl, Nat.le_refl _, by omega, own_rebase hown (Nat.le_refl _)⟩⟩ (.inr ⟨by omega, by omega, hlt.2⟩) hw
end Go.Proofs.Ytdkpmaahinbhlaa
