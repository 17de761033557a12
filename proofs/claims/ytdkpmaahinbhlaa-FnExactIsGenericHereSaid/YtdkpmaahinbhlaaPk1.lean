/- Several texts in one, in the order in which they build on each other: what stands on the way to the laws; each names its own matter. No condition. -/
import Derived.Test.YtdkpmaahinbhlaaRows
import Derived.WalkKit
import Derived.IntWalk
import Derived.Lib.Hide
import Derived.Laws.BytesArg
import Derived.Laws.Concat
import Derived.Deep.Draws
import Derived.Deep.QuietTactic
import Derived.BigQuiet
import Derived.StillTailTactics
import Derived.Laws.StructEq
import Derived.Shelf.SlicesE.Kit
import Derived.Maps.AppendAt
import Derived.Deep.AppendLies
import Derived.Deep.RegionLaw
import Derived.Deep.RegionHeld3
import Derived.Deep.RegionWith
import Derived.Lib.SliceRun
import Derived.ProofKit
import Derived.Lib.SmallJoins
import Derived.Deep.SlicePairs
import Derived.ChangeKeysEq
/- Words on memory that the later texts use: an append of one element onto a row of the call's own, and the string made of such a row. They hold over any program. No condition. -/
namespace Go.Proofs.Ytdkpmaahinbhlaa
open Go.RowKit

section
variable {P : Program}

/-- An append of one element, just laid, onto a row of the call's own: what stood below 'base' stands as it did. -/
theorem wpList_push (w : World) {ops : Array Oper} {rest : List Oper} {o : Oper} {a : Act} {Q : Exit → Act → World → Prop} (hgd : o.guard = none) (s x : Operand) (t : TypeId)
    (ho : o.op = .call { callee := .builtin .append, args := #[s, x], argTypes := #[t, t] })
    (base : Nat) (e : TypeId) (z : Value) (bytes : Nat) (ht : P.underlying t = some (.slice e)) (hinfo : (P.info? e).map (fun i => (i.zero, i.size, i.bytes)) = some (some z, 1, bytes)) (hzs : z.cells.size = 1)
    (v : Value) (n : Nat) (xs : List Value) (hs : a.eval s = v) (hown : w.ownsRow base e 1 v n xs) (u : Value) (hu : u.oneCell' = true) (tb : TypeId) (hx : a.eval x = .slice (some ⟨w.heap.size, 0, none⟩) 1 1)
    (hbytes : (n + 1) * bytes ≤ 140737488355328) (h63 : n + 1 ≤ maxLen) (hbase : base ≤ w.heap.size)
    (h : ∀ v' w', w'.ownsRow base e 1 v' (n + 1) (xs ++ [u]) → Below base w w' → wpList P ops Q rest (a.put o.dst v') w') : wpList P ops Q (o :: rest) a (w.alloc (.cells #[u] tb)) := by
  obtain ⟨i, hi, hz0, hz1, hz2⟩ := info_parts hinfo
  refine wpList_append_own _ hgd s x t ho base e i z 1 bytes ht hi hz0 hz1 hz2 hzs (by decide) v n xs hs (hown.alloc _) ⟨w.heap.size, 0, none⟩ 1 1 [u] hx rfl ?_ ?_ h63 hbytes (by simp; omega) ?_
  · intro j y hj
    match j, hj with
    | 0, hj =>
      simp at hj
      subst hj
      have : (⟨w.heap.size, 0, none⟩ : Addr).add 0 = ⟨w.heap.size, 0, none⟩ := by simp [Addr.add]
      rw [this, World.cell?_alloc_at _ _ _ _ rfl]
      rfl
  · intro y hy
    simp at hy
    subst hy
    exact hu
  · intro v' w' hown' hg _
    refine h v' w' hown' ?_
    refine ((Below.refl base w).alloc hbase (.cells #[u] tb)).grown hg (by simp; omega) ?_
    intro k hk
    exact (hown.lt k hk).1

/-- An append of several elements, just laid, onto a row of the call's own. -/
theorem wpList_pushes (w : World) {ops : Array Oper} {rest : List Oper} {o : Oper} {a : Act} {Q : Exit → Act → World → Prop} (hgd : o.guard = none) (s x : Operand) (t : TypeId)
    (ho : o.op = .call { callee := .builtin .append, args := #[s, x], argTypes := #[t, t] })
    (base : Nat) (e : TypeId) (z : Value) (bytes : Nat) (ht : P.underlying t = some (.slice e)) (hinfo : (P.info? e).map (fun i => (i.zero, i.size, i.bytes)) = some (some z, 1, bytes)) (hzs : z.cells.size = 1)
    (v : Value) (n : Nat) (xs : List Value) (hs : a.eval s = v) (hown : w.ownsRow base e 1 v n xs) (us : Array Value) (m : Nat) (hm : us.size = m) (hu : ∀ u ∈ us.toList, u.oneCell' = true) (tb : TypeId) (c : Nat) (hx : a.eval x = .slice (some ⟨w.heap.size, 0, none⟩) m c)
    (hbytes : (n + m) * bytes ≤ 140737488355328) (h63 : n + m ≤ maxLen) (hbase : base ≤ w.heap.size)
    (h : ∀ v' w', w'.ownsRow base e 1 v' (n + m) (xs ++ us.toList) → Below base w w' → wpList P ops Q rest (a.put o.dst v') w') : wpList P ops Q (o :: rest) a (w.alloc (.cells us tb)) := by
  obtain ⟨i, hi, hz0, hz1, hz2⟩ := info_parts hinfo
  refine wpList_append_own _ hgd s x t ho base e i z 1 bytes ht hi hz0 hz1 hz2 hzs (by decide) v n xs hs (hown.alloc _) ⟨w.heap.size, 0, none⟩ m c us.toList hx (by simpa using hm) ?_ hu h63 hbytes (by simp; omega) ?_
  · intro j y hj
    have : (⟨w.heap.size, 0, none⟩ : Addr).add j = ⟨w.heap.size, j, none⟩ := by unfold Addr.add; split <;> simp_all
    rw [this, World.cell?_alloc_at _ _ _ _ rfl]
    simpa using hj
  · intro v' w' hown' hg _
    refine h v' w' hown' ?_
    refine ((Below.refl base w).alloc hbase (.cells us tb)).grown hg (by simp; omega) ?_
    intro k hk
    exact (hown.lt k hk).1

/-- The same as one step of a region that draws its order. -/
theorem step_pushes {w : World} {ops : Array Oper} {o : Oper} {a : Act} {K : Act → World → Prop} {Q : Exit → Act → World → Prop} {E : Prop} (hgd : o.guard = none) (s x : Operand) (t : TypeId)
    (ho : o.op = .call { callee := .builtin .append, args := #[s, x], argTypes := #[t, t] })
    (base : Nat) (e : TypeId) (z : Value) (bytes : Nat) (ht : P.underlying t = some (.slice e)) (hinfo : (P.info? e).map (fun i => (i.zero, i.size, i.bytes)) = some (some z, 1, bytes)) (hzs : z.cells.size = 1)
    (v : Value) (n : Nat) (xs : List Value) (hs : a.eval s = v) (hown : w.ownsRow base e 1 v n xs) (us : Array Value) (m : Nat) (hm : us.size = m) (hu : ∀ u ∈ us.toList, u.oneCell' = true) (tb : TypeId) (c : Nat) (hx : a.eval x = .slice (some ⟨w.heap.size, 0, none⟩) m c)
    (hbytes : (n + m) * bytes ≤ 140737488355328) (h63 : n + m ≤ maxLen) (hbase : base ≤ w.heap.size)
    (h : ∀ v' w', w'.ownsRow base e 1 v' (n + m) (xs ++ us.toList) → Below base w w' → K (a.put o.dst v') w') :
    if Region.wanted o (yielded ops a.tmps) = true then Oper.wp P o a (w.alloc (.cells us tb)) K Q else E := by
  have hw : Region.wanted o (yielded ops a.tmps) = true := by simp [Region.wanted, hgd]
  rw [if_pos hw]
  obtain ⟨i, hi, hz0, hz1, hz2⟩ := info_parts hinfo
  refine wp_append_own _ s x t ho base e i z 1 bytes ht hi hz0 hz1 hz2 hzs (by decide) v n xs hs (hown.alloc _) ⟨w.heap.size, 0, none⟩ m c us.toList hx (by simpa using hm) ?_ hu h63 hbytes (by simp; omega) ?_
  · intro j y hj
    have : (⟨w.heap.size, 0, none⟩ : Addr).add j = ⟨w.heap.size, j, none⟩ := by unfold Addr.add; split <;> simp_all
    rw [this, World.cell?_alloc_at _ _ _ _ rfl]
    simpa using hj
  · intro v' w' hown' hg _
    refine h v' w' hown' ?_
    refine ((Below.refl base w).alloc hbase (.cells us tb)).grown hg (by simp; omega) ?_
    intro k hk
    exact (hown.lt k hk).1

theorem grown_below {w w' : World} {base : Nat} (hg : w.grownBy w' none) (hb : base ≤ w.heap.size) : Below base w w' :=
  (Below.refl base w).grown hg hb (fun k hk => by cases hk)

/-- 'make([]T, 0, n)': an empty row of the call's own. -/
theorem wpList_mk0 (w : World) {ops : Array Oper} {rest : List Oper} {o : Oper} {a : Act} {Q : Exit → Act → World → Prop} (hgd : o.guard = none) (l c : Operand) (t : TypeId) (hop : o.op = Op.makeSlice t l c)
    (base : Nat) (e : TypeId) (z : Value) (bytes : Nat) (ht : P.underlying t = some (.slice e)) (hinfo : (P.info? e).map (fun i => (i.zero, i.size, i.bytes)) = some (some z, 1, bytes))
    (kl kc : IntKind) (C : Int) (n : Nat) (hl : a.eval l = .int kl 0) (hc : a.eval c = .int kc C) (hC : C = (n : Int)) (b2 : bytes * n ≤ 281474976710656) (b3 : n ≤ maxLen) (b4 : base ≤ w.heap.size)
    (hK : ∀ w', w'.ownsRow base e 1 (.slice (some ⟨w.heap.size, 0, none⟩) 0 n) 0 [] → Below base w w' → wpList P ops Q rest (a.put o.dst (.slice (some ⟨w.heap.size, 0, none⟩) 0 n)) w') :
    wpList P ops Q (o :: rest) a w := by
  obtain ⟨i, hi, hz0, hz1, hz2⟩ := info_parts hinfo
  exact wpList_make_own w hgd l c t hop base e i z 1 ht hi hz0 hz1 kl kc C n hl hc hC (by rw [hz2]; exact b2) b3 b4 fun w' h1 h2 => hK w' h1 (grown_below h2 b4)

/-- 'make([]T, n)': a row of n zeros of the call's own. -/
theorem wpList_mkn (w : World) {ops : Array Oper} {rest : List Oper} {o : Oper} {a : Act} {Q : Exit → Act → World → Prop} (hgd : o.guard = none) (l c : Operand) (t : TypeId) (hop : o.op = Op.makeSlice t l c)
    (base : Nat) (e : TypeId) (z : Value) (bytes : Nat) (ht : P.underlying t = some (.slice e)) (hinfo : (P.info? e).map (fun i => (i.zero, i.size, i.bytes)) = some (some z, 1, bytes)) (hz : z.cells = #[z])
    (kl kc : IntKind) (L C : Int) (n : Nat) (hl : a.eval l = .int kl L) (hc : a.eval c = .int kc C) (hL : L = (n : Int)) (hC : C = (n : Int)) (b2 : bytes * n ≤ 281474976710656) (b3 : n ≤ maxLen) (b4 : base ≤ w.heap.size)
    (hK : ∀ w', w'.ownsRow base e 1 (.slice (some ⟨w.heap.size, 0, none⟩) n n) n (List.replicate n z) → Below base w w' → wpList P ops Q rest (a.put o.dst (.slice (some ⟨w.heap.size, 0, none⟩) n n)) w') :
    wpList P ops Q (o :: rest) a w := by
  obtain ⟨i, hi, hz0, hz1, hz2⟩ := info_parts hinfo
  refine wpList_make_full w hgd l c t hop base e i z 1 ht hi hz0 hz1 kl kc L C n hl hc hL hC (by rw [hz2]; exact b2) b3 b4 fun w' h1 h2 => hK w' ?_ (grown_below h2 b4)
  have : (madeCells z.cells (n * 1)).toList = List.replicate n z := by rw [hz, Nat.mul_one, toList_madeCells_one]
  rw [this] at h1
  exact h1

/-- 'string(b)' of a row of bytes of the call's own. -/
theorem own_string {w : World} {base : Nat} {src dst e : TypeId} {v : Value} {n : Nat} {ns : List Int} (hs : P.underlying src = some (.slice e)) (he : P.underlying e = some (.int .u8)) (hd : P.underlying dst = some .string)
    (h : w.ownsRow base e 1 v n (ns.map (Value.int .u8))) : (convert src dst v).run P w = .ok (.string (strOfNums ns)) w := by
  rcases h.2 with ⟨rfl, rfl⟩ | ⟨g, cap, cur, rfl, _⟩
  · have : ns = [] := by simpa using h.1
    subst this
    rw [run_convert_bytes_nil w src e hs he 0 0 dst hd]
    rfl
  · have hl : ns.length = n := by simpa using h.1
    refine run_convert_bytes_arg w src e hs he g 0 n cap ns hl ?_ dst hd
    intro i hi
    have hc := h.cellAt i (by omega)
    rw [Nat.zero_add, hc]
    have : i < ns.length := by omega
    simp [List.getD, List.getElem?_eq_getElem this]
end

theorem conv_one {P : Program} (w : World) (src dst e : TypeId) (x : Int) (hs : P.underlying src = some (.slice e)) (he : P.underlying e = some (.int .u8)) (hd : P.underlying dst = some .string) :
    (convert src dst (.slice (some ⟨w.heap.size, 0, none⟩) 1 1)).run P (w.alloc (.cells #[.int .u8 x] e)) = .ok (.string (strOfNums [x])) (w.alloc (.cells #[.int .u8 x] e)) := by
  refine run_convert_bytes_arg _ src e hs he w.heap.size 0 1 1 [x] rfl ?_ dst hd
  intro i hi
  obtain rfl : i = 0 := by omega
  rw [World.cell?_alloc_at _ _ _ _ rfl]
  rfl
theorem nums_append (a b : List Int) : strOfNums a ++ strOfNums b = strOfNums (a ++ b) := by
  apply ByteArray.ext
  simp [strOfNums, ByteArray.data_append]
theorem add_nums {P : Program} (w : World) (a b : List Int) (h : a.length + b.length ≤ 1000000) : (Op.stringOp .add (strOfNums a) (strOfNums b)).run P w = .ok (.string (strOfNums (a ++ b))) w := by
  rw [run_string_add_sum w _ _ (by rw [strOfNums_size, strOfNums_size]; omega), nums_append]

theorem wraps_i64 (n : Int) (h₀ : 0 ≤ n) (h₁ : n < 2 ^ 63) : IntKind.i64.wrap n = n := by rw [IntKind.wrap_i64]; omega
theorem ret_str {a b : ByteArray} (h : a = b) : Ending.returned (.string a) = .returned (.string b) := by rw [h]
theorem ret_int_bool {a b : Int} {c : Bool} (h : a = b) : Ending.returned (.tuple #[.int .i64 a, .bool c]) = .returned (.tuple #[.int .i64 b, .bool c]) := by rw [h]

/-- The k-th byte of s as a number. -/
def byteAt (s : ByteArray) (k : Nat) : Int := ((s.data.toList.getD k 0).toNat : Int)
theorem byteAt_eq (s : ByteArray) (k : Nat) (h : k < s.size) : byteAt s k = (s[k].toNat : Int) := by
  unfold byteAt
  have h' : k < s.data.toList.length := by simpa using h
  rw [List.getD_eq_getElem?_getD, List.getElem?_eq_getElem h']; rfl
theorem byteAt_bd (s : ByteArray) (k : Nat) : 0 ≤ byteAt s k ∧ byteAt s k ≤ 255 := by
  unfold byteAt
  have := (s.data.toList.getD k 0).toNat_lt
  omega
theorem byteAt_extract (s : ByteArray) (k j : Nat) (hj : j < k) : byteAt (s.extract 0 k) j = byteAt s j := by
  unfold byteAt
  congr 2
  simp [List.getD_eq_getElem?_getD, hj]
theorem byteAt_nums (l : List Int) (j : Nat) (hj : j < l.length) (hb : 0 ≤ l[j] ∧ l[j] ≤ 255) : byteAt (strOfNums l) j = l[j] := by
  unfold byteAt
  rw [strOfNums_data, List.getD_eq_getElem?_getD, List.getElem?_map, List.getElem?_eq_getElem hj]
  simp
  omega
theorem below_drewN (B : Nat) (w : World) (n : Nat) : Below B w (w.drewN n) := ⟨rfl, rfl, rfl, Nat.le_refl _, fun _ _ => rfl⟩
theorem iter_below (w : World) (s : ByteArray) (k : Nat) : Below w.heap.size w (w.iter s k) := (Below.refl _ _).alloc (Nat.le_refl _) _
theorem _root_.Go.World.grownBy.trans_ {a b c : World} {r : Option Nat} (h : a.grownBy b r) (k : b.grownBy c r) : a.grownBy c r :=
  ⟨k.os.trans h.os, k.tape.trans h.tape, k.output.trans h.output, Nat.le_trans h.size k.size, fun i hi hr => (k.block i (Nat.lt_of_lt_of_le hi h.size) hr).trans (h.block i hi hr)⟩
theorem grownBy_set (w : World) (g j : Nat) (u : Value) : w.grownBy (w.setCell ⟨g, j, none⟩ u) (some g) :=
  ⟨rfl, rfl, rfl, by simp, fun k _ hk => Below.heap_setCell w ⟨g, j, none⟩ u k (fun e => hk (by simp at e; rw [e]))⟩
theorem grownBy_drewN (w : World) (n : Nat) (r : Option Nat) : w.grownBy (w.drewN n) r := ⟨rfl, rfl, rfl, Nat.le_refl _, fun _ _ _ => rfl⟩
theorem own_base {w : World} {base base' size : Nat} {e : TypeId} {v : Value} {n : Nat} {xs : List Value} (h : w.ownsRow base e size v n xs) (hb : base' ≤ base) : w.ownsRow base' e size v n xs := by
  refine ⟨h.1, ?_⟩
  rcases h.2 with h2 | ⟨g, cap, cur, h1, h2, h3⟩
  · exact .inl h2
  · exact .inr ⟨g, cap, cur, h1, Nat.le_trans hb h2, h3⟩
/-- A store into another block. -/
theorem own_set {w : World} {base size : Nat} {e : TypeId} {g cap : Nat} {n : Nat} {xs : List Value} (h : w.ownsRow base e size (.slice (some ⟨g, 0, none⟩) n cap) n xs) (b j : Nat) (u : Value) (hb : g ≠ b) : (w.setCell ⟨b, j, none⟩ u).ownsRow base e size (.slice (some ⟨g, 0, none⟩) n cap) n xs :=
  h.kept (grownBy_set w b j u) (.inr (by simp [Value.ownBlock]; exact hb))
theorem below_grown {w w' : World} (h : Below w.heap.size w w') (r : Option Nat) : w.grownBy w' r := ⟨h.os, h.tape, h.output, h.size, fun k hk _ => h.block k hk⟩
/-- A row of the call's own stays one while new blocks are made. -/
theorem own_below {w w' : World} {base size : Nat} {e : TypeId} {v : Value} {n : Nat} {xs : List Value} (h : w.ownsRow base e size v n xs) (hb : Below w.heap.size w w') : w'.ownsRow base e size v n xs :=
  h.kept (below_grown hb none) (by cases hv : v.ownBlock <;> simp)
/-- What an older block holds behind a call that only makes new ones: two rules for the walk. -/
theorem bcell {W w1 : World} (hb : Below W.heap.size W w1) : (∀ b o, b < W.heap.size → w1.cell? ⟨b, o, none⟩ = W.cell? ⟨b, o, none⟩) ∧ (∀ b o, b < W.heap.size → w1.frozen? ⟨b, o, none⟩ = W.frozen? ⟨b, o, none⟩) :=
  ⟨fun b o h => hb.cell (p := ⟨b, o, none⟩) h, fun b o h => hb.frozen (p := ⟨b, o, none⟩) h⟩
end Go.Proofs.Ytdkpmaahinbhlaa
/- The laws' copies of a bar and of a graph into the program's types (laws.toBar, toBarS, toGraph). No condition. -/
namespace Go.Proofs.Ytdkpmaahinbhlaa
open Go.RowKit

theorem toBar_c (x y : Int) (w : World) :
    Calls Try.prog 207 #[.agg #[.int .i64 x, .int .i64 y]] w fun e w' => e = .returned (.agg #[.int .i64 x, .int .i64 y]) ∧ Below w.heap.size w w' := by
  go_enter Try.func207, Try.ntmps207
  go_wp2
  exact bodyPost_ret (v := .agg #[.int .i64 x, .int .i64 y]) (by simp [results, Try.results207, go_sem]) rfl ⟨rfl, (((Below.refl _ _).alloc (Nat.le_refl _) _).alloc (by simp) _).alloc (by simp; omega) _⟩

/-- The slice at A reads as the bars l. -/
def BarsAt (w : World) (B : Nat) (A : Option Addr) (l : List (Int × Int)) : Prop :=
  0 < l.length → ∃ b off, A = some ⟨b, off, none⟩ ∧ b < B ∧ ∀ k, k < l.length → w.cell? ⟨b, off + k * 2, none⟩ = some (.int .i64 (l.getD k (0, 0)).1) ∧ w.cell? ⟨b, off + k * 2 + 1, none⟩ = some (.int .i64 (l.getD k (0, 0)).2)

/-- The cells of a row of bars. -/
def barCells (l : List (Int × Int)) : List Value := l.flatMap fun x => [.int .i64 x.1, .int .i64 x.2]

theorem barCells_len (l : List (Int × Int)) : (barCells l).length = l.length * 2 := by
  induction l with
  | nil => rfl
  | cons x l ih =>
    rw [barCells, List.flatMap_cons, List.length_append]
    rw [barCells] at ih
    simp only [List.length_cons, List.length_nil, ih]
    omega
theorem barCells_append (a b : List (Int × Int)) : barCells (a ++ b) = barCells a ++ barCells b := by simp [barCells]
theorem barCells_get : ∀ (l : List (Int × Int)) (k : Nat), k < l.length → (barCells l)[k * 2]? = some (.int .i64 (l.getD k (0, 0)).1) ∧ (barCells l)[k * 2 + 1]? = some (.int .i64 (l.getD k (0, 0)).2) := by
  intro l
  induction l with
  | nil => intro k h; simp at h
  | cons x l ih =>
    intro k h
    rw [barCells, List.flatMap_cons]
    rcases k with _ | k
    · exact ⟨rfl, rfl⟩
    · have := ih k (by simpa using h)
      rw [show (k + 1) * 2 = k * 2 + 2 by omega, show k * 2 + 2 + 1 = k * 2 + 1 + 2 by omega]
      exact this
theorem barCells_set : ∀ (l : List (Int × Int)) (k : Nat) (x : Int × Int), ((barCells l).set (k * 2) (.int .i64 x.1)).set (k * 2 + 1) (.int .i64 x.2) = barCells (l.set k x) := by
  intro l
  induction l with
  | nil => intro k x; simp [barCells]
  | cons y l ih =>
    intro k x
    rcases k with _ | k
    · rfl
    · have := ih k x
      rw [show (k + 1) * 2 = k * 2 + 2 by omega, show k * 2 + 2 + 1 = k * 2 + 1 + 2 by omega]
      simp only [barCells, List.flatMap_cons, List.set_cons_succ, List.cons_append, List.nil_append] at this ⊢
      rw [this]
theorem made_bars (n : Nat) : (madeCells #[.int .i64 0, .int .i64 0] (n * 2)).toList = barCells (List.replicate n (0, 0)) := by
  apply List.ext_getElem?
  intro i
  have hs : (madeCells #[Value.int .i64 0, .int .i64 0] (n * 2)).toList.length = n * 2 := by simp [size_madeCells]
  by_cases hi : i < n * 2
  · have h1 : (madeCells #[Value.int .i64 0, .int .i64 0] (n * 2)).toList[i]? = some (.int .i64 0) := by
      have : i % 2 = 0 ∨ i % 2 = 1 := by omega
      simp [madeCells, hi]
      rcases this with h | h <;> simp [h]
    have h2 := barCells_get (List.replicate n ((0 : Int), (0 : Int))) (i / 2) (by simp; omega)
    have h3 : (List.replicate n ((0 : Int), (0 : Int))).getD (i / 2) (0, 0) = (0, 0) := by
      rw [List.getD_eq_getElem?_getD, List.getElem?_replicate]
      split <;> rfl
    rw [h3] at h2
    rw [h1]
    by_cases hp : i % 2 = 0
    · rw [show i = i / 2 * 2 by omega, h2.1]
    · rw [show i = i / 2 * 2 + 1 by omega, h2.2]
  · rw [List.getElem?_eq_none (by omega), List.getElem?_eq_none (by rw [barCells_len]; simp; omega)]

theorem infoBar : (Try.prog.info? 108).map (fun i => (i.zero, i.size, i.bytes)) = some (some (.agg #[.int .i64 0, .int .i64 0]), 2, 16) := by kernel_rfl

set_option maxHeartbeats 400000 in
set_option maxRecDepth 100000 in
theorem toBarS_c (l : List (Int × Int)) (A : Option Addr) (cap : Nat) (w : World) (hl : BarsAt w w.heap.size A l) (hn : l.length ≤ 1048576) :
    Calls Try.prog 166 #[.slice A l.length cap] w fun e w' => ∃ g, e = .returned (.slice (some ⟨g, 0, none⟩) l.length l.length) ∧ w'.ownsRow w.heap.size 108 2 (.slice (some ⟨g, 0, none⟩) l.length l.length) l.length (barCells l) ∧ Below w.heap.size w w' := by
  have HL := Lib.hid hl
  clear hl
  obtain ⟨i0, hi, hz0, hz1, hz2⟩ := info_parts infoBar
  go_enter Try.func166, Try.ntmps166
  go_wp2_with (at_make; refine wpList_make_full w rfl _ _ 24 rfl w.heap.size 108 i0 (.agg #[.int .i64 0, .int .i64 0]) 2 Try.underlying24 hi hz0 hz1 _ _ _ _ l.length rfl rfl rfl rfl (by rw [hz2]; omega) (by unfold maxLen; omega) (Nat.le_refl _) ?_; intro w0 hown0 hg0)
  have hb0 := grown_below hg0 (Nat.le_refl w.heap.size)
  go_loopw [4] (fun i wr => ∃ k : Nat, k ≤ l.length ∧ i = .int .i64 k ∧ wr.ownsRow w.heap.size 108 2 (.slice (some ⟨w.heap.size, 0, none⟩) l.length l.length) l.length (barCells (l.take k ++ List.replicate (l.length - k) (0, 0))) ∧ Below w.heap.size w wr) (fun i _ => l.length - (intOf i).toNat)
  case atStart => exact ⟨0, by omega, rfl, by
    have e : (madeCells (Value.agg #[.int .i64 0, .int .i64 0]).cells (l.length * 2)).toList = barCells (l.take 0 ++ List.replicate (l.length - 0) (0, 0)) := by
      rw [List.take_zero, List.nil_append, Nat.sub_zero]
      exact made_bars l.length
    rw [e] at hown0
    exact hown0, hb0⟩
  case round =>
    obtain ⟨k, hk, rfl, hown, hb⟩ := hrel
    have HB := Lib.hid hb
    have hbs := hb.size
    clear hb hown0 hb0 hg0
    by_cases hlt : k < l.length
    · have hi : (k : Int) < (l.length : Int) := by omega
      obtain ⟨b, off, rfl, hbB, hcell⟩ := HL.out (by omega)
      obtain ⟨h1, h2⟩ := hcell k hlt
      have hc1 := (HB.out.cell (p := ⟨b, off + k * 2, none⟩) hbB).trans h1
      have hc2 := (HB.out.cell (p := ⟨b, off + k * 2 + 1, none⟩) hbB).trans h2
      have hlen : (l.take k ++ List.replicate (l.length - k) ((0 : Int), (0 : Int))).length = l.length := by simp; omega
      have hset : (l.take k ++ List.replicate (l.length - k) (0, 0)).set k (l.getD k (0, 0)) = l.take (k + 1) ++ List.replicate (l.length - (k + 1)) (0, 0) := by
        have hl0 : (l.take k).length = k := by simp; omega
        have e : l.getD k (0, 0) = l[k] := by simp [List.getD, List.getElem?_eq_getElem hlt]
        obtain ⟨r, hr⟩ : ∃ r, l.length - k = r + 1 := ⟨l.length - k - 1, by omega⟩
        rw [e, List.set_append_right _ _ (by omega), hl0, Nat.sub_self, hr, List.replicate_succ, List.set_cons_zero, List.take_succ_eq_append_getElem hlt, show l.length - (k + 1) = r by omega, List.append_assoc]
        rfl
      have HOWN := Lib.hid hown
      have HSET := Lib.hid hset
      have HLEN := Lib.hid hlen
      have hlw := (hown.lt w.heap.size rfl).2
      clear hset hown hcell h1 h2 hlen
      obtain ⟨p, hp⟩ : ∃ p, l.getD k (0, 0) = p := ⟨_, rfl⟩
      rw [hp] at hc1 hc2 HSET
      clear hp
      obtain ⟨x, y⟩ := p
      go_wp2_with fail
      refine (toBar_c x y wr).mono ?_
      rintro e w3 ⟨rfl, hb3⟩
      have hown3 := own_below HOWN.out hb3
      have hg := barCells_get (l.take k ++ List.replicate (l.length - k) (0, 0)) k (by have := HLEN.out; omega)
      have hd1 := (hown3.cellAt (k * 2) (by omega)).trans hg.1
      have hd2 := (hown3.cellAt (k * 2 + 1) (by omega)).trans hg.2
      have hf1 := hown3.frozenAt (k * 2)
      have hf2 := hown3.frozenAt (k * 2 + 1)
      have hst1 := hown3.stored (k * 2) (.int .i64 x)
      have hst2 := hst1.1.stored (k * 2 + 1) (.int .i64 y)
      rw [barCells_set _ _ (x, y), HSET.out] at hst2
      have HST := Lib.hid hst2
      have HB3 := Lib.hid (HB.out.trans (hb3.mono hbs))
      clear hst1 hst2 hg hown3 hb3 hc1 hc2
      go_wp2_with fail
      go_roundw
      case rel => exact ⟨k + 1, by omega, by go_num, HST.out.1, (HB3.out.setCell (Nat.le_refl _) _).setCell (Nat.le_refl _) _⟩
      case measure => simp [intOf]; omega
    · obtain rfl : k = l.length := by omega
      rw [List.take_length, Nat.sub_self, List.replicate_zero, List.append_nil] at hown
      go_wp2_with fail
      go_ret
      exact ⟨_, rfl, hown, HB.out⟩

/-- A fresh copy of the graph of p points and the bars l. -/
def GraphP (w : World) (p : Int) (l : List (Int × Int)) (e : Ending) (w' : World) : Prop :=
  ∃ g, e = .returned (.agg #[.int .i64 p, .slice (some ⟨g, 0, none⟩) l.length l.length]) ∧ w'.ownsRow w.heap.size 108 2 (.slice (some ⟨g, 0, none⟩) l.length l.length) l.length (barCells l) ∧ Below w.heap.size w w'

theorem BarsAt.kept {w w' : World} {B : Nat} {A : Option Addr} {l : List (Int × Int)} (h : BarsAt w B A l) (hb : Below B w w') : BarsAt w' B A l := fun hl => by
  obtain ⟨b, off, e, hlt, hc⟩ := h hl
  exact ⟨b, off, e, hlt, fun k hk => ⟨(hb.cell (p := ⟨b, off + k * 2, none⟩) hlt).trans (hc k hk).1, (hb.cell (p := ⟨b, off + k * 2 + 1, none⟩) hlt).trans (hc k hk).2⟩⟩
theorem BarsAt.more {w : World} {B B' : Nat} {A : Option Addr} {l : List (Int × Int)} (h : BarsAt w B A l) (hb : B ≤ B') : BarsAt w B' A l := fun hl => by
  obtain ⟨b, off, e, hlt, hc⟩ := h hl
  exact ⟨b, off, e, by omega, hc⟩
/-- A row of the call's own reads as its bars. -/
theorem own_bars {w : World} {base : Nat} {e : TypeId} {g cap : Nat} {l : List (Int × Int)} (h : w.ownsRow base e 2 (.slice (some ⟨g, 0, none⟩) l.length cap) l.length (barCells l)) : BarsAt w w.heap.size (some ⟨g, 0, none⟩) l := fun _ => by
  refine ⟨g, 0, rfl, (h.lt g rfl).2, fun k hk => ?_⟩
  have hg := barCells_get l k hk
  rw [Nat.zero_add]
  exact ⟨(h.cellAt (k * 2) (by omega)).trans hg.1, (h.cellAt (k * 2 + 1) (by omega)).trans hg.2⟩

set_option maxHeartbeats 400000 in
set_option maxRecDepth 100000 in
theorem toGraph_c (p : Int) (l : List (Int × Int)) (A : Option Addr) (cap : Nat) (w : World) (hl : BarsAt w w.heap.size A l) (hn : l.length ≤ 1048576) :
    Calls Try.prog 79 #[.agg #[.int .i64 p, .slice A l.length cap]] w (GraphP w p l) := by
  have HL := Lib.hid hl
  clear hl
  go_enter Try.func79, Try.ntmps79
  go_wp2_with fail
  have hA : Below w.heap.size w (((w.alloc (.cells #[.int .i64 p, .slice A l.length cap] 79)).alloc (.cells #[.int .i64 0, .slice none 0 0] 26)).alloc (.cells #[.int .i64 p, .slice none 0 0] 26)) :=
    (((Below.refl _ _).alloc (Nat.le_refl _) _).alloc (by simp) _).alloc (by simp; omega) _
  refine (toBarS_c l A cap _ ((HL.out.kept hA).more hA.size) hn).mono ?_
  rintro e w1 ⟨g, rfl, hown1, hb1⟩
  have hg := (hown1.lt g rfl)
  have hsz := hb1.size
  obtain ⟨hc1, hf1⟩ := bcell hb1
  have HA := Lib.hid hA
  have HB1 := Lib.hid hb1
  have HO1 := Lib.hid hown1
  clear hA hb1 hown1
  simp only [World.size_alloc] at hg hsz
  go_wp2_with fail
  refine bodyPost_ret (v := .agg #[.int .i64 p, .slice (some ⟨g, 0, none⟩) l.length l.length]) ?_ rfl ⟨g, rfl, ?_, ?_⟩
  · simp [results, Try.results79, go_sem, hc1]
  · exact own_set (own_set (own_set (own_base HO1.out (by simp; omega)) _ _ _ (by omega)) _ _ _ (by omega)) _ _ _ (by omega)
  · exact (((HA.out.trans (HB1.out.mono HA.out.size)).setCell (by simp; omega) _).setCell (by simp) _).setCell (by simp) _
end Go.Proofs.Ytdkpmaahinbhlaa
/- What spec.l1In answers: whether a number lies between two others. No condition. -/
namespace Go.Proofs.Ytdkpmaahinbhlaa
open Go.RowKit

theorem l1In_yes (a lo hi : Int) (w : World) (h1 : lo ≤ a) (h2 : a ≤ hi) :
    Calls Try.prog 125 #[.int .i64 a, .int .i64 lo, .int .i64 hi] w fun e w' => e = .returned (.bool true) ∧ w = w' := by
  have h1' : decide (lo ≤ a) = true := by simpa using h1
  have h2' : decide (a ≤ hi) = true := by simpa using h2
  go_enter Try.func125, Try.ntmps125
  go_wp2
  go_ret
  exact ⟨rfl, rfl⟩

theorem l1In_no (a lo hi : Int) (w : World) (h : a < lo ∨ hi < a) :
    Calls Try.prog 125 #[.int .i64 a, .int .i64 lo, .int .i64 hi] w fun e w' => e = .returned (.bool false) ∧ w = w' := by
  by_cases h1 : lo ≤ a
  · have h2 : hi < a := by omega
    have h1' : decide (lo ≤ a) = true := by simpa using h1
    have h2' : decide (a ≤ hi) = false := by simp; omega
    clear h
    go_enter Try.func125, Try.ntmps125
    go_wp2
    go_ret
    exact ⟨rfl, rfl⟩
  · have h1' : decide (lo ≤ a) = false := by simpa using h1
    clear h
    go_enter Try.func125, Try.ntmps125
    go_wp2
    go_ret
    exact ⟨rfl, rfl⟩
end Go.Proofs.Ytdkpmaahinbhlaa
/- What spec.l2After and spec.IsGraph answer. No condition. -/
namespace Go.Proofs.Ytdkpmaahinbhlaa
open Go.RowKit

/-- One bar stands before or beside another. -/
def aftB (a b : Int × Int) : Bool := decide (a.1 < b.1 ∨ a.1 = b.1 ∧ a.2 ≤ b.2)

theorem after_yes (a b : Int × Int) (w : World) (h : aftB a b = true) :
    Calls Try.prog 190 #[.agg #[.int .i64 a.1, .int .i64 a.2], .agg #[.int .i64 b.1, .int .i64 b.2]] w fun e w' => e = .returned (.bool true) ∧ Below w.heap.size w w' := by
  obtain ⟨x, y⟩ := a
  obtain ⟨u, v⟩ := b
  have h' : x < u ∨ (¬ x < u ∧ x = u ∧ y ≤ v) := by
    have := of_decide_eq_true h
    simp only at this
    omega
  clear h
  rcases h' with h | ⟨h1, rfl, h3⟩
  all_goals
    go_enter Try.func190, Try.ntmps190
    go_wp2
    go_ret
    exact ⟨by simp [*], ((Below.refl _ _).alloc (Nat.le_refl _) _).alloc (by simp) _⟩
theorem after_no (a b : Int × Int) (w : World) (h : aftB a b = false) :
    Calls Try.prog 190 #[.agg #[.int .i64 a.1, .int .i64 a.2], .agg #[.int .i64 b.1, .int .i64 b.2]] w fun e w' => e = .returned (.bool false) ∧ Below w.heap.size w w' := by
  obtain ⟨x, y⟩ := a
  obtain ⟨u, v⟩ := b
  have h' : (u < x) ∨ (x = u ∧ v < y) := by
    have := of_decide_eq_false h
    simp only at this
    omega
  clear h
  rcases h' with h | ⟨rfl, h3⟩
  · have hne : (x == u) = false := by simp; omega
    go_enter Try.func190, Try.ntmps190
    go_wp2
    go_ret
    exact ⟨by simp; omega, ((Below.refl _ _).alloc (Nat.le_refl _) _).alloc (by simp) _⟩
  · go_enter Try.func190, Try.ntmps190
    go_wp2
    go_ret
    exact ⟨by simp; omega, ((Below.refl _ _).alloc (Nat.le_refl _) _).alloc (by simp) _⟩

/-- The bar at place i is as a graph of p points wants it. -/
def OkBar (p : Int) (l : List (Int × Int)) (i : Nat) : Prop :=
  0 ≤ (l.getD i (0, 0)).1 ∧ (l.getD i (0, 0)).1 < (l.getD i (0, 0)).2 ∧ (l.getD i (0, 0)).2 < p ∧ (0 < i → aftB (l.getD (i - 1) (0, 0)) (l.getD i (0, 0)) = true)
/-- A graph. -/
def IsG (p : Int) (l : List (Int × Int)) : Prop := (1 ≤ p ∧ p ≤ 8) ∧ l.length ≤ 24 ∧ ∀ i, i < l.length → OkBar p l i
open Classical in
noncomputable def isGB (p : Int) (l : List (Int × Int)) : Bool := if IsG p l then true else false
theorem isGB_yes {p : Int} {l : List (Int × Int)} (h : IsG p l) : isGB p l = true := by unfold isGB; rw [if_pos h]
theorem isGB_no {p : Int} {l : List (Int × Int)} (h : ¬ IsG p l) : isGB p l = false := by unfold isGB; rw [if_neg h]

set_option maxHeartbeats 1000000 in
set_option maxRecDepth 100000 in
theorem specIsGraph (p : Int) (l : List (Int × Int)) (A : Option Addr) (cap : Nat) (w : World) (hl : BarsAt w w.heap.size A l) (hn : l.length ≤ 140737488351232) :
    Calls Try.prog 118 #[.agg #[.int .i64 p, .slice A l.length cap]] w fun e w' => e = .returned (.bool (isGB p l)) ∧ Below w.heap.size w w' := by
  have hA : Below w.heap.size w (w.alloc (.cells #[.int .i64 p, .slice A l.length cap] 26)) := (Below.refl _ _).alloc (Nat.le_refl _) _
  have HL := Lib.hid hl
  have HA := Lib.hid hA
  clear hl hA
  by_cases hp : 1 ≤ p ∧ p ≤ 8
  · by_cases h24 : l.length ≤ 24
    · have hc0 : (w.alloc (.cells #[.int .i64 p, .slice A l.length cap] 26)).cell? ⟨w.heap.size, 0, none⟩ = some (.int .i64 p) := by rw [World.cell?_alloc_at _ _ _ _ rfl]; rfl
      have hc1 : (w.alloc (.cells #[.int .i64 p, .slice A l.length cap] 26)).cell? ⟨w.heap.size, 1, none⟩ = some (.slice A l.length cap) := by rw [World.cell?_alloc_at _ _ _ _ rfl]; rfl
      have HC0 := Lib.hid hc0
      have HC1 := Lib.hid hc1
      clear hc0 hc1
      go_enter Try.func118, Try.ntmps118
      go_wp2_with fail
      refine (l1In_yes _ _ _ _ hp.1 hp.2).mono ?_
      rintro e w1 ⟨rfl, rfl⟩
      go_wp2_with fail
      go_loopw [3] (fun i wr => ∃ k : Nat, k ≤ l.length ∧ i = .int .i64 k ∧ (∀ j, j < k → OkBar p l j) ∧ Below (w.heap.size + 1) (w.alloc (.cells #[.int .i64 p, .slice A l.length cap] 26)) wr) (fun i _ => l.length - (intOf i).toNat)
      case atStart => exact ⟨0, by omega, rfl, fun j hj => absurd hj (by omega), Below.refl _ _⟩
      case round =>
        obtain ⟨k, hk, rfl, hok, hb⟩ := hrel
        have hg0 := (hb.cell (p := ⟨w.heap.size, 0, none⟩) (by simp)).trans HC0.out
        have hg1 := (hb.cell (p := ⟨w.heap.size, 1, none⟩) (by simp)).trans HC1.out
        have hbs := hb.size
        have HB := Lib.hid hb
        have HOK := Lib.hid hok
        clear hb hok
        simp only [World.size_alloc] at hbs
        by_cases hlt : k < l.length
        · have hi : (k : Int) < (l.length : Int) := by omega
          obtain ⟨b, off, rfl, hbB, hcell⟩ := HL.out (by omega)
          have hx1 := (((HA.out.trans (HB.out.mono (by omega))).cell (p := ⟨b, off + k * 2, none⟩) hbB).trans (hcell k hlt).1)
          have hx2 := (((HA.out.trans (HB.out.mono (by omega))).cell (p := ⟨b, off + k * 2 + 1, none⟩) hbB).trans (hcell k hlt).2)
          have HW := Lib.hid (HA.out.trans (HB.out.mono (by omega : w.heap.size ≤ w.heap.size + 1)))
          have HPREV := Lib.hid (show 0 < k → wr.cell? ⟨b, off + (k - 1) * 2, none⟩ = some (.int .i64 (l.getD (k - 1) (0, 0)).1) ∧ wr.cell? ⟨b, off + (k - 1) * 2 + 1, none⟩ = some (.int .i64 (l.getD (k - 1) (0, 0)).2) from fun h0 =>
            ⟨(HW.out.cell (p := ⟨b, off + (k - 1) * 2, none⟩) hbB).trans (hcell (k - 1) (by omega)).1, (HW.out.cell (p := ⟨b, off + (k - 1) * 2 + 1, none⟩) hbB).trans (hcell (k - 1) (by omega)).2⟩)
          have HOKK := Lib.hid (fun h : IsG p l => h.2.2 k hlt)
          have HSTEP := Lib.hid (show OkBar p l k → ∀ j, j < k + 1 → OkBar p l j from fun h j hj => by
            by_cases e : j = k
            · subst e; exact h
            · exact HOK.out j (by omega))
          have hOKdef : OkBar p l k = (0 ≤ (l.getD k (0, 0)).1 ∧ (l.getD k (0, 0)).1 < (l.getD k (0, 0)).2 ∧ (l.getD k (0, 0)).2 < p ∧ (0 < k → aftB (l.getD (k - 1) (0, 0)) (l.getD k (0, 0)) = true)) := rfl
          have HDEF := Lib.hid hOKdef
          clear hcell hOKdef
          obtain ⟨x, hx⟩ : ∃ x, l.getD k (0, 0) = x := ⟨_, rfl⟩
          obtain ⟨q, hq⟩ : ∃ q, l.getD (k - 1) (0, 0) = q := ⟨_, rfl⟩
          rw [hx] at hx1 hx2
          rw [hx, hq] at HDEF
          rw [hq] at HPREV
          clear hx hq
          obtain ⟨x1, x2⟩ := x
          simp only at hx1 hx2 HDEF
          go_wp2_with fail
          have hal : Below wr.heap.size wr (wr.alloc (.cells #[.int .i64 x1, .int .i64 x2] 108)) := (Below.refl _ _).alloc (Nat.le_refl _) _
          have hw0 := (hal.cell (p := ⟨w.heap.size, 0, none⟩) (show w.heap.size < wr.heap.size by omega)).trans hg0
          have hw1 := (hal.cell (p := ⟨w.heap.size, 1, none⟩) (show w.heap.size < wr.heap.size by omega)).trans hg1
          have hw2 : (wr.alloc (.cells #[.int .i64 x1, .int .i64 x2] 108)).cell? ⟨wr.heap.size, 0, none⟩ = some (.int .i64 x1) := by rw [World.cell?_alloc_at _ _ _ _ rfl]; rfl
          have hw3 : (wr.alloc (.cells #[.int .i64 x1, .int .i64 x2] 108)).cell? ⟨wr.heap.size, 1, none⟩ = some (.int .i64 x2) := by rw [World.cell?_alloc_at _ _ _ _ rfl]; rfl
          have HWA := Lib.hid (HB.out.trans (hal.mono hbs))
          have HPA := Lib.hid (fun h0 : 0 < k => (⟨(hal.cell (p := ⟨b, off + (k - 1) * 2, none⟩) (show b < wr.heap.size by omega)).trans (HPREV.out h0).1, (hal.cell (p := ⟨b, off + (k - 1) * 2 + 1, none⟩) (show b < wr.heap.size by omega)).trans (HPREV.out h0).2⟩ : _ ∧ _))
          have hsA : (wr.alloc (.cells #[.int .i64 x1, .int .i64 x2] 108)).heap.size = wr.heap.size + 1 := by simp
          clear hal hx1 hx2 hg0 hg1
          generalize wr.alloc (.cells #[.int .i64 x1, .int .i64 x2] 108) = w2 at *
          by_cases c1 : x1 < 0
          · have Q := Lib.hid (isGB_no (p := p) (l := l) fun h => by have := HOKK.out h; rw [HDEF.out] at this; omega)
            go_quiet (fail)
            go_wp2_with fail
            go_ret
            exact ⟨by rw [Q.out]; rfl, (HA.out.trans (HWA.out.mono (by omega))).trans (below_drewN _ _ _)⟩
          · have d1 : decide (x1 < 0) = false := by simpa using c1
            by_cases c2 : x2 ≤ x1
            · have Q := Lib.hid (isGB_no (p := p) (l := l) fun h => by have := HOKK.out h; rw [HDEF.out] at this; omega)
              go_quiet (fail)
              go_wp2_with fail
              go_ret
              exact ⟨by rw [Q.out]; rfl, (HA.out.trans (HWA.out.mono (by omega))).trans (below_drewN _ _ _)⟩
            · have d2 : decide (x2 ≤ x1) = false := by simpa using c2
              by_cases c3 : p ≤ x2
              · have Q := Lib.hid (isGB_no (p := p) (l := l) fun h => by have := HOKK.out h; rw [HDEF.out] at this; omega)
                go_quiet (fail)
                go_wp2_with fail
                go_ret
                exact ⟨by rw [Q.out]; rfl, (HA.out.trans (HWA.out.mono (by omega))).trans (below_drewN _ _ _)⟩
              · have d3 : decide (p ≤ x2) = false := by simpa using c3
                by_cases c4 : k = 0
                · have hs := HSTEP.out (by rw [HDEF.out]; exact ⟨by omega, by omega, by omega, fun h => absurd h (by omega)⟩)
                  have HS := Lib.hid hs
                  have d4 : decide ((0 : Int) < (k : Int)) = false := by simp; omega
                  have d4n : decide (0 < k) = false := by simp; omega
                  clear hs c4
                  go_quiet (fail)
                  go_wp2_with fail
                  go_roundw
                  case rel => exact ⟨k + 1, by omega, by go_num, HS.out, HWA.out.trans (below_drewN _ _ _)⟩
                  case measure => simp [intOf]; omega
                · have d4 : (0 : Int) < (k : Int) := by omega
                  have d4n : decide (0 < k) = true := by simp; omega
                  obtain ⟨hp1, hp2⟩ := HPA.out (by omega)
                  have htn : ((k : Int) - 1).toNat = k - 1 := by omega
                  have hwr : IntKind.i64.wrap ((k : Int) - 1) = (k : Int) - 1 := IntWalk.i64_in _ (by omega)
                  have hk1 : 0 ≤ (k : Int) - 1 := by omega
                  have hk3 : (1 : Int) ≤ (k : Int) := by omega
                  have hk4 : 1 ≤ k := by omega
                  have hk2 : (k : Int) - 1 < (l.length : Int) := by omega
                  by_cases c5 : aftB q (x1, x2) = true
                  · have hs := HSTEP.out (by rw [HDEF.out]; exact ⟨by omega, by omega, by omega, fun _ => c5⟩)
                    have HS := Lib.hid hs
                    have H5 := Lib.hid c5
                    clear hs c5
                    go_still_tail 28, (by kernel_rfl)
                    change wpList _ _ _ _ _ w2.drew
                    go_wp2_with fail
                    refine (after_yes q (x1, x2) _ H5.out).mono ?_
                    rintro e w3 ⟨rfl, hb3⟩
                    have HB3 := Lib.hid ((HWA.out.drew).trans (hb3.mono (show w.heap.size + 1 ≤ w2.heap.size by omega)))
                    clear hb3
                    go_wp2_with fail
                    go_roundw
                    case rel => exact ⟨k + 1, by omega, by go_num, HS.out, HB3.out⟩
                    case measure => simp [intOf]; omega
                  · have Q := Lib.hid (isGB_no (p := p) (l := l) fun h => by have := HOKK.out h; rw [HDEF.out] at this; exact c5 (this.2.2.2 (by omega)))
                    have H5 := Lib.hid (show aftB q (x1, x2) = false by simpa using c5)
                    clear c5
                    go_still_tail 28, (by kernel_rfl)
                    change wpList _ _ _ _ _ w2.drew
                    go_wp2_with fail
                    refine (after_no q (x1, x2) _ H5.out).mono ?_
                    rintro e w3 ⟨rfl, hb3⟩
                    have HB3 := Lib.hid ((HWA.out.drew).trans (hb3.mono (show w.heap.size + 1 ≤ w2.heap.size by omega)))
                    clear hb3
                    go_wp2_with fail
                    go_ret
                    exact ⟨by rw [Q.out]; rfl, HA.out.trans (HB3.out.mono (by omega))⟩
        · obtain rfl : k = l.length := by omega
          have Q := Lib.hid (isGB_yes (p := p) (l := l) ⟨hp, h24, HOK.out⟩)
          go_wp2_with fail
          go_ret
          exact ⟨by rw [Q.out]; rfl, HA.out.trans (HB.out.mono (by omega))⟩
    · have Q := Lib.hid (isGB_no (p := p) (l := l) fun h => h24 h.2.1)
      have h24' : (24 : Int) < (l.length : Int) := by omega
      go_enter Try.func118, Try.ntmps118
      go_wp2_with fail
      refine (l1In_yes _ _ _ _ hp.1 hp.2).mono ?_
      rintro e w1 ⟨rfl, rfl⟩
      go_wp2_with fail
      go_ret
      exact ⟨by rw [Q.out]; rfl, HA.out⟩
  · have Q := Lib.hid (isGB_no (p := p) (l := l) fun h => hp h.1)
    have HP := Lib.hid (show p < 1 ∨ 8 < p by omega)
    clear hp
    go_enter Try.func118, Try.ntmps118
    go_wp2_with fail
    refine (l1In_no _ _ _ _ HP.out).mono ?_
    rintro e w1 ⟨rfl, rfl⟩
    go_wp2_with fail
    go_ret
    exact ⟨by rw [Q.out]; rfl, HA.out⟩
end Go.Proofs.Ytdkpmaahinbhlaa
/- Words on lists of bars, of no program: counting, putting a bar in its place, and what is reached after some rounds. No condition. -/
namespace Go.Proofs.Ytdkpmaahinbhlaa

theorem take_getD {α : Type} (l : List α) (z : α) (k : Nat) (h : k < l.length) : l.take (k + 1) = l.take k ++ [l.getD k z] := by
  rw [List.take_succ_eq_append_getElem h]
  congr 2
  simp [List.getD, List.getElem?_eq_getElem h]
theorem countP_take (p : Int × Int → Bool) (l : List (Int × Int)) (k : Nat) (h : k < l.length) : (l.take (k + 1)).countP p = (l.take k).countP p + if p (l.getD k (0, 0)) then 1 else 0 := by
  rw [take_getD l (0, 0) k h, List.countP_append, List.countP_cons, List.countP_nil, Nat.zero_add]

/-- A bar between a and b. -/
def hitB (a b : Int) (x : Int × Int) : Bool := decide ((x.1 = a ∧ x.2 = b) ∨ (x.1 = b ∧ x.2 = a))
/-- A bar with the end v. -/
def endB (v : Int) (x : Int × Int) : Bool := decide (x.1 = v ∨ x.2 = v)

/-! What is reached. -/
def relaxF (S : Nat → Bool) (x : Int × Int) : Nat → Bool := fun v => S v || ((decide (v = x.1.toNat) || decide (v = x.2.toNat)) && (S x.1.toNat || S x.2.toNat))
def iterF (l : List (Int × Int)) : Nat → (Nat → Bool) → Nat → Bool
  | 0, S => S
  | k + 1, S => l.foldl relaxF (iterF l k S)
def rowB (n : Nat) (S : Nat → Bool) : List Bool := (List.range n).map S
theorem rowB_len (n : Nat) (S : Nat → Bool) : (rowB n S).length = n := by simp [rowB]
theorem rowB_get (n : Nat) (S : Nat → Bool) (v : Nat) (h : v < n) : (rowB n S)[v]? = some (S v) := by simp [rowB, h]
theorem rowB_set (n : Nat) (S : Nat → Bool) (x : Int × Int) :
    ((rowB n S).set x.1.toNat (S x.1.toNat || S x.2.toNat)).set x.2.toNat (S x.1.toNat || S x.2.toNat) = rowB n (relaxF S x) := by
  apply List.ext_getElem?
  intro i
  by_cases hi : i < n
  · rw [rowB_get n _ i hi, List.getElem?_set, List.getElem?_set, rowB_get n S i hi]
    simp only [List.length_set, rowB_len]
    by_cases h2 : x.2.toNat = i
    · subst h2
      simp [hi, relaxF]
      exact fun h => .inr h
    · by_cases h1 : x.1.toNat = i
      · subst h1
        simp [hi, relaxF, h2]
      · have h1' : ¬ i = x.1.toNat := fun h => h1 h.symm
        have h2' : ¬ i = x.2.toNat := fun h => h2 h.symm
        simp [h1, h2, h1', h2', relaxF]
  · rw [List.getElem?_eq_none (by simp [rowB_len]; omega), List.getElem?_eq_none (by simp [rowB_len]; omega)]
theorem relaxF_no (S : Nat → Bool) (x : Int × Int) (h : (S x.1.toNat || S x.2.toNat) = false) : relaxF S x = S := by
  funext v
  simp [relaxF, h]
theorem relaxF_ge (S : Nat → Bool) (x : Int × Int) (v : Nat) (h : S v = true) : relaxF S x v = true := by simp [relaxF, h]
theorem foldF_ge : ∀ (l : List (Int × Int)) (S : Nat → Bool) (v : Nat), S v = true → l.foldl relaxF S v = true := by
  intro l
  induction l with
  | nil => intro S v h; exact h
  | cons x l ih => intro S v h; exact ih _ v (relaxF_ge S x v h)
/-- The bars' ends lie below p. -/
def InP (p : Nat) (l : List (Int × Int)) : Prop := ∀ x ∈ l, x.1.toNat < p ∧ x.2.toNat < p
theorem foldF_agree (p : Nat) : ∀ (l : List (Int × Int)) (S T : Nat → Bool), InP p l → (∀ v, v < p → S v = T v) → ∀ v, v < p → l.foldl relaxF S v = l.foldl relaxF T v := by
  intro l
  induction l with
  | nil => intro S T _ h; exact h
  | cons x l ih =>
    intro S T hl h
    refine ih _ _ (fun y hy => hl y (List.mem_cons_of_mem _ hy)) fun v hv => ?_
    obtain ⟨h1, h2⟩ := hl x (List.mem_cons_self ..)
    simp [relaxF, h v hv, h _ h1, h _ h2]
/-- How many are reached below p. -/
def cntF (p : Nat) (S : Nat → Bool) : Nat := (List.range p).countP S
theorem cntF_step : ∀ (p : Nat) (S T : Nat → Bool), (∀ v, S v = true → T v = true) → cntF p S ≤ cntF p T ∧ (cntF p T ≤ cntF p S → ∀ v, v < p → T v = S v) := by
  intro p S T h
  induction p with
  | zero => exact ⟨Nat.le_refl _, fun _ v hv => absurd hv (by omega)⟩
  | succ p ih =>
    obtain ⟨i1, i2⟩ := ih
    unfold cntF at *
    rw [List.range_succ, List.countP_append, List.countP_append, List.countP_cons, List.countP_cons, List.countP_nil]
    have hp := h p
    have key : ∀ c : T p = S p, ∀ v, (List.countP T (List.range p) ≤ List.countP S (List.range p)) → v < p + 1 → T v = S v := fun c v hle hv => by
      by_cases e : v = p
      · subst e; exact c
      · exact i2 hle v (by omega)
    cases hs : S p <;> cases ht : T p
    · simp
      exact ⟨i1, fun hle v hv => key (by rw [hs, ht]) v hle hv⟩
    · simp
      exact ⟨by omega, fun hle => by omega⟩
    · rw [hs, ht] at hp; exact absurd (hp rfl) (by decide)
    · simp
      exact ⟨i1, fun hle v hv => key (by rw [hs, ht]) v hle hv⟩
theorem cntF_all : ∀ (p : Nat) (S : Nat → Bool), cntF p S ≤ p ∧ (p ≤ cntF p S → ∀ v, v < p → S v = true) := by
  intro p S
  induction p with
  | zero => exact ⟨Nat.le_refl _, fun _ v hv => absurd hv (by omega)⟩
  | succ p ih =>
    obtain ⟨i1, i2⟩ := ih
    unfold cntF at *
    rw [List.range_succ, List.countP_append, List.countP_cons, List.countP_nil]
    cases hs : S p
    · simp
      exact ⟨by omega, fun hle => by omega⟩
    · simp
      refine ⟨i1, fun hle v hv => ?_⟩
      by_cases e : v = p
      · subst e; exact hs
      · exact i2 hle v (by omega)
theorem cntF_one (p v0 : Nat) (h : v0 < p) : 1 ≤ cntF p (fun v => decide (v = v0)) := by
  unfold cntF
  exact List.countP_pos_iff.2 ⟨v0, List.mem_range.2 h, by simp⟩
theorem iter_grow (p : Nat) (l : List (Int × Int)) (hl : InP p l) (v0 : Nat) (h0 : v0 < p) : ∀ k, (∀ v, v < p → iterF l (k + 1) (fun v => decide (v = v0)) v = iterF l k (fun v => decide (v = v0)) v) ∨ k + 1 ≤ cntF p (iterF l k (fun v => decide (v = v0))) := by
  intro k
  induction k with
  | zero => exact .inr (cntF_one p v0 h0)
  | succ k ih =>
    have again : (∀ v, v < p → iterF l (k + 1) (fun v => decide (v = v0)) v = iterF l k (fun v => decide (v = v0)) v) → ∀ v, v < p → iterF l (k + 1 + 1) (fun v => decide (v = v0)) v = iterF l (k + 1) (fun v => decide (v = v0)) v := fun h => foldF_agree p l _ _ hl h
    rcases ih with h | h
    · exact .inl (again h)
    · have hs := cntF_step p (iterF l k (fun v => decide (v = v0))) (iterF l (k + 1) (fun v => decide (v = v0))) (fun v hv => foldF_ge l _ v hv)
      by_cases hc : k + 1 + 1 ≤ cntF p (iterF l (k + 1) (fun v => decide (v = v0)))
      · exact .inr hc
      · exact .inl (again (hs.2 (by omega)))
/-- One round less than there are points is enough. -/
theorem iter_enough (p : Nat) (l : List (Int × Int)) (hl : InP (p + 1) l) (v0 : Nat) (h0 : v0 < p + 1) (v : Nat) (hv : v < p + 1) : iterF l (p + 1) (fun v => decide (v = v0)) v = iterF l p (fun v => decide (v = v0)) v := by
  rcases iter_grow (p + 1) l hl v0 h0 p with h | h
  · exact h v hv
  · have := (cntF_all (p + 1) _).2 h v hv
    rw [this]
    exact foldF_ge l _ v this
/-- The points below n that are reached. -/
def outF (n : Nat) (S : Nat → Bool) : List Int := ((List.range n).filter S).map fun (v : Nat) => (v : Int)
theorem outF_succ (n : Nat) (S : Nat → Bool) : outF (n + 1) S = outF n S ++ if S n then [(n : Int)] else [] := by
  unfold outF
  rw [List.range_succ, List.filter_append, List.map_append]
  cases h : S n <;> simp [h]
theorem outF_agree (n : Nat) (S T : Nat → Bool) (h : ∀ v, v < n → S v = T v) : outF n S = outF n T := by
  unfold outF
  congr 1
  exact List.filter_congr fun v hv => h v (List.mem_range.1 hv)
theorem outF_len (n : Nat) (S : Nat → Bool) : (outF n S).length ≤ n := by
  unfold outF
  rw [List.length_map]
  exact Nat.le_trans (List.length_filter_le _ _) (by simp)

/-! A bar in its place. -/
/-- Behind all that are not greater. -/
def insU (x : Int × Int) : List (Int × Int) → List (Int × Int)
  | [] => [x]
  | y :: t => if aftB y x then y :: insU x t else x :: y :: t
theorem insU_all (x : Int × Int) : ∀ t u : List (Int × Int), (∀ y ∈ t, aftB y x = true) → insU x (t ++ u) = t ++ insU x u := by
  intro t u
  induction t with
  | nil => intro _; rfl
  | cons y t ih =>
    intro h
    rw [List.cons_append, insU, if_pos (h y (List.mem_cons_self ..)), ih fun z hz => h z (List.mem_cons_of_mem _ hz)]
    rfl
theorem insU_some (x : Int × Int) : ∀ t u : List (Int × Int), (∃ y ∈ t, aftB y x = false) → insU x (t ++ u) = insU x t ++ u := by
  intro t u
  induction t with
  | nil => rintro ⟨y, hy, _⟩; cases hy
  | cons y t ih =>
    rintro ⟨z, hz, h⟩
    rw [List.cons_append, insU, insU]
    by_cases c : aftB y x = true
    · rw [if_pos c, if_pos c, ih ?_]
      · rfl
      · rcases List.mem_cons.1 hz with rfl | hz
        · rw [c] at h; cases h
        · exact ⟨z, hz, h⟩
    · rw [if_neg c, if_neg c]
      rfl
/-- How many stand before x, as long as they do. -/
def lowB (x : Int × Int) : List (Int × Int) → Nat
  | [] => 0
  | y :: t => if aftB x y then 0 else lowB x t + 1
/-- The bars stand in their order. -/
def OrdB (l : List (Int × Int)) : Prop := l.Pairwise fun a b => aftB a b = true
theorem aftB_trans {a b c : Int × Int} (h : aftB a b = true) (k : aftB b c = true) : aftB a c = true := by
  simp [aftB] at *
  omega
theorem aftB_anti {a b : Int × Int} (h : aftB a b = true) (k : aftB b a = true) : a = b := by
  obtain ⟨a1, a2⟩ := a
  obtain ⟨b1, b2⟩ := b
  simp [aftB] at *
  omega
theorem aftB_total (a b : Int × Int) (h : aftB a b = false) : aftB b a = true := by
  simp [aftB] at *
  omega
theorem insU_front (x : Int × Int) : ∀ t : List (Int × Int), (∀ y ∈ t, aftB x y = true) → insU x t = x :: t := by
  intro t
  induction t with
  | nil => intro _; rfl
  | cons y t ih =>
    intro h
    have hy := h y (List.mem_cons_self ..)
    unfold insU
    by_cases c : aftB y x = true
    · have e : y = x := aftB_anti c hy
      subst e
      rw [if_pos c, ih fun z hz => h z (List.mem_cons_of_mem _ hz)]
    · rw [if_neg c]
theorem insU_low (x : Int × Int) : ∀ l : List (Int × Int), OrdB l → insU x l = l.take (lowB x l) ++ x :: l.drop (lowB x l) := by
  intro l
  induction l with
  | nil => intro _; rfl
  | cons y t ih =>
    intro h
    have h' := List.pairwise_cons.1 h
    unfold lowB
    by_cases c : aftB x y = true
    · rw [if_pos c, List.take_zero, List.drop_zero, List.nil_append]
      exact insU_front x (y :: t) fun z hz => by
        rcases List.mem_cons.1 hz with rfl | hz
        · exact c
        · exact aftB_trans c (h'.1 z hz)
    · rw [if_neg c, List.take_succ_cons, List.drop_succ_cons]
      have c' := aftB_total x y (by simpa using c)
      rw [insU, if_pos c', ih h'.2]
      rfl
theorem lowB_le (x : Int × Int) : ∀ l : List (Int × Int), lowB x l ≤ l.length := by
  intro l
  induction l with
  | nil => exact Nat.le_refl _
  | cons y t ih =>
    unfold lowB
    split
    · exact Nat.zero_le _
    · simpa using ih
/-- Before that place all stand before x, and from there on x stands before or beside all. -/
theorem lowB_at (x : Int × Int) : ∀ l : List (Int × Int), OrdB l → ∀ i, i < l.length → (aftB x (l.getD i (0, 0)) = true ↔ lowB x l ≤ i) := by
  intro l
  induction l with
  | nil => intro _ i hi; simp at hi
  | cons y t ih =>
    intro h i hi
    have h' := List.pairwise_cons.1 h
    unfold lowB
    by_cases c : aftB x y = true
    · rw [if_pos c]
      refine ⟨fun _ => Nat.zero_le _, fun _ => ?_⟩
      rcases i with _ | i
      · exact c
      · have hi' : i < t.length := by simpa using hi
        have : (y :: t).getD (i + 1) (0, 0) = t[i] := by simp [List.getD, List.getElem?_eq_getElem hi']
        rw [this]
        exact aftB_trans c (h'.1 _ (List.getElem_mem hi'))
    · rw [if_neg c]
      rcases i with _ | i
      · simp [List.getD]
        simpa using c
      · have := ih h'.2 i (by simpa using hi)
        simp only [List.getD_cons_succ]
        rw [this]
        omega
theorem insU_len (x : Int × Int) : ∀ l : List (Int × Int), (insU x l).length = l.length + 1 := by
  intro l
  induction l with
  | nil => rfl
  | cons y t ih =>
    unfold insU
    split
    · simp [ih]
    · simp
theorem isG_ord {p : Int} {l : List (Int × Int)} (h : IsG p l) : OrdB l := by
  have key : ∀ (d i : Nat), i + d + 1 < l.length → aftB (l.getD i (0, 0)) (l.getD (i + d + 1) (0, 0)) = true := by
    intro d
    induction d with
    | zero =>
      intro i hi
      have := (h.2.2 (i + 1) hi).2.2.2 (by omega)
      simpa using this
    | succ d ih =>
      intro i hi
      refine aftB_trans (ih i (by omega)) ?_
      have := (h.2.2 (i + d + 2) (by omega)).2.2.2 (by omega)
      have e : i + d + 2 - 1 = i + d + 1 := by omega
      rw [e] at this
      exact this
  refine List.pairwise_iff_getElem.2 fun i j hi hj hij => ?_
  have := key (j - i - 1) i (by omega)
  rw [show i + (j - i - 1) + 1 = j by omega] at this
  simpa [List.getD, List.getElem?_eq_getElem hi, List.getElem?_eq_getElem hj] using this
theorem isG_in {p : Int} {l : List (Int × Int)} (h : IsG p l) : InP p.toNat l := by
  intro x hx
  obtain ⟨i, hi, rfl⟩ := List.getElem_of_mem hx
  have := h.2.2 i hi
  simp only [OkBar, List.getD, List.getElem?_eq_getElem hi, Option.getD_some] at this
  omega
theorem isG_bar {p : Int} {l : List (Int × Int)} (h : IsG p l) (k : Nat) (hk : k < l.length) : 0 ≤ (l.getD k (0, 0)).1 ∧ (l.getD k (0, 0)).1 < (l.getD k (0, 0)).2 ∧ (l.getD k (0, 0)).2 < p := by
  have := h.2.2 k hk
  exact ⟨this.1, this.2.1, this.2.2.1⟩
end Go.Proofs.Ytdkpmaahinbhlaa
/- The laws' measures and comparisons of graphs (szBarS, szGraph, eqBar, eqBarS, eqGraph): graphs that read alike are equal. No condition. -/
namespace Go.Proofs.Ytdkpmaahinbhlaa
open Go.RowKit

theorem szBarS_c (A : Option Addr) (n cap : Nat) (left : Int) (w : World) (h0 : (n : Int) ≤ left) (h1 : left ≤ 1048576) :
    Calls Try.prog 162 #[.slice A n cap, .int .i64 left] w fun e w' => e = .returned (.int .i64 (left - n)) ∧ w = w' := by
  go_enter Try.func162, Try.ntmps162
  go_wp2
  go_ret
  exact ⟨rfl, rfl⟩
theorem szBarS_no (A : Option Addr) (n cap : Nat) (left : Int) (w : World) (hn : n ≤ 9223372036854775807) (h0 : left < (n : Int)) (h1 : 0 ≤ left) :
    Calls Try.prog 162 #[.slice A n cap, .int .i64 left] w fun e w' => e = .returned (.int .i64 (-1)) ∧ w = w' := by
  go_enter Try.func162, Try.ntmps162
  go_wp2
  go_ret
  exact ⟨rfl, rfl⟩
theorem szGraph_c (p : Int) (A : Option Addr) (n cap : Nat) (left : Int) (w : World) (h0 : (n : Int) ≤ left) (h1 : left ≤ 1048576) :
    Calls Try.prog 77 #[.agg #[.int .i64 p, .slice A n cap], .int .i64 left] w fun e w' => e = .returned (.int .i64 (left - n)) ∧ Below w.heap.size w w' := by
  go_enter Try.func77, Try.ntmps77
  go_wp2_with fail
  refine (szBarS_c A n cap left _ h0 h1).mono ?_
  rintro e w1 ⟨rfl, rfl⟩
  go_wp2_with fail
  go_ret
  exact ⟨rfl, (Below.refl _ _).alloc (Nat.le_refl _) _⟩
theorem szGraph_no (p : Int) (A : Option Addr) (n cap : Nat) (left : Int) (w : World) (hn : n ≤ 9223372036854775807) (h0 : left < (n : Int)) (h1 : 0 ≤ left) :
    Calls Try.prog 77 #[.agg #[.int .i64 p, .slice A n cap], .int .i64 left] w fun e w' => e = .returned (.int .i64 (-1)) ∧ Below w.heap.size w w' := by
  go_enter Try.func77, Try.ntmps77
  go_wp2_with fail
  refine (szBarS_no A n cap left _ hn h0 h1).mono ?_
  rintro e w1 ⟨rfl, rfl⟩
  go_wp2_with fail
  go_ret
  exact ⟨rfl, (Below.refl _ _).alloc (Nat.le_refl _) _⟩

theorem eqBar_c (x y : Int) (w : World) :
    Calls Try.prog 213 #[.agg #[.int .i64 x, .int .i64 y], .agg #[.int .i64 x, .int .i64 y]] w fun e w' => e = .returned (.bool true) ∧ Below w.heap.size w w' := by
  go_enter Try.func213, Try.ntmps213
  go_wp2
  go_ret
  exact ⟨rfl, ((Below.refl _ _).alloc (Nat.le_refl _) _).alloc (by simp) _⟩

set_option maxHeartbeats 400000 in
set_option maxRecDepth 100000 in
theorem eqBarS_c (l : List (Int × Int)) (A A' : Option Addr) (cap cap' : Nat) (w : World) (hl : BarsAt w w.heap.size A l) (hl' : BarsAt w w.heap.size A' l) (hn : l.length ≤ 1048576) :
    Calls Try.prog 170 #[.slice A l.length cap, .slice A' l.length cap'] w fun e w' => e = .returned (.bool true) ∧ Below w.heap.size w w' := by
  have HL := Lib.hid hl
  have HL' := Lib.hid hl'
  clear hl hl'
  go_enter Try.func170, Try.ntmps170
  go_wp2_with fail
  go_loopw [5] (fun i wr => ∃ k : Nat, k ≤ l.length ∧ i = .int .i64 k ∧ Below w.heap.size w wr) (fun i _ => l.length - (intOf i).toNat)
  case atStart => exact ⟨0, by omega, rfl, Below.refl _ _⟩
  case round =>
    obtain ⟨k, hk, rfl, hb⟩ := hrel
    have HB := Lib.hid hb
    have hbs := hb.size
    clear hb
    by_cases hlt : k < l.length
    · have hi : (k : Int) < (l.length : Int) := by omega
      obtain ⟨b, off, rfl, hbB, hcell⟩ := HL.out (by omega)
      obtain ⟨b', off', rfl, hbB', hcell'⟩ := HL'.out (by omega)
      have hc1 := (HB.out.cell (p := ⟨b, off + k * 2, none⟩) hbB).trans (hcell k hlt).1
      have hc2 := (HB.out.cell (p := ⟨b, off + k * 2 + 1, none⟩) hbB).trans (hcell k hlt).2
      have hc3 := (HB.out.cell (p := ⟨b', off' + k * 2, none⟩) hbB').trans (hcell' k hlt).1
      have hc4 := (HB.out.cell (p := ⟨b', off' + k * 2 + 1, none⟩) hbB').trans (hcell' k hlt).2
      clear hcell hcell'
      obtain ⟨p, hp⟩ : ∃ p, l.getD k (0, 0) = p := ⟨_, rfl⟩
      rw [hp] at hc1 hc2 hc3 hc4
      clear hp
      obtain ⟨x, y⟩ := p
      go_wp2_with fail
      go_still_tail 8, (by kernel_rfl)
      change wpList _ _ _ _ _ wr.drew
      have hbd : Below w.heap.size w wr.drew := HB.out.drew
      have hbs2 : w.heap.size ≤ wr.drew.heap.size := hbs
      have HBD := Lib.hid hbd
      clear hbd hc1 hc2 hc3 hc4
      generalize wr.drew = w2 at *
      go_wp2_with fail
      refine (eqBar_c x y w2).mono ?_
      rintro e w3 ⟨rfl, hb3⟩
      have HB3 := Lib.hid (HBD.out.trans (hb3.mono hbs2))
      clear hb3
      go_wp2_with fail
      go_roundw
      case rel => exact ⟨k + 1, by omega, by go_num, HB3.out⟩
      case measure => simp [intOf]; omega
    · go_wp2_with fail
      go_ret
      exact ⟨rfl, HB.out⟩

set_option maxHeartbeats 400000 in
set_option maxRecDepth 100000 in
theorem eqGraph_c (p : Int) (l : List (Int × Int)) (A A' : Option Addr) (cap cap' : Nat) (w : World) (hl : BarsAt w w.heap.size A l) (hl' : BarsAt w w.heap.size A' l) (hn : l.length ≤ 1048576) :
    Calls Try.prog 82 #[.agg #[.int .i64 p, .slice A l.length cap], .agg #[.int .i64 p, .slice A' l.length cap']] w fun e w' => e = .returned (.bool true) ∧ Below w.heap.size w w' := by
  have HL := Lib.hid hl
  have HL' := Lib.hid hl'
  clear hl hl'
  go_enter Try.func82, Try.ntmps82
  go_wp2_with fail
  have hA : Below w.heap.size w ((w.alloc (.cells #[.int .i64 p, .slice A l.length cap] 26)).alloc (.cells #[.int .i64 p, .slice A' l.length cap'] 26)) :=
    ((Below.refl _ _).alloc (Nat.le_refl _) _).alloc (by simp) _
  refine (eqBarS_c l A A' cap cap' _ ((HL.out.kept hA).more hA.size) ((HL'.out.kept hA).more hA.size) hn).mono ?_
  rintro e w1 ⟨rfl, hb1⟩
  have HB := Lib.hid (hA.trans (hb1.mono hA.size))
  clear hA hb1
  go_wp2_with fail
  go_ret
  exact ⟨rfl, HB.out⟩
end Go.Proofs.Ytdkpmaahinbhlaa
/- The laws' marks on a graph's bars (markBarS, heldBarS, markGraph, heldGraph): what is written into memory of its own is found there again. No condition. -/
namespace Go.Proofs.Ytdkpmaahinbhlaa
open Go.RowKit

/-- The bars that the marks from k on make. -/
def marks (k : Int) (n : Nat) : List (Int × Int) := (List.range n).map fun (i : Nat) => (k + 2 * (i : Int), k + 2 * (i : Int) + 1)
theorem marks_len (k : Int) (n : Nat) : (marks k n).length = n := by simp [marks]
theorem marks_get (k : Int) (n i : Nat) (h : i < n) : (marks k n).getD i (0, 0) = (k + 2 * (i : Int), k + 2 * (i : Int) + 1) := by simp [marks, List.getD, h]
theorem marks_step (k : Int) (l : List (Int × Int)) (i : Nat) (h : i < l.length) : (marks k i ++ l.drop i).set i (k + 2 * (i : Int), k + 2 * (i : Int) + 1) = marks k (i + 1) ++ l.drop (i + 1) := by
  rw [List.set_append_right _ _ (by rw [marks_len]; exact Nat.le_refl _), marks_len, Nat.sub_self, List.drop_eq_getElem_cons h, List.set_cons_zero]
  unfold marks
  rw [List.range_succ, List.map_append, List.append_assoc]
  rfl

set_option maxHeartbeats 800000 in
set_option maxRecDepth 100000 in
theorem markBarS_c (g : Nat) (l : List (Int × Int)) (cap : Nat) (k : Int) (base : Nat) (w : World) (hown : w.ownsRow base 108 2 (.slice (some ⟨g, 0, none⟩) l.length cap) l.length (barCells l)) (hn : l.length ≤ 1048576) (hk0 : 0 ≤ k) (hk1 : k ≤ 10000000) :
    Calls Try.prog 171 #[.slice (some ⟨g, 0, none⟩) l.length cap, .int .i64 k] w fun e w' => e = .returned (.int .i64 (k + 2 * (l.length : Int))) ∧ w'.ownsRow base 108 2 (.slice (some ⟨g, 0, none⟩) l.length cap) l.length (barCells (marks k l.length)) ∧ w.grownBy w' (some g) := by
  have HO := Lib.hid hown
  clear hown
  go_enter Try.func171, Try.ntmps171
  go_wp2_with fail
  go_loopw [1, 5] (fun m i wr => ∃ j : Nat, j ≤ l.length ∧ i = .int .i64 j ∧ m = .int .i64 (k + 2 * (j : Int)) ∧ wr.ownsRow base 108 2 (.slice (some ⟨g, 0, none⟩) l.length cap) l.length (barCells (marks k j ++ l.drop j)) ∧ w.grownBy wr (some g)) (fun _ i _ => l.length - (intOf i).toNat)
  case atStart => exact ⟨0, by omega, rfl, by simp, HO.out, World.grownBy.refl _ _⟩
  case round =>
    obtain ⟨j, hj, rfl, rfl, hown, hg⟩ := hrel
    have HG := Lib.hid hg
    clear hg
    by_cases hlt : j < l.length
    · have hi : (j : Int) < (l.length : Int) := by omega
      have hlen : (marks k j ++ l.drop j).length = l.length := by rw [List.length_append, marks_len, List.length_drop]; omega
      have hgc := barCells_get (marks k j ++ l.drop j) j (by omega)
      have hd1 := (hown.cellAt (j * 2) (by omega)).trans hgc.1
      have hd2 := (hown.cellAt (j * 2 + 1) (by omega)).trans hgc.2
      have hf1 := hown.frozenAt (j * 2)
      have hf2 := hown.frozenAt (j * 2 + 1)
      have hst1 := hown.stored (j * 2) (.int .i64 (k + 2 * (j : Int)))
      have hst2 := hst1.1.stored (j * 2 + 1) (.int .i64 (k + 2 * (j : Int) + 1))
      have HG2 := Lib.hid ((HG.out.trans_ hst1.2).trans_ hst2.2)
      have hst3 := hst2.1
      rw [barCells_set _ _ (k + 2 * (j : Int), k + 2 * (j : Int) + 1), marks_step k l j hlt] at hst3
      have HST := Lib.hid hst3
      clear hst1 hst2 hst3 hgc hown hlen
      go_wp2_with fail
      go_roundw
      case rel => exact ⟨j + 1, by omega, by go_num, by go_num, HST.out, HG2.out⟩
      case measure => simp [intOf]; omega
    · obtain rfl : j = l.length := by omega
      rw [List.drop_length, List.append_nil] at hown
      go_wp2_with fail
      go_ret
      exact ⟨rfl, hown, HG.out⟩

/-- Nothing is marked where there is no bar. -/
theorem markBarS_nil (A : Option Addr) (cap : Nat) (k : Int) (w : World) :
    Calls Try.prog 171 #[.slice A 0 cap, .int .i64 k] w fun e w' => e = .returned (.int .i64 k) ∧ w = w' := by
  go_enter Try.func171, Try.ntmps171
  go_wp2_with fail
  refine wp_loop_rounds 1 ?_
  rw [rounds_succ]
  go_wp2_with fail
  go_ret
  exact ⟨rfl, rfl⟩

set_option maxHeartbeats 400000 in
set_option maxRecDepth 100000 in
theorem markGraph_c (p : Int) (g : Nat) (l : List (Int × Int)) (cap : Nat) (k : Int) (base : Nat) (w : World) (hown : w.ownsRow base 108 2 (.slice (some ⟨g, 0, none⟩) l.length cap) l.length (barCells l)) (hn : l.length ≤ 1048576) (hk0 : 0 ≤ k) (hk1 : k ≤ 10000000) :
    Calls Try.prog 83 #[.agg #[.int .i64 p, .slice (some ⟨g, 0, none⟩) l.length cap], .int .i64 k] w fun e w' => e = .returned (.int .i64 (k + 2 * (l.length : Int))) ∧ w'.ownsRow base 108 2 (.slice (some ⟨g, 0, none⟩) l.length cap) l.length (barCells (marks k l.length)) ∧ w.grownBy w' (some g) := by
  have HO := Lib.hid (hown.alloc (.cells #[.int .i64 p, .slice (some ⟨g, 0, none⟩) l.length cap] 26))
  clear hown
  go_enter Try.func83, Try.ntmps83
  go_wp2_with fail
  refine (markBarS_c g l cap k base _ HO.out hn hk0 hk1).mono ?_
  rintro e w1 ⟨rfl, ho1, hg1⟩
  have HO1 := Lib.hid ho1
  have HG1 := Lib.hid ((World.grownBy_alloc w (.cells #[.int .i64 p, .slice (some ⟨g, 0, none⟩) l.length cap] 26) (some g)).trans_ hg1)
  clear ho1 hg1
  go_wp2_with fail
  go_ret
  exact ⟨rfl, HO1.out, HG1.out⟩
end Go.Proofs.Ytdkpmaahinbhlaa
/- What the laws' walks carry from call to call: a graph in a box of its own, and the bars that it points to. No condition. -/
namespace Go.Proofs.Ytdkpmaahinbhlaa
open Go.RowKit

/-- A graph by value lies in the block b. -/
def Box (W : World) (b : Nat) (q : Int) (v : Value) : Prop := b < W.heap.size ∧ W.cell? ⟨b, 0, none⟩ = some (.int .i64 q) ∧ W.cell? ⟨b, 1, none⟩ = some v
theorem Box.kept {W W' : World} {b : Nat} {q : Int} {v : Value} (h : Box W b q v) (hb : Below W.heap.size W W') : Box W' b q v :=
  ⟨Nat.lt_of_lt_of_le h.1 hb.size, (hb.cell (p := ⟨b, 0, none⟩) h.1).trans h.2.1, (hb.cell (p := ⟨b, 1, none⟩) h.1).trans h.2.2⟩
theorem Box.grown {W W' : World} {b g : Nat} {q : Int} {v : Value} (h : Box W b q v) (hg : W.grownBy W' (some g)) (hne : b ≠ g) : Box W' b q v :=
  ⟨Nat.lt_of_lt_of_le h.1 hg.size, (World.cell?_of_block (hg.block b h.1 (by simpa using hne))).trans h.2.1, (World.cell?_of_block (hg.block b h.1 (by simpa using hne))).trans h.2.2⟩
theorem box_new (w : World) (q : Int) (v : Value) (t : TypeId) : Box (w.alloc (.cells #[.int .i64 q, v] t)) w.heap.size q v :=
  ⟨by simp, by rw [World.cell?_alloc_at _ _ _ _ rfl]; rfl, by rw [World.cell?_alloc_at _ _ _ _ rfl]; rfl⟩
theorem new_below (w : World) (o : Obj) : Below w.heap.size w (w.alloc o) := (Below.refl _ _).alloc (Nat.le_refl _) _
/-- Bars that lie below what a later world has. -/
theorem BarsAt.on {w w' : World} {A : Option Addr} {l : List (Int × Int)} (h : BarsAt w w.heap.size A l) (hb : Below w.heap.size w w') : BarsAt w' w'.heap.size A l := (h.kept hb).more hb.size
theorem BarsAt.nil (w : World) (B : Nat) (A : Option Addr) : BarsAt w B A [] := fun h => absurd h (by simp)
theorem BarsAt.grown {w w' : World} {B g : Nat} {A : Option Addr} {l : List (Int × Int)} (h : BarsAt w B A l) (hg : w.grownBy w' (some g)) (hB : B ≤ w.heap.size) (hne : ∀ a, A = some a → 0 < l.length → a.block ≠ g) : BarsAt w' B A l := fun hl => by
  obtain ⟨b, off, rfl, hlt, hc⟩ := h hl
  have hn := hne _ rfl hl
  simp only at hn
  exact ⟨b, off, rfl, hlt, fun k hk => ⟨(World.cell?_of_block (a := ⟨b, off + k * 2, none⟩) (hg.block b (by omega) (by simpa using hn))).trans (hc k hk).1, (World.cell?_of_block (a := ⟨b, off + k * 2 + 1, none⟩) (hg.block b (by omega) (by simpa using hn))).trans (hc k hk).2⟩⟩
theorem below_on {B : Nat} {a b c : World} (h : Below B a b) (k : Below b.heap.size b c) (hB : B ≤ b.heap.size) : Below B a c := h.trans (k.mono hB)
theorem box2 {W : World} {b1 b2 : Nat} {q1 q2 : Int} {v1 v2 : Value} (h1 : Box W b1 q1 v1) (h2 : Box W b2 q2 v2) :
    W.cell? ⟨b1, 0, none⟩ = some (.int .i64 q1) ∧ W.cell? ⟨b1, 1, none⟩ = some v1 ∧ W.cell? ⟨b2, 0, none⟩ = some (.int .i64 q2) ∧ W.cell? ⟨b2, 1, none⟩ = some v2 := ⟨h1.2.1, h1.2.2, h2.2.1, h2.2.2⟩
end Go.Proofs.Ytdkpmaahinbhlaa
/- What the laws' walks carry over calls that write between two bounds: graphs in boxes, bars that lie between bounds, rows of the call's own. No condition. -/
namespace Go.Proofs.Ytdkpmaahinbhlaa
open Go.RowKit

/-- What lay outside the blocks from lo to hi is as it was. -/
structure Within (lo hi : Nat) (w w' : World) : Prop where
  os : w'.os = w.os
  tape : w'.tape = w.tape
  output : w'.output = w.output
  size : w.heap.size ≤ w'.heap.size
  block : ∀ k, k < w.heap.size → (k < lo ∨ hi ≤ k) → w'.heap[k]? = w.heap[k]?
theorem within_of {w w' : World} (hb : Below w.heap.size w w') : Within 0 0 w w' := ⟨hb.os, hb.tape, hb.output, hb.size, fun k hk _ => hb.block k hk⟩
theorem within_on {B lo hi : Nat} {a b c : World} (h : Below B a b) (k : Within lo hi b c) (hB : B ≤ b.heap.size) (hd : B ≤ lo ∨ hi ≤ lo) : Below B a c :=
  ⟨k.os.trans h.os, k.tape.trans h.tape, k.output.trans h.output, Nat.le_trans h.size k.size, fun i hi' => (k.block i (by omega) (by omega)).trans (h.block i hi')⟩
theorem Box.within {W W' : World} {b lo hi : Nat} {q : Int} {v : Value} (h : Box W b q v) (hw : Within lo hi W W') (hd : b < lo ∨ hi ≤ b) : Box W' b q v :=
  ⟨Nat.lt_of_lt_of_le h.1 hw.size, (World.cell?_of_block (hw.block b h.1 hd)).trans h.2.1, (World.cell?_of_block (hw.block b h.1 hd)).trans h.2.2⟩
/-- The bars l lie in a block from lo to hi. -/
def BarsIn (W : World) (lo hi : Nat) (A : Option Addr) (l : List (Int × Int)) : Prop :=
  hi ≤ W.heap.size ∧ (0 < l.length → ∃ b off, A = some ⟨b, off, none⟩ ∧ lo ≤ b ∧ b < hi ∧ ∀ k, k < l.length → W.cell? ⟨b, off + k * 2, none⟩ = some (.int .i64 (l.getD k (0, 0)).1) ∧ W.cell? ⟨b, off + k * 2 + 1, none⟩ = some (.int .i64 (l.getD k (0, 0)).2))
theorem BarsIn.within {W W' : World} {lo hi lo' hi' : Nat} {A : Option Addr} {l : List (Int × Int)} (h : BarsIn W lo hi A l) (hw : Within lo' hi' W W') (hd : hi ≤ lo' ∨ hi' ≤ lo) : BarsIn W' lo hi A l :=
  ⟨Nat.le_trans h.1 hw.size, fun hl => by
    obtain ⟨b, off, e, h1, h2, hc⟩ := h.2 hl
    have hk := hw.block b (Nat.lt_of_lt_of_le h2 h.1) (by omega)
    exact ⟨b, off, e, h1, h2, fun k hk' => ⟨(World.cell?_of_block (a := ⟨b, off + k * 2, none⟩) hk).trans (hc k hk').1, (World.cell?_of_block (a := ⟨b, off + k * 2 + 1, none⟩) hk).trans (hc k hk').2⟩⟩⟩
theorem BarsIn.at {W : World} {lo hi : Nat} {A : Option Addr} {l : List (Int × Int)} (h : BarsIn W lo hi A l) : BarsAt W W.heap.size A l := fun hl => by
  obtain ⟨b, off, e, h1, h2, hc⟩ := h.2 hl
  exact ⟨b, off, e, Nat.lt_of_lt_of_le h2 h.1, hc⟩
theorem bars_in {W : World} {A : Option Addr} {l : List (Int × Int)} (h : BarsAt W W.heap.size A l) : BarsIn W 0 W.heap.size A l :=
  ⟨Nat.le_refl _, fun hl => by obtain ⟨b, off, e, h1, hc⟩ := h hl; exact ⟨b, off, e, Nat.zero_le _, h1, hc⟩⟩
/-- A row of bars of the call's own in a block from lo to hi, or no bars. -/
def OwnIn (W : World) (lo hi : Nat) (A : Option Addr) (cap : Nat) (l : List (Int × Int)) : Prop :=
  hi ≤ W.heap.size ∧ (l = [] ∨ ∃ g, A = some ⟨g, 0, none⟩ ∧ lo ≤ g ∧ g < hi ∧ W.ownsRow lo 108 2 (.slice (some ⟨g, 0, none⟩) l.length cap) l.length (barCells l))
theorem own_block {W W' : World} {base size : Nat} {e : TypeId} {g cap n : Nat} {xs : List Value} (h : W.ownsRow base e size (.slice (some ⟨g, 0, none⟩) n cap) n xs) (hb : W'.heap[g]? = W.heap[g]?) : W'.ownsRow base e size (.slice (some ⟨g, 0, none⟩) n cap) n xs := by
  refine ⟨h.1, ?_⟩
  rcases h.2 with ⟨h1, _⟩ | ⟨g', cap', cur, h1, h2, h3, h4⟩
  · cases h1
  · cases h1
    exact .inr ⟨g, cap, cur, rfl, h2, hb.trans h3, h4⟩
theorem OwnIn.within {W W' : World} {lo hi lo' hi' : Nat} {A : Option Addr} {cap : Nat} {l : List (Int × Int)} (h : OwnIn W lo hi A cap l) (hw : Within lo' hi' W W') (hd : hi ≤ lo' ∨ hi' ≤ lo) : OwnIn W' lo hi A cap l :=
  ⟨Nat.le_trans h.1 hw.size, by
    rcases h.2 with h2 | ⟨g, e, h1, h2, ho⟩
    · exact .inl h2
    · exact .inr ⟨g, e, h1, h2, own_block ho (hw.block g (Nat.lt_of_lt_of_le h2 h.1) (by omega))⟩⟩
theorem OwnIn.bars {W : World} {lo hi : Nat} {A : Option Addr} {cap : Nat} {l : List (Int × Int)} (h : OwnIn W lo hi A cap l) : BarsIn W lo hi A l :=
  ⟨h.1, fun hl => by
    rcases h.2 with h2 | ⟨g, e, h1, h2, ho⟩
    · subst h2; simp at hl
    · obtain ⟨b, off, e', hlt, hc⟩ := own_bars ho hl
      cases e'
      exact ⟨g, 0, e, h1, h2, hc⟩⟩
theorem own_in {w' : World} {base : Nat} {g cap : Nat} {l : List (Int × Int)} (h : w'.ownsRow base 108 2 (.slice (some ⟨g, 0, none⟩) l.length cap) l.length (barCells l)) : OwnIn w' base w'.heap.size (some ⟨g, 0, none⟩) cap l :=
  ⟨Nat.le_refl _, .inr ⟨g, rfl, (h.lt g rfl).1, (h.lt g rfl).2, h⟩⟩
theorem own_in' {w' : World} {base : Nat} {A : Option Addr} {cap : Nat} {l : List (Int × Int)} (h : w'.ownsRow base 108 2 (.slice A l.length cap) l.length (barCells l)) : OwnIn w' base w'.heap.size A cap l := by
  rcases h.2 with ⟨h1, h0⟩ | ⟨g, cap', cur, h1, h2⟩
  · exact ⟨Nat.le_refl _, .inl (List.eq_nil_of_length_eq_zero h0)⟩
  · cases h1
    exact own_in h
theorem own_nil (w : World) (base : Nat) (A : Option Addr) (cap : Nat) : OwnIn w base w.heap.size A cap [] := ⟨Nat.le_refl _, .inl rfl⟩

set_option maxHeartbeats 400000 in
theorem markGraph_o (p : Int) (A : Option Addr) (cap : Nat) (l : List (Int × Int)) (k : Int) (lo hi : Nat) (w : World) (h : OwnIn w lo hi A cap l) (hn : l.length ≤ 1048576) (hk0 : 0 ≤ k) (hk1 : k ≤ 10000000) :
    Calls Try.prog 83 #[.agg #[.int .i64 p, .slice A l.length cap], .int .i64 k] w fun e w' => e = .returned (.int .i64 (k + 2 * (l.length : Int))) ∧ Within lo hi w w' ∧ OwnIn w' lo hi A cap (marks k l.length) := by
  have hhi := h.1
  rcases h.2 with h2 | ⟨g, rfl, h1, h2, ho⟩
  · subst h2
    clear h
    go_enter Try.func83, Try.ntmps83
    go_wp2_with fail
    refine (markBarS_nil A cap k _).mono ?_
    rintro e w1 ⟨rfl, rfl⟩
    go_wp2_with fail
    go_ret
    have hb := new_below w (.cells #[.int .i64 p, .slice A 0 cap] 26)
    exact ⟨by simp, ⟨hb.os, hb.tape, hb.output, hb.size, fun k hk _ => hb.block k hk⟩, Nat.le_trans hhi hb.size, .inl rfl⟩
  · refine (markGraph_c p g l cap k lo w ho hn hk0 hk1).mono ?_
    rintro e w1 ⟨rfl, ho1, hg1⟩
    refine ⟨rfl, ⟨hg1.os, hg1.tape, hg1.output, hg1.size, fun j hj hd => hg1.block j hj (by simp; omega)⟩, Nat.le_trans hhi hg1.size, .inr ⟨g, rfl, h1, h2, ?_⟩⟩
    have := marks_len k l.length
    rw [this]
    exact ho1

/-- What the specification's functions return: a graph that is read. -/
def GraphR (w : World) (p : Int) (l : List (Int × Int)) (e : Ending) (w' : World) : Prop :=
  ∃ A cap, e = .returned (.agg #[.int .i64 p, .slice A l.length cap]) ∧ BarsAt w' w'.heap.size A l ∧ Below w.heap.size w w'
def GraphRB (w : World) (p : Int) (l : List (Int × Int)) (r : Bool) (e : Ending) (w' : World) : Prop :=
  ∃ A cap, e = .returned (.tuple #[.agg #[.int .i64 p, .slice A l.length cap], .bool r]) ∧ BarsAt w' w'.heap.size A l ∧ Below w.heap.size w w'
/-- What the program's functions return: a graph of the call's own. -/
def GraphO (w : World) (p : Int) (l : List (Int × Int)) (e : Ending) (w' : World) : Prop :=
  ∃ A cap, e = .returned (.agg #[.int .i64 p, .slice A l.length cap]) ∧ OwnIn w' w.heap.size w'.heap.size A cap l ∧ Below w.heap.size w w'
def GraphOB (w : World) (p : Int) (l : List (Int × Int)) (r : Bool) (e : Ending) (w' : World) : Prop :=
  ∃ A cap, e = .returned (.tuple #[.agg #[.int .i64 p, .slice A l.length cap], .bool r]) ∧ OwnIn w' w.heap.size w'.heap.size A cap l ∧ Below w.heap.size w w'
end Go.Proofs.Ytdkpmaahinbhlaa
/- What the library's cmp.Compare and cmp.Or and the program's Bar.compare answer. No condition. -/
namespace Go.Proofs.Ytdkpmaahinbhlaa
open Go.RowKit

def cmpI (a b : Int) : Int := if a < b then -1 else if b < a then 1 else 0
def orI (a b : Int) : Int := if a = 0 then b else a
def cmpB (x y : Int × Int) : Int := orI (cmpI x.1 y.1) (cmpI x.2 y.2)
theorem cmpB_neg (x y : Int × Int) : cmpB x y < 0 ↔ aftB y x = false := by
  obtain ⟨a, b⟩ := x
  obtain ⟨c, d⟩ := y
  simp only [cmpB, orI, cmpI, aftB, decide_eq_false_iff_not]
  repeat' split
  all_goals omega
theorem cmpI_in (a b : Int) : -1 ≤ cmpI a b ∧ cmpI a b ≤ 1 := by
  unfold cmpI
  repeat' split
  all_goals omega
theorem cmpB_in (x y : Int × Int) : -1 ≤ cmpB x y ∧ cmpB x y ≤ 1 := by
  have h1 := cmpI_in x.1 y.1
  have h2 := cmpI_in x.2 y.2
  unfold cmpB orI
  split <;> omega

theorem isNaN_c (a : Int) (w : World) :
    Calls Try.prog 234 #[.int .i64 a] w fun e w' => e = .returned (.bool false) ∧ w' = w := by
  go_enter Try.func234, Try.ntmps234
  go_wp2
  go_ret
  exact ⟨by simp, rfl⟩

theorem compare_i (a b : Int) (w : World) :
    Calls Try.prog 231 #[.int .i64 a, .int .i64 b] w fun e w' => e = .returned (.int .i64 (cmpI a b)) ∧ w' = w := by
  by_cases h1 : a < b
  · have h2 : ¬ b < a := by omega
    have HC := Lib.hid (show cmpI a b = -1 by simp [cmpI, h1])
    go_enter Try.func231, Try.ntmps231
    go_wp2_with fail
    refine (isNaN_c a _).mono ?_
    rintro e w1 ⟨rfl, rfl⟩
    go_wp2_with fail
    refine (isNaN_c b _).mono ?_
    rintro e w1 ⟨rfl, rfl⟩
    go_wp2_with fail
    go_ret
    exact ⟨by rw [HC.out]; rfl, rfl⟩
  · by_cases h2 : b < a
    · have HC := Lib.hid (show cmpI a b = 1 by simp [cmpI, h1, h2])
      go_enter Try.func231, Try.ntmps231
      go_wp2_with fail
      refine (isNaN_c a _).mono ?_
      rintro e w1 ⟨rfl, rfl⟩
      go_wp2_with fail
      refine (isNaN_c b _).mono ?_
      rintro e w1 ⟨rfl, rfl⟩
      go_wp2_with fail
      go_ret
      exact ⟨by rw [HC.out]; rfl, rfl⟩
    · have HC := Lib.hid (show cmpI a b = 0 by simp [cmpI, h1, h2])
      go_enter Try.func231, Try.ntmps231
      go_wp2_with fail
      refine (isNaN_c a _).mono ?_
      rintro e w1 ⟨rfl, rfl⟩
      go_wp2_with fail
      refine (isNaN_c b _).mono ?_
      rintro e w1 ⟨rfl, rfl⟩
      go_wp2_with fail
      go_ret
      exact ⟨by rw [HC.out]; rfl, rfl⟩

theorem or_c (x y : Int) (g : Nat) (w : World) (h0 : w.cell? ⟨g, 0, none⟩ = some (.int .i64 x)) (h1 : w.cell? ⟨g, 1, none⟩ = some (.int .i64 y)) :
    Calls Try.prog 230 #[.slice (some ⟨g, 0, none⟩) 2 2] w fun e w' => e = .returned (.int .i64 (orI x y)) ∧ w' = w := by
  by_cases hx : x = 0
  · by_cases hy : y = 0
    · have HC := Lib.hid (show orI x y = 0 by simp [orI, hx, hy])
      subst hx hy
      go_enter Try.func230, Try.ntmps230
      go_wp2_with fail
      refine wp_loop_rounds 3 ?_
      rw [rounds_succ]
      go_wp2_with fail
      rw [rounds_succ]
      go_wp2_with fail
      rw [rounds_succ]
      go_wp2_with fail
      go_ret
      exact ⟨by rw [HC.out]; rfl, rfl⟩
    · have HC := Lib.hid (show orI x y = y by simp [orI, hx])
      have hy' : (y != 0) = true := by simpa using hy
      subst hx
      go_enter Try.func230, Try.ntmps230
      go_wp2_with fail
      refine wp_loop_rounds 3 ?_
      rw [rounds_succ]
      go_wp2_with fail
      rw [rounds_succ]
      go_wp2_with fail
      go_ret
      exact ⟨by rw [HC.out]; rfl, rfl⟩
  · have HC := Lib.hid (show orI x y = x by simp [orI, hx])
    have hx' : (x != 0) = true := by simpa using hx
    go_enter Try.func230, Try.ntmps230
    go_wp2_with fail
    refine wp_loop_rounds 3 ?_
    rw [rounds_succ]
    go_wp2_with fail
    go_ret
    exact ⟨by rw [HC.out]; rfl, rfl⟩

set_option maxHeartbeats 1000000 in
set_option maxRecDepth 100000 in
theorem compare_b (x y : Int × Int) (w : World) :
    Calls Try.prog 196 #[.agg #[.int .i64 x.1, .int .i64 x.2], .agg #[.int .i64 y.1, .int .i64 y.2]] w fun e w' => e = .returned (.int .i64 (cmpB x y)) ∧ Below w.heap.size w w' := by
  obtain ⟨a, b⟩ := x
  obtain ⟨c, d⟩ := y
  have HC := Lib.hid (show cmpB (a, b) (c, d) = orI (cmpI a c) (cmpI b d) from rfl)
  have hA1 := new_below w (.cells #[.int .i64 a, .int .i64 b] 108)
  have hA2 := new_below (w.alloc (.cells #[.int .i64 a, .int .i64 b] 108)) (.cells #[.int .i64 c, .int .i64 d] 108)
  have HA := Lib.hid (below_on hA1 hA2 hA1.size)
  have HX := Lib.hid ((box_new w a (.int .i64 b) 108).kept hA2)
  have hY := box_new (w.alloc (.cells #[.int .i64 a, .int .i64 b] 108)) c (.int .i64 d) 108
  rw [show (w.alloc (.cells #[.int .i64 a, .int .i64 b] 108)).heap.size = w.heap.size + 1 by simp] at hY
  have HY := Lib.hid hY
  clear hA1 hA2 hY
  go_enter Try.func196, Try.ntmps196
  go_wp2_with fail
  generalize ((w.alloc (.cells #[.int .i64 a, .int .i64 b] 108)).alloc (.cells #[.int .i64 c, .int .i64 d] 108)) = w2 at *
  obtain ⟨_, g1, g2⟩ := HX.out
  obtain ⟨_, g3, g4⟩ := HY.out
  go_still_tail 10, (by kernel_rfl)
  still_call (compare_i _ _ _)
  repeat still_step
  still_call (compare_i _ _ _)
  refine wpStill_nil ?_
  change wpList _ _ _ _ _ w2.drew
  have HD := Lib.hid (HA.out.drew)
  have hds : w.heap.size ≤ w2.drew.heap.size := HA.out.size
  clear g1 g2 g3 g4
  generalize w2.drew = w3 at *
  go_wp2_with fail
  refine (or_c (cmpI a c) (cmpI b d) w3.heap.size _ (by rw [World.cell?_alloc_at _ _ _ _ rfl]; rfl) (by rw [World.cell?_alloc_at _ _ _ _ rfl]; rfl)).mono ?_
  rintro e w4 ⟨rfl, rfl⟩
  go_wp2_with fail
  go_ret
  exact ⟨by rw [HC.out]; rfl, HD.out.alloc hds _⟩
end Go.Proofs.Ytdkpmaahinbhlaa
/- What the library's slices.IsSortedFunc answers of bars. No condition. -/
namespace Go.Proofs.Ytdkpmaahinbhlaa
open Go.RowKit

/-- Each bar but the first stands behind or beside the one before it. -/
def Srt (l : List (Int × Int)) : Prop := ∀ j : Nat, 0 < j → j < l.length → aftB (l.getD (j - 1) (0, 0)) (l.getD j (0, 0)) = true
open Classical in
noncomputable def sortedB (l : List (Int × Int)) : Bool := if Srt l then true else false
theorem sortedB_yes {l : List (Int × Int)} (h : Srt l) : sortedB l = true := by unfold sortedB; rw [if_pos h]
theorem sortedB_no {l : List (Int × Int)} (h : ¬ Srt l) : sortedB l = false := by unfold sortedB; rw [if_neg h]

set_option maxHeartbeats 1000000 in
set_option maxRecDepth 100000 in
theorem sorted_c (l : List (Int × Int)) (A : Option Addr) (cap : Nat) (w : World) (hl : BarsAt w w.heap.size A l) (hn : l.length ≤ 24) :
    Calls Try.prog 195 #[.slice A l.length cap, .func (.func 196) #[] #[]] w fun e w' => e = .returned (.bool (sortedB l)) ∧ Below w.heap.size w w' := by
  have HL := Lib.hid hl
  clear hl
  go_enter Try.func195, Try.ntmps195
  go_wp2_with fail
  go_loopw [5] (fun i wr => ∃ v : Int, i = .int .i64 v ∧ -1 ≤ v ∧ v < (l.length : Int) ∧ (∀ j : Nat, v < (j : Int) → 0 < j → j < l.length → aftB (l.getD (j - 1) (0, 0)) (l.getD j (0, 0)) = true) ∧ Below w.heap.size w wr) (fun i _ => (intOf i).toNat)
  case atStart => exact ⟨(l.length : Int) - 1, by go_num, by omega, by omega, fun j h1 _ h2 => by omega, Below.refl _ _⟩
  case round =>
    obtain ⟨v, rfl, hv1, hv2, hall, hb⟩ := hrel
    have HB := Lib.hid hb
    have HALL := Lib.hid hall
    have hbs := hb.size
    clear hb hall
    by_cases hv : 0 < v
    · obtain ⟨k, rfl⟩ : ∃ k : Nat, v = (k : Int) + 1 := ⟨(v - 1).toNat, by omega⟩
      obtain ⟨b, off, rfl, hbB, hcell⟩ := HL.out (by omega)
      have hc1 := (HB.out.cell (p := ⟨b, off + (k + 1) * 2, none⟩) hbB).trans (hcell (k + 1) (by omega)).1
      have hc2 := (HB.out.cell (p := ⟨b, off + (k + 1) * 2 + 1, none⟩) hbB).trans (hcell (k + 1) (by omega)).2
      have hc3 := (HB.out.cell (p := ⟨b, off + k * 2, none⟩) hbB).trans (hcell k (by omega)).1
      have hc4 := (HB.out.cell (p := ⟨b, off + k * 2 + 1, none⟩) hbB).trans (hcell k (by omega)).2
      have HS := Lib.hid (fun (h : aftB (l.getD k (0, 0)) (l.getD (k + 1) (0, 0)) = true) (j : Nat) (h1 : (k : Int) < (j : Int)) (h2 : 0 < j) (h3 : j < l.length) => (if e : j = k + 1 then by subst e; exact h else HALL.out j (by omega) h2 h3 : aftB (l.getD (j - 1) (0, 0)) (l.getD j (0, 0)) = true))
      have HN := Lib.hid (fun h : Srt l => h (k + 1) (by omega) (by omega))
      clear hcell
      obtain ⟨x, hx⟩ : ∃ x, l.getD (k + 1) (0, 0) = x := ⟨_, rfl⟩
      obtain ⟨y, hy⟩ : ∃ y, l.getD k (0, 0) = y := ⟨_, rfl⟩
      rw [hx] at hc1 hc2
      rw [hy] at hc3 hc4
      have HSY := Lib.hid (show aftB y x = true → _ from fun h => HS.out (by rw [hx, hy]; exact h))
      have HNY := Lib.hid (show aftB y x = false → ¬ Srt l from fun h k' => by
        have := HN.out k'
        rw [Nat.add_sub_cancel, hx, hy, h] at this
        cases this)
      have HCB := Lib.hid (cmpB_neg x y)
      clear HS HN hx hy
      have hk1 : (0 : Int) ≤ (k : Int) + 1 := by omega
      have htn : ((k : Int) + 1).toNat = k + 1 := by omega
      have hk2 : (k : Int) < (l.length : Int) := by omega
      have hwr : IntKind.i64.wrap (k : Int) = (k : Int) := IntWalk.i64_in _ (by omega)
      obtain ⟨x1, x2⟩ := x
      obtain ⟨y1, y2⟩ := y
      simp only at hc1 hc2 hc3 hc4
      go_wp2_with fail
      go_still_tail 10, (by kernel_rfl)
      change wpList _ _ _ _ _ wr.drew
      have HD := Lib.hid (HB.out.drew)
      have hds : w.heap.size ≤ wr.drew.heap.size := hbs
      clear hc1 hc2 hc3 hc4
      generalize wr.drew = w2 at *
      go_wp2_with fail
      refine (compare_b (x1, x2) (y1, y2) _).mono ?_
      rintro e w3 ⟨rfl, hb3⟩
      have HB3 := Lib.hid (HD.out.trans (hb3.mono hds))
      clear hb3
      by_cases ha : aftB (y1, y2) (x1, x2) = true
      · have hlt : ¬ cmpB (x1, x2) (y1, y2) < 0 := fun h => by have := HCB.out.1 h; rw [this] at ha; cases ha
        have HH := Lib.hid (HSY.out ha)
        clear ha
        go_wp2_with fail
        go_roundw
        case rel => exact ⟨(k : Int), by go_num, by omega, by omega, HH.out, HB3.out⟩
        case measure => simp [intOf] <;> omega
      · have ha' : aftB (y1, y2) (x1, x2) = false := by simpa using ha
        have hlt : cmpB (x1, x2) (y1, y2) < 0 := HCB.out.2 ha'
        have HH := Lib.hid (sortedB_no (HNY.out ha'))
        clear ha ha'
        go_wp2_with fail
        go_ret
        exact ⟨by rw [HH.out]; rfl, HB3.out⟩
    · have HH := Lib.hid (sortedB_yes (l := l) fun j h1 h2 => HALL.out j (by omega) h1 h2)
      go_wp2_with fail
      go_ret
      exact ⟨by rw [HH.out]; rfl, HB.out⟩
end Go.Proofs.Ytdkpmaahinbhlaa
/- What the program's IsGraph answers: the same as the specification's. No condition. -/
namespace Go.Proofs.Ytdkpmaahinbhlaa
open Go.RowKit

theorem specIsGraph' (p : Int) (l : List (Int × Int)) (A : Option Addr) (cap : Nat) (w : World) (hl : BarsAt w w.heap.size A l) (hn : l.length ≤ 1048576) :
    Calls Try.prog 118 #[.agg #[.int .i64 p, .slice A l.length cap]] w fun e w' => e = .returned (.bool (isGB p l)) ∧ Below w.heap.size w w' := specIsGraph p l A cap w hl (by omega)

/-- A bar's ends are in order and below p. -/
def EndsOk (p : Int) (l : List (Int × Int)) (k : Nat) : Prop := 0 ≤ (l.getD k (0, 0)).1 ∧ (l.getD k (0, 0)).1 < (l.getD k (0, 0)).2 ∧ (l.getD k (0, 0)).2 < p
theorem isG_of {p : Int} {l : List (Int × Int)} (hp : 1 ≤ p ∧ p ≤ 8) (h24 : l.length ≤ 24) (he : ∀ k, k < l.length → EndsOk p l k) (hs : Srt l) : IsG p l :=
  ⟨hp, h24, fun i hi => ⟨(he i hi).1, (he i hi).2.1, (he i hi).2.2, fun h0 => hs i h0 hi⟩⟩
theorem srt_of {p : Int} {l : List (Int × Int)} (h : IsG p l) : Srt l := fun j h0 hj => (h.2.2 j hj).2.2.2 h0

set_option maxHeartbeats 2000000 in
set_option maxRecDepth 100000 in
theorem implIsGraph (p : Int) (l : List (Int × Int)) (A : Option Addr) (cap : Nat) (w : World) (hl : BarsAt w w.heap.size A l) (hn : l.length ≤ 1048576) :
    Calls Try.prog 130 #[.agg #[.int .i64 p, .slice A l.length cap]] w fun e w' => e = .returned (.bool (isGB p l)) ∧ Below w.heap.size w w' := by
  have hA := new_below w (.cells #[.int .i64 p, .slice A l.length cap] 26)
  have HA := Lib.hid hA
  have HL := Lib.hid (hl.on hA)
  have BX := Lib.hid (box_new w p (.slice A l.length cap) 26)
  clear hl hA
  by_cases hp : 1 ≤ p ∧ p ≤ 8
  · by_cases h24 : l.length ≤ 24
    · obtain ⟨hp1, hp2⟩ := hp
      have d1 : ¬ p < 1 := by omega
      have d2 : ¬ 8 < p := by omega
      have d3 : ¬ (24 : Int) < (l.length : Int) := by omega
      go_enter Try.func130, Try.ntmps130
      go_wp2_with fail
      generalize (w.alloc (.cells #[.int .i64 p, .slice A l.length cap] 26)) = w0 at *
      go_loopw [22] (fun i wr => ∃ k : Nat, k ≤ l.length ∧ i = .int .i64 k ∧ (∀ j, j < k → EndsOk p l j) ∧ Below w0.heap.size w0 wr) (fun i _ => l.length - (intOf i).toNat)
      case atStart => exact ⟨0, by omega, rfl, fun j hj => absurd hj (by omega), Below.refl _ _⟩
      case round =>
        obtain ⟨k, hk, rfl, hok, hb⟩ := hrel
        have BX1 := Lib.hid (BX.out.kept hb)
        have HB := Lib.hid hb
        have HOK := Lib.hid hok
        have hbs := hb.size
        clear hb hok
        by_cases hlt : k < l.length
        · have hi : (k : Int) < (l.length : Int) := by omega
          obtain ⟨b, off, rfl, hbB, hcell⟩ := HL.out (by omega)
          have hc1 := (HB.out.cell (p := ⟨b, off + k * 2, none⟩) hbB).trans (hcell k hlt).1
          have hc2 := (HB.out.cell (p := ⟨b, off + k * 2 + 1, none⟩) hbB).trans (hcell k hlt).2
          have HSTEP := Lib.hid (show EndsOk p l k → ∀ j, j < k + 1 → EndsOk p l j from fun h j hj => by
            by_cases e : j = k
            · subst e; exact h
            · exact HOK.out j (by omega))
          have HNOT := Lib.hid (show ¬ EndsOk p l k → isGB p l = false from fun h => isGB_no fun g => h ⟨(g.2.2 k hlt).1, (g.2.2 k hlt).2.1, (g.2.2 k hlt).2.2.1⟩)
          have HDEF := Lib.hid (show EndsOk p l k = (0 ≤ (l.getD k (0, 0)).1 ∧ (l.getD k (0, 0)).1 < (l.getD k (0, 0)).2 ∧ (l.getD k (0, 0)).2 < p) from rfl)
          obtain ⟨x, hx⟩ : ∃ x, l.getD k (0, 0) = x := ⟨_, rfl⟩
          rw [hx] at hc1 hc2 HDEF
          clear hx hcell
          obtain ⟨x1, x2⟩ := x
          simp only at hc1 hc2 HDEF
          have hal := new_below wr (.cells #[.int .i64 x1, .int .i64 x2] 108)
          have BX2 := Lib.hid (BX1.out.kept hal)
          have HX2 := Lib.hid (box_new wr x1 (.int .i64 x2) 108)
          have HB2 := Lib.hid (below_on HB.out hal hbs)
          clear hal
          obtain ⟨_, g2, g3⟩ := BX2.out
          by_cases c1 : x1 < 0
          · have Q := Lib.hid (HNOT.out (by rw [HDEF.out]; omega))
            go_wp2_with fail
            go_ret
            exact ⟨by rw [Q.out]; rfl, below_on HA.out HB2.out HA.out.size⟩
          · by_cases c2 : x2 ≤ x1
            · have Q := Lib.hid (HNOT.out (by rw [HDEF.out]; omega))
              go_wp2_with fail
              go_ret
              exact ⟨by rw [Q.out]; rfl, below_on HA.out HB2.out HA.out.size⟩
            · by_cases c3 : p ≤ x2
              · have Q := Lib.hid (HNOT.out (by rw [HDEF.out]; omega))
                go_wp2_with fail
                go_ret
                exact ⟨by rw [Q.out]; rfl, below_on HA.out HB2.out HA.out.size⟩
              · have HS := Lib.hid (HSTEP.out (by rw [HDEF.out]; omega))
                go_wp2_with fail
                go_roundw
                case rel => exact ⟨k + 1, by omega, by go_num, HS.out, HB2.out⟩
                case measure => simp [intOf]; omega
        · obtain rfl : k = l.length := by omega
          have HQ := Lib.hid (show isGB p l = sortedB l by
            by_cases h : Srt l
            · rw [sortedB_yes h, isGB_yes (isG_of ⟨hp1, hp2⟩ h24 HOK.out h)]
            · rw [sortedB_no h, isGB_no fun g => h (srt_of g)])
          obtain ⟨_, g2, g3⟩ := BX1.out
          go_wp2_with fail
          clear g2 g3
          refine (sorted_c l A cap _ (HL.out.on HB.out) h24).mono ?_
          rintro e w3 ⟨rfl, hb3⟩
          have HB3 := Lib.hid (below_on (below_on HA.out HB.out HA.out.size) hb3 (Nat.le_trans HA.out.size hbs))
          clear hb3
          go_wp2_with fail
          go_ret
          exact ⟨by rw [HQ.out]; rfl, HB3.out⟩
    · obtain ⟨hp1, hp2⟩ := hp
      have d1 : ¬ p < 1 := by omega
      have d2 : ¬ 8 < p := by omega
      have d3 : (24 : Int) < (l.length : Int) := by omega
      have Q := Lib.hid (isGB_no (p := p) (l := l) fun g => h24 g.2.1)
      go_enter Try.func130, Try.ntmps130
      go_wp2_with fail
      go_ret
      exact ⟨by rw [Q.out]; rfl, HA.out⟩
  · have Q := Lib.hid (isGB_no (p := p) (l := l) fun g => hp g.1)
    by_cases d1 : p < 1
    · clear hp
      go_enter Try.func130, Try.ntmps130
      go_wp2_with fail
      go_ret
      exact ⟨by rw [Q.out]; rfl, HA.out⟩
    · have d2 : 8 < p := by omega
      clear hp
      go_enter Try.func130, Try.ntmps130
      go_wp2_with fail
      go_ret
      exact ⟨by rw [Q.out]; rfl, HA.out⟩
end Go.Proofs.Ytdkpmaahinbhlaa
/- The mathematics of a framework: which are valid, the squares of the lengths, mirror images and turns. No condition. -/
namespace Go.Proofs.Ytdkpmaahinbhlaa
open Go.RowKit

/-- A place of the grid. -/
def OnG (x : Int × Int) : Prop := (0 ≤ x.1 ∧ x.1 ≤ 4) ∧ 0 ≤ x.2 ∧ x.2 ≤ 4
instance (x : Int × Int) : Decidable (OnG x) := by unfold OnG; exact inferInstance
/-- The place of a joint. -/
def plc (m : List (Int × Int)) (v : Int) : Int × Int := m.getD v.toNat (0, 0)
/-- The bar at place i has a length, and is no second one of its kind. -/
def OkF (l m : List (Int × Int)) (i : Nat) : Prop :=
  plc m (l.getD i (0, 0)).1 ≠ plc m (l.getD i (0, 0)).2 ∧ (0 < i → l.getD (i - 1) (0, 0) ≠ l.getD i (0, 0))
/-- A framework. -/
structure IsF (p : Int) (l m : List (Int × Int)) : Prop where
  g : IsG p l
  six : p ≤ 6
  len : (m.length : Int) = p
  bars : l.length ≤ 15
  grid : ∀ i, i < m.length → OnG (m.getD i (0, 0))
  ok : ∀ i, i < l.length → OkF l m i
open Classical in
noncomputable def isFB (p : Int) (l m : List (Int × Int)) : Bool := if IsF p l m then true else false
theorem isFB_yes {p : Int} {l m : List (Int × Int)} (h : IsF p l m) : isFB p l m = true := by unfold isFB; rw [if_pos h]
theorem isFB_no {p : Int} {l m : List (Int × Int)} (h : ¬ IsF p l m) : isFB p l m = false := by unfold isFB; rw [if_neg h]
theorem isFB_iff {p : Int} {l m : List (Int × Int)} : isFB p l m = true ↔ IsF p l m := by
  constructor
  · intro h
    exact Classical.byContradiction fun hn => by rw [isFB_no hn] at h; cases h
  · exact isFB_yes
theorem IsF.ends {p : Int} {l m : List (Int × Int)} (h : IsF p l m) {i : Nat} (hi : i < l.length) :
    0 ≤ (l.getD i (0, 0)).1 ∧ (l.getD i (0, 0)).1 < (l.getD i (0, 0)).2 ∧ (l.getD i (0, 0)).2 < p := ⟨(h.g.2.2 i hi).1, (h.g.2.2 i hi).2.1, (h.g.2.2 i hi).2.2.1⟩
theorem IsF.on {p : Int} {l m : List (Int × Int)} (h : IsF p l m) {v : Int} (h0 : 0 ≤ v) (h1 : v < p) : OnG (plc m v) := h.grid _ (by have := h.len; omega)
/-- The square of the distance of two places. -/
def sqD (a b : Int × Int) : Int := (a.1 - b.1) * (a.1 - b.1) + (a.2 - b.2) * (a.2 - b.2)
def sqB (m : List (Int × Int)) (x : Int × Int) : Int := sqD (plc m x.1) (plc m x.2)
/-- What SquareLengths answers. -/
noncomputable def sqL (p : Int) (l m : List (Int × Int)) : List Int := if isFB p l m = true then l.map (sqB m) else []
theorem sqL_yes {p : Int} {l m : List (Int × Int)} (h : isFB p l m = true) : sqL p l m = l.map (sqB m) := by unfold sqL; rw [if_pos h]
theorem sqL_no {p : Int} {l m : List (Int × Int)} (h : isFB p l m = false) : sqL p l m = [] := by unfold sqL; rw [if_neg (by rw [h]; simp)]
theorem sqL_len (p : Int) (l m : List (Int × Int)) : (sqL p l m).length ≤ 15 := by
  by_cases h : isFB p l m = true
  · rw [sqL_yes h, List.length_map]
    exact (isFB_iff.1 h).bars
  · rw [sqL_no (by simpa using h)]
    simp
/-- A framework's places after a change of each. -/
noncomputable def chgL (f : Int × Int → Int × Int) (p : Int) (l m : List (Int × Int)) : List (Int × Int) := if isFB p l m = true then m.map f else m
theorem chgL_yes {f : Int × Int → Int × Int} {p : Int} {l m : List (Int × Int)} (h : isFB p l m = true) : chgL f p l m = m.map f := by unfold chgL; rw [if_pos h]
theorem chgL_no {f : Int × Int → Int × Int} {p : Int} {l m : List (Int × Int)} (h : isFB p l m = false) : chgL f p l m = m := by unfold chgL; rw [if_neg (by rw [h]; simp)]
theorem chgL_len (f : Int × Int → Int × Int) (p : Int) (l m : List (Int × Int)) : (chgL f p l m).length = m.length := by
  unfold chgL
  split <;> simp
def mirF (x : Int × Int) : Int × Int := (4 - x.1, x.2)
def turF (x : Int × Int) : Int × Int := (4 - x.2, x.1)
/-- The places of which the first k are changed. -/
theorem chg_step (f : Int × Int → Int × Int) (m : List (Int × Int)) (k : Nat) (h : k < m.length) :
    ((m.take k).map f ++ m.drop k).set k (f (m.getD k (0, 0))) = (m.take (k + 1)).map f ++ m.drop (k + 1) := by
  have hl : ((m.take k).map f).length = k := by simp; omega
  have e : m.getD k (0, 0) = m[k] := by simp [List.getD, List.getElem?_eq_getElem h]
  rw [e, List.set_append_right _ _ (by omega), hl, Nat.sub_self, List.drop_eq_getElem_cons h, List.set_cons_zero, List.take_succ_eq_append_getElem h, List.map_append, List.append_assoc]
  rfl
theorem chg_get (f : Int × Int → Int × Int) (m : List (Int × Int)) (k : Nat) (h : k < m.length) : ((m.take k).map f ++ m.drop k).getD k (0, 0) = m.getD k (0, 0) := by
  have hl : ((m.take k).map f).length = k := by simp; omega
  rw [List.getD_eq_getElem?_getD, List.getElem?_append_right (by omega), hl, Nat.sub_self, List.getElem?_drop, Nat.add_zero, ← List.getD_eq_getElem?_getD]
/-- What MoveJoint answers. -/
noncomputable def movB (p : Int) (l m : List (Int × Int)) (v : Int) (x : Int × Int) : Bool := if isFB p l m = true ∧ 0 ≤ v ∧ v < p then isFB p l (m.set v.toNat x) else false
noncomputable def movL (p : Int) (l m : List (Int × Int)) (v : Int) (x : Int × Int) : List (Int × Int) := if movB p l m v x = true then m.set v.toNat x else m
theorem movL_len (p : Int) (l m : List (Int × Int)) (v : Int) (x : Int × Int) : (movL p l m v x).length = m.length := by
  unfold movL
  split <;> simp
/-- Three places on a line. -/
def colB (a b c : Int × Int) : Bool := decide (OnG a) && (decide (OnG b) && (decide (OnG c) && decide ((b.1 - a.1) * (c.2 - a.2) = (b.2 - a.2) * (c.1 - a.1))))
/-- Equal lengths. -/
noncomputable def sameF (p : Int) (l m : List (Int × Int)) (q : Int) (l' m' : List (Int × Int)) : Bool :=
  isFB p l m && (isFB q l' m' && (decide (p = q ∧ l = l') && decide (sqL p l m = sqL q l' m')))
end Go.Proofs.Ytdkpmaahinbhlaa
/- What EqualGraphs answers, the specification's and the program's. No condition. -/
namespace Go.Proofs.Ytdkpmaahinbhlaa
open Go.RowKit

/-- Two bars differ. -/
def neB (x y u v : Int) : Bool := !(x == u && y == v)
theorem neqBar (x y u v : Int) (w : World) : (binOp .neq 108 (.agg #[.int .i64 x, .int .i64 y]) (.agg #[.int .i64 u, .int .i64 v])).run Try.prog w = .ok (.bool (neB x y u v)) w := by
  have u3 := Try.underlying3
  have a3 := Try.isAgg3
  have z3 := Try.sizeOf3
  have hS : Try.prog.underlying 108 = some (.struct (Try.prog.fieldsOf 108)) := by kernel_rfl
  have hp : Try.prog.stoodInHeld 108 = false := by kernel_rfl
  rw [run_neq_struct, show (10000 : Nat) = 9999 + 1 from rfl, run_equalIn_agg w 9999 108 _ _ hS hp]
  simp only [Program.fieldsOf, Try.underlying108]
  go_simp
  unfold neB
  by_cases h1 : x = u <;> by_cases h2 : y = v <;> simp [h1, h2]
theorem guardBar (op : BinOp) (a b : Operand) (x y u v : Int) (w : World) : (eqGuard op 108 a b (.agg #[.int .i64 x, .int .i64 y]) (.agg #[.int .i64 u, .int .i64 v])).run Try.prog w = .ok () w :=
  run_eqGuard_agg w op 108 a b _ _ (by kernel_rfl)
attribute [local go_sem ↓] neqBar guardBar

theorem neB_no {a b : Int × Int} (h : a = b) : neB a.1 a.2 b.1 b.2 = false := by subst h; simp [neB]
theorem neB_yes {a b : Int × Int} (h : a ≠ b) : neB a.1 a.2 b.1 b.2 = true := by
  obtain ⟨x, y⟩ := a
  obtain ⟨u, v⟩ := b
  simp only [neB, Bool.not_eq_true', Bool.and_eq_false_iff, beq_eq_false_iff_ne]
  by_cases h1 : x = u
  · right; intro h2; exact h (by rw [h1, h2])
  · left; exact h1
/-- Two rows of bars are equal. -/
def sameL (l m : List (Int × Int)) : Bool := decide (l = m)
theorem sameL_yes {l m : List (Int × Int)} (h : l = m) : sameL l m = true := decide_eq_true h
theorem sameL_no {l m : List (Int × Int)} (h : ¬ l = m) : sameL l m = false := decide_eq_false h
theorem list_eq (l m : List (Int × Int)) (h : l.length = m.length) (hk : ∀ j, j < l.length → l.getD j (0, 0) = m.getD j (0, 0)) : l = m := by
  apply List.ext_getElem h
  intro i h1 h2
  have := hk i h1
  simpa [List.getD, List.getElem?_eq_getElem h1, List.getElem?_eq_getElem h2] using this

/-- Two graphs are equal. -/
def eqG (p q : Int) (l m : List (Int × Int)) : Bool := decide (p = q ∧ l = m)

end Go.Proofs.Ytdkpmaahinbhlaa
/- Rows of ints of the call's own; an append onto a row of the call's own, with the block where the new row lies. No condition. -/
namespace Go.Proofs.Ytdkpmaahinbhlaa
open Go.RowKit

/-- Several cells, just laid, appended onto a row of the call's own: what is written, and where the row lies then. -/
theorem wpList_at {P : Program} (w : World) {ops : Array Oper} {rest : List Oper} {o : Oper} {a : Act} {Q : Exit → Act → World → Prop} (hgd : o.guard = none) (s x : Operand) (t : TypeId)
    (ho : o.op = .call { callee := .builtin .append, args := #[s, x], argTypes := #[t, t] })
    (base : Nat) (e : TypeId) (z : Value) (size bytes : Nat) (ht : P.underlying t = some (.slice e)) (hinfo : (P.info? e).map (fun i => (i.zero, i.size, i.bytes)) = some (some z, size, bytes)) (hzs : z.cells.size = size) (hsz : 0 < size)
    (v : Value) (n : Nat) (xs : List Value) (hs : a.eval s = v) (hown : w.ownsRow base e size v n xs) (us : Array Value) (m : Nat) (hm : us.size = m * size) (hu : ∀ u ∈ us.toList, u.oneCell' = true) (tb : TypeId) (c : Nat) (hx : a.eval x = .slice (some ⟨w.heap.size, 0, none⟩) m c)
    (hbytes : (n + m) * bytes ≤ 140737488355328) (h63 : n + m ≤ maxLen) (hbase : base ≤ w.heap.size)
    (h : ∀ v' w', w'.ownsRow base e size v' (n + m) (xs ++ us.toList) → w.grownBy w' v.ownBlock → (v'.ownBlock = v.ownBlock ∨ v'.ownBlock = some (w.heap.size + 1)) → (v' = .slice none 0 0 ↔ v = .slice none 0 0 ∧ m = 0) → wpList P ops Q rest (a.put o.dst v') w') : wpList P ops Q (o :: rest) a (w.alloc (.cells us tb)) := by
  obtain ⟨i, hi, hz0, hz1, hz2⟩ := info_parts hinfo
  refine wpList_append_own_at _ hgd s x t ho base e i z size bytes ht hi hz0 hz1 hz2 hzs hsz v n xs hs (hown.alloc _) ⟨w.heap.size, 0, none⟩ m c us.toList hx (by simpa using hm) ?_ hu h63 hbytes (by simp; omega) ?_
  · intro j y hj
    have : (⟨w.heap.size, 0, none⟩ : Addr).add j = ⟨w.heap.size, j, none⟩ := by unfold Addr.add; split <;> simp_all
    rw [this, World.cell?_alloc_at _ _ _ _ rfl]
    simpa using hj
  · intro v' w' hown' hg hnil hat
    exact h v' w' hown' ((World.grownBy_alloc w (.cells us tb) v.ownBlock).trans_ hg) (by simpa using hat) hnil

theorem own_shape {w : World} {base size : Nat} {e : TypeId} {v : Value} {n : Nat} {xs : List Value} (h : w.ownsRow base e size v n xs) : ∃ A c, v = .slice A n c := by
  rcases h.2 with ⟨rfl, rfl⟩ | ⟨g, c, _, rfl, _⟩
  · exact ⟨none, 0, rfl⟩
  · exact ⟨_, c, rfl⟩
theorem infoInt : (Try.prog.info? 3).map (fun i => (i.zero, i.size, i.bytes)) = some (some (.int .i64 0), 1, 8) := by kernel_rfl

/-- The slice at A reads as the ints zs, in a block from lo to hi. -/
def IntsIn (W : World) (lo hi : Nat) (A : Option Addr) (zs : List Int) : Prop :=
  hi ≤ W.heap.size ∧ (0 < zs.length → ∃ b off, A = some ⟨b, off, none⟩ ∧ lo ≤ b ∧ b < hi ∧ ∀ k, k < zs.length → W.cell? ⟨b, off + k, none⟩ = some (.int .i64 (zs.getD k 0)))
theorem IntsIn.within {W W' : World} {lo hi lo' hi' : Nat} {A : Option Addr} {zs : List Int} (h : IntsIn W lo hi A zs) (hw : Within lo' hi' W W') (hd : hi ≤ lo' ∨ hi' ≤ lo) : IntsIn W' lo hi A zs :=
  ⟨Nat.le_trans h.1 hw.size, fun hl => by
    obtain ⟨b, off, e, h1, h2, hc⟩ := h.2 hl
    have hk := hw.block b (Nat.lt_of_lt_of_le h2 h.1) (by omega)
    exact ⟨b, off, e, h1, h2, fun k hk' => (World.cell?_of_block (a := ⟨b, off + k, none⟩) hk).trans (hc k hk')⟩⟩
def intCells (zs : List Int) : List Value := zs.map (Value.int .i64)
theorem intCells_get (zs : List Int) (k : Nat) (h : k < zs.length) : (intCells zs)[k]? = some (.int .i64 (zs.getD k 0)) := by
  simp [intCells, List.getD, List.getElem?_eq_getElem h]
theorem intCells_len (zs : List Int) : (intCells zs).length = zs.length := by simp [intCells]
/-- A row of ints of the call's own. -/
def OwnInts (W : World) (lo hi : Nat) (A : Option Addr) (cap : Nat) (zs : List Int) : Prop :=
  hi ≤ W.heap.size ∧ (zs = [] ∨ ∃ g, A = some ⟨g, 0, none⟩ ∧ lo ≤ g ∧ g < hi ∧ W.ownsRow lo 3 1 (.slice (some ⟨g, 0, none⟩) zs.length cap) zs.length (intCells zs))
theorem OwnInts.within {W W' : World} {lo hi lo' hi' : Nat} {A : Option Addr} {cap : Nat} {zs : List Int} (h : OwnInts W lo hi A cap zs) (hw : Within lo' hi' W W') (hd : hi ≤ lo' ∨ hi' ≤ lo) : OwnInts W' lo hi A cap zs :=
  ⟨Nat.le_trans h.1 hw.size, by
    rcases h.2 with h2 | ⟨g, e, h1, h2, ho⟩
    · exact .inl h2
    · exact .inr ⟨g, e, h1, h2, own_block ho (hw.block g (Nat.lt_of_lt_of_le h2 h.1) (by omega))⟩⟩
theorem OwnInts.reads {W : World} {lo hi : Nat} {A : Option Addr} {cap : Nat} {zs : List Int} (h : OwnInts W lo hi A cap zs) : IntsIn W lo hi A zs :=
  ⟨h.1, fun hl => by
    rcases h.2 with h2 | ⟨g, e, h1, h2, ho⟩
    · subst h2; simp at hl
    · exact ⟨g, 0, e, h1, h2, fun k hk => by
        rw [Nat.zero_add]
        exact (ho.cellAt k (by omega)).trans (intCells_get zs k hk)⟩⟩
theorem own_ints' {w' : World} {base : Nat} {A : Option Addr} {cap : Nat} {zs : List Int} (h : w'.ownsRow base 3 1 (.slice A zs.length cap) zs.length (intCells zs)) : OwnInts w' base w'.heap.size A cap zs := by
  rcases h.2 with ⟨h1, h0⟩ | ⟨g, cap', cur, h1, h2⟩
  · exact ⟨Nat.le_refl _, .inl (List.eq_nil_of_length_eq_zero h0)⟩
  · cases h1
    exact ⟨Nat.le_refl _, .inr ⟨g, rfl, (h.lt g rfl).1, (h.lt g rfl).2, h⟩⟩
end Go.Proofs.Ytdkpmaahinbhlaa
/- A graph that is being built in a box: bars are appended one by one to a row of the call's own, while other blocks stay as they were. No condition. -/
namespace Go.Proofs.Ytdkpmaahinbhlaa
open Go.RowKit

/-- The graph of p points with the bars l stands in the box bg; the blocks os are as they were in w0. -/
def GBox (B : Nat) (w0 wr : World) (bg : Nat) (os : List Nat) (p : Int) (A : Option Addr) (c : Nat) (l : List (Int × Int)) : Prop :=
  Box wr bg p (.slice A l.length c) ∧ wr.frozen? ⟨bg, 1, none⟩ = false ∧ (∀ a, A = some a → a.block ∉ os ∧ a.block ≠ bg) ∧ wr.ownsRow B 108 2 (.slice A l.length c) l.length (barCells l) ∧ (∀ o ∈ os, o < wr.heap.size ∧ wr.heap[o]? = w0.heap[o]? ∧ o ≠ bg) ∧ Below B w0 wr ∧ B ≤ bg
theorem GBox.cell {B : Nat} {w0 wr : World} {bg : Nat} {os : List Nat} {p : Int} {A : Option Addr} {c : Nat} {l : List (Int × Int)} (h : GBox B w0 wr bg os p A c l) {o k : Nat} (ho : o ∈ os) : wr.cell? ⟨o, k, none⟩ = w0.cell? ⟨o, k, none⟩ :=
  World.cell?_of_block (a := ⟨o, k, none⟩) (h.2.2.2.2.1 o ho).2.1
theorem GBox.frozen {B : Nat} {w0 wr : World} {bg : Nat} {os : List Nat} {p : Int} {A : Option Addr} {c : Nat} {l : List (Int × Int)} (h : GBox B w0 wr bg os p A c l) {o k : Nat} (ho : o ∈ os) : wr.frozen? ⟨o, k, none⟩ = w0.frozen? ⟨o, k, none⟩ :=
  World.frozen?_of_block (a := ⟨o, k, none⟩) (h.2.2.2.2.1 o ho).2.1
theorem GBox.below {B : Nat} {w0 wr w' : World} {bg : Nat} {os : List Nat} {p : Int} {A : Option Addr} {c : Nat} {l : List (Int × Int)} (h : GBox B w0 wr bg os p A c l) (hb : Below wr.heap.size wr w') : GBox B w0 w' bg os p A c l := by
  obtain ⟨h1, h2, h3, h4, h5, h6, h7⟩ := h
  refine ⟨h1.kept hb, (hb.frozen (p := ⟨bg, 1, none⟩) h1.1).trans h2, h3, own_below h4 hb, fun o ho => ?_, below_on h6 hb (Nat.le_of_lt (Nat.lt_of_le_of_lt h7 h1.1)), h7⟩
  obtain ⟨k1, k2, k3⟩ := h5 o ho
  exact ⟨Nat.lt_of_lt_of_le k1 hb.size, (hb.block o k1).trans k2, k3⟩
theorem GBox.push {B : Nat} {w0 wr w' : World} {bg : Nat} {os : List Nat} {p : Int} {A : Option Addr} {c : Nat} {l : List (Int × Int)} {v' : Value} (h : GBox B w0 wr bg os p A c l) (x : Int × Int)
    (ho : w'.ownsRow B 108 2 v' (l.length + 1) (barCells l ++ [.int .i64 x.1, .int .i64 x.2])) (hg : wr.grownBy w' (Value.slice A l.length c).ownBlock)
    (hat : v'.ownBlock = (Value.slice A l.length c).ownBlock ∨ v'.ownBlock = some (wr.heap.size + 1)) :
    w'.cell? ⟨bg, 0, none⟩ = some (.int .i64 p) ∧ w'.cell? ⟨bg, 1, none⟩ = some (.slice A l.length c) ∧ w'.frozen? ⟨bg, 1, none⟩ = false ∧ ∃ A2 c2, v' = .slice A2 (l.length + 1) c2 ∧ GBox B w0 (w'.setCell ⟨bg, 1, none⟩ v') bg os p A2 c2 (l ++ [x]) := by
  obtain ⟨h1, h2, h3, h4, h5, h6, h7⟩ := h
  have hne : ∀ o, o = bg ∨ o ∈ os → some o ≠ (Value.slice A l.length c).ownBlock := fun o hoo e => by
    cases A with
    | none => cases e
    | some a =>
      cases e
      rcases hoo with hoo | hoo
      · exact (h3 a rfl).2 hoo
      · exact (h3 a rfl).1 hoo
  have hblk := hg.block bg h1.1 (hne bg (.inl rfl))
  have c0 := (World.cell?_of_block (a := ⟨bg, 0, none⟩) hblk).trans h1.2.1
  have c1 := (World.cell?_of_block (a := ⟨bg, 1, none⟩) hblk).trans h1.2.2
  have f1 := (World.frozen?_of_block (a := ⟨bg, 1, none⟩) hblk).trans h2
  refine ⟨c0, c1, f1, ?_⟩
  obtain ⟨A2, c2, rfl⟩ := own_shape ho
  refine ⟨A2, c2, rfl, ?_⟩
  have hA2 : ∀ a, A2 = some a → a.block ∉ os ∧ a.block ≠ bg := fun a e => by
    subst e
    rcases hat with hat | hat
    · cases A with
      | none => cases hat
      | some a0 =>
        have : a.block = a0.block := by simpa [Value.ownBlock] using hat
        rw [this]
        exact h3 a0 rfl
    · have : a.block = wr.heap.size + 1 := by simpa [Value.ownBlock] using hat
      rw [this]
      refine ⟨fun hm => ?_, ?_⟩
      · have := (h5 _ hm).1
        omega
      · have := h1.1
        omega
  have hs := grownBy_set w' bg 1 (.slice A2 (l.length + 1) c2)
  have e2 : (l ++ [x]).length = l.length + 1 := by simp
  have e3 : barCells (l ++ [x]) = barCells l ++ [.int .i64 x.1, .int .i64 x.2] := by rw [barCells_append]; rfl
  unfold GBox
  rw [e2, e3]
  refine ⟨⟨?_, ?_, ?_⟩, ?_, hA2, ?_, fun o hoo => ?_, ?_, h7⟩
  · exact Nat.lt_of_lt_of_le (Nat.lt_of_lt_of_le h1.1 hg.size) hs.size
  · rw [World.cell?_setCell_other _ _ _ _ (by intro e; simp at e)]
    exact c0
  · exact World.cell?_setCell_same _ _ _ c1
  · rw [World.frozen?_setCell]
    exact f1
  · refine ho.kept hs ?_
    cases A2 with
    | none => exact .inl rfl
    | some a => exact .inr (by simp [Value.ownBlock]; exact (hA2 a rfl).2)
  · obtain ⟨k1, k2, k3⟩ := h5 o hoo
    exact ⟨Nat.lt_of_lt_of_le (Nat.lt_of_lt_of_le k1 hg.size) hs.size, (hs.block o (Nat.lt_of_lt_of_le k1 hg.size) (by simp; exact k3)).trans ((hg.block o k1 (hne o (.inr hoo))).trans k2), k3⟩
  · refine (h6.grown hg (Nat.le_of_lt (Nat.lt_of_le_of_lt h7 h1.1)) fun g e => (h4.lt g e).1).grown hs ?_ fun g e => by cases e; exact h7
    exact Nat.le_trans (Nat.le_of_lt (Nat.lt_of_le_of_lt h7 h1.1)) hg.size
/-- The same behind an append in a region that draws its order. -/
theorem GBox.push2 {B : Nat} {w0 wr w' : World} {bg : Nat} {os : List Nat} {p : Int} {A : Option Addr} {c : Nat} {l : List (Int × Int)} {gg c2 : Nat} {us : Array Value} {tb : TypeId} (h : GBox B w0 wr bg os p A c l) (x : Int × Int)
    (ho : w'.ownsRow B 108 2 (.slice (some ⟨gg, 0, none⟩) (l.length + 1) c2) (l.length + 1) (barCells l ++ [.int .i64 x.1, .int .i64 x.2])) (hg : ((wr.alloc (.cells us tb)).drew).grownBy w' (Value.slice A l.length c).ownBlock)
    (hat : (Value.slice A l.length c).ownBlock = some gg ∨ gg = wr.heap.size + 1) :
    w'.cell? ⟨bg, 0, none⟩ = some (.int .i64 p) ∧ w'.cell? ⟨bg, 1, none⟩ = some (.slice A l.length c) ∧ w'.frozen? ⟨bg, 1, none⟩ = false ∧ GBox B w0 (w'.setCell ⟨bg, 1, none⟩ (.slice (some ⟨gg, 0, none⟩) (l.length + 1) c2)) bg os p (some ⟨gg, 0, none⟩) c2 (l ++ [x]) := by
  have hg1 : (wr.alloc (.cells us tb)).grownBy ((wr.alloc (.cells us tb)).drew) (Value.slice A l.length c).ownBlock := ⟨rfl, rfl, rfl, Nat.le_refl _, fun _ _ _ => rfl⟩
  obtain ⟨c0, c1, f1, A2, c2', e, hG⟩ := h.push x ho (((World.grownBy_alloc wr (.cells us tb) _).trans_ hg1).trans_ hg) (by
    rcases hat with hat | hat
    · left; rw [hat]; rfl
    · right; rw [hat]; rfl)
  cases e
  exact ⟨c0, c1, f1, hG⟩
theorem GBox.drew {B : Nat} {w0 wr : World} {bg : Nat} {os : List Nat} {p : Int} {A : Option Addr} {c : Nat} {l : List (Int × Int)} (h : GBox B w0 wr bg os p A c l) : GBox B w0 wr.drew bg os p A c l := h.below ((Below.refl _ _).drew)
theorem GBox.ownIn {B : Nat} {w0 wr : World} {bg : Nat} {os : List Nat} {p : Int} {A : Option Addr} {c : Nat} {l : List (Int × Int)} (h : GBox B w0 wr bg os p A c l) : OwnIn wr B wr.heap.size A c l := own_in' h.2.2.2.1
/-- The answer's variable is written: the row is still the call's own. -/
theorem GBox.ret {B : Nat} {w0 wr : World} {bg : Nat} {os : List Nat} {p : Int} {A : Option Addr} {c : Nat} {l : List (Int × Int)} (h : GBox B w0 wr bg os p A c l) {o : Nat} (ho : o ∈ os) (hB : B ≤ o) (u v : Value) :
    OwnIn ((wr.setCell ⟨o, 0, none⟩ u).setCell ⟨o, 1, none⟩ v) B ((wr.setCell ⟨o, 0, none⟩ u).setCell ⟨o, 1, none⟩ v).heap.size A c l ∧ Below B w0 ((wr.setCell ⟨o, 0, none⟩ u).setCell ⟨o, 1, none⟩ v) := by
  obtain ⟨h1, h2, h3, h4, h5, h6, h7⟩ := h
  have hg := (grownBy_set wr o 0 u).trans_ (grownBy_set (wr.setCell ⟨o, 0, none⟩ u) o 1 v)
  refine ⟨own_in' (h4.kept hg ?_), h6.grown hg (Nat.le_of_lt (Nat.lt_of_le_of_lt h7 h1.1)) fun g e => by cases e; exact hB⟩
  cases A with
  | none => exact .inl rfl
  | some a => exact .inr (by simp [Value.ownBlock]; exact fun e => (h3 a rfl).1 (e ▸ ho))
/-- A graph without bars, just laid in a box; the answer's variable lies before it. -/
theorem gbox_new (w : World) (p : Int) : GBox w.heap.size (w.alloc (.cells #[.int .i64 0, .slice none 0 0] 26)) ((w.alloc (.cells #[.int .i64 0, .slice none 0 0] 26)).alloc (.cells #[.int .i64 p, .slice none 0 0] 26)) (w.heap.size + 1) [w.heap.size] p none 0 [] := by
  have hsz : (w.alloc (.cells #[.int .i64 0, .slice none 0 0] 26)).heap.size = w.heap.size + 1 := by simp
  have hb := new_below (w.alloc (.cells #[.int .i64 0, .slice none 0 0] 26)) (.cells #[.int .i64 p, .slice none 0 0] 26)
  have hx := box_new (w.alloc (.cells #[.int .i64 0, .slice none 0 0] 26)) p (.slice none 0 0) 26
  rw [hsz] at hx
  refine ⟨hx, ?_, fun a e => (by cases e), ⟨rfl, .inl ⟨rfl, rfl⟩⟩, fun o ho => ?_, hb.mono (by omega), by omega⟩
  · rw [← hsz]
    exact World.frozen?_alloc_at _ _ _ _ rfl
  · have : o = w.heap.size := by simpa using ho
    subst this
    exact ⟨by simp; omega, hb.block _ (by omega), by omega⟩
/-- A graph without bars, laid in a box; what lies in the blocks os stands. -/
theorem gbox_nil (w : World) (B : Nat) (os : List Nat) (p : Int) (hB : B ≤ w.heap.size) (hos : ∀ o ∈ os, o < w.heap.size) : GBox B w (w.alloc (.cells #[.int .i64 p, .slice none 0 0] 26)) w.heap.size os p none 0 [] := by
  have hb := new_below w (.cells #[.int .i64 p, .slice none 0 0] 26)
  refine ⟨box_new w p (.slice none 0 0) 26, World.frozen?_alloc_at _ _ _ _ rfl, fun a e => (by cases e), ⟨rfl, .inl ⟨rfl, rfl⟩⟩, fun o ho => ?_, hb.mono hB, hB⟩
  have := hos o ho
  exact ⟨by simp; omega, hb.block _ this, by omega⟩
/-- The same with an empty row of its own. -/
theorem gbox_made (w : World) (B : Nat) (os : List Nat) (p : Int) (hB : B ≤ w.heap.size) (hos : ∀ o ∈ os, o < w.heap.size) : GBox B w ((w.alloc (.cells #[] 108)).alloc (.cells #[.int .i64 p, .slice (some ⟨w.heap.size, 0, none⟩) 0 0] 26)) (w.heap.size + 1) os p (some ⟨w.heap.size, 0, none⟩) 0 [] := by
  have hsz : (w.alloc (.cells #[] 108)).heap.size = w.heap.size + 1 := by simp
  have hb1 := new_below w (.cells #[] 108)
  have hb2 := new_below (w.alloc (.cells #[] 108)) (.cells #[.int .i64 p, .slice (some ⟨w.heap.size, 0, none⟩) 0 0] 26)
  have hx := box_new (w.alloc (.cells #[] 108)) p (.slice (some ⟨w.heap.size, 0, none⟩) 0 0) 26
  have hf : ((w.alloc (.cells #[] 108)).alloc (.cells #[.int .i64 p, .slice (some ⟨w.heap.size, 0, none⟩) 0 0] 26)).frozen? ⟨(w.alloc (.cells #[] 108)).heap.size, 1, none⟩ = false := World.frozen?_alloc_at _ _ _ _ rfl
  rw [hsz] at hx hf
  have hb := below_on hb1 hb2 hb1.size
  have ho := World.ownsRow_made (base := B) (e := 108) (size := 2) w #[] 0 hB (by unfold maxLen; omega) (by simp)
  refine ⟨hx, hf, fun a e => ?_, own_below ho hb2, fun o hoo => ?_, hb.mono hB, by omega⟩
  · cases e
    refine ⟨fun hm => ?_, by show w.heap.size ≠ w.heap.size + 1; omega⟩
    have := hos _ hm
    simp at this
  · have := hos o hoo
    exact ⟨by simp; omega, hb.block _ this, by omega⟩
end Go.Proofs.Ytdkpmaahinbhlaa
/- Copies of rows of bars: words on rows of the call's own. No condition. -/
namespace Go.Proofs.Ytdkpmaahinbhlaa
open Go.RowKit

theorem barCells_at {w : World} {b off : Nat} {l : List (Int × Int)} (h : ∀ k, k < l.length → w.cell? ⟨b, off + k * 2, none⟩ = some (.int .i64 (l.getD k (0, 0)).1) ∧ w.cell? ⟨b, off + k * 2 + 1, none⟩ = some (.int .i64 (l.getD k (0, 0)).2)) : ∀ j u, (barCells l)[j]? = some u → w.cell? ⟨b, off + j, none⟩ = some u := by
  intro j u hj
  have hlt : j < l.length * 2 := by
    have := (List.getElem?_eq_some_iff.1 hj).1
    rwa [barCells_len] at this
  have hj2 : j = j / 2 * 2 ∨ j = j / 2 * 2 + 1 := by omega
  have hk : j / 2 < l.length := by omega
  generalize j / 2 = k at *
  have hg := barCells_get l k hk
  have hc := h k hk
  rcases hj2 with rfl | rfl
  · rw [hg.1] at hj
    cases hj
    exact hc.1
  · rw [hg.2] at hj
    cases hj
    exact hc.2
theorem barCells_one (l : List (Int × Int)) : ∀ u ∈ barCells l, u.oneCell' = true := by
  intro u hu
  obtain ⟨x, _, hx⟩ := List.mem_flatMap.1 hu
  simp at hx
  rcases hx with rfl | rfl <;> rfl

/-- A row of bars of the call's own. -/
def RowO (w : World) (l : List (Int × Int)) (e : Ending) (w' : World) : Prop :=
  ∃ A2 c2, e = .returned (.slice A2 l.length c2) ∧ w'.ownsRow w.heap.size 108 2 (.slice A2 l.length c2) l.length (barCells l) ∧ Below w.heap.size w w'

/-- An append onto a row of the call's own, as one step of a region that draws its order. -/
theorem step_own {P : Program} {w : World} {ops : Array Oper} {o : Oper} {a : Act} {K : Act → World → Prop} {Q : Exit → Act → World → Prop} {E : Prop} (hgd : o.guard = none) (s x : Operand) (t : TypeId)
    (ho : o.op = .call { callee := .builtin .append, args := #[s, x], argTypes := #[t, t] })
    (base : Nat) (e : TypeId) (i : TypeInfo) (z : Value) (size bytes : Nat) (ht : P.underlying t = some (.slice e)) (hi : P.info? e = some i) (hz : i.zero = some z)
    (hsize : i.size = size) (hby : i.bytes = bytes) (hzs : z.cells.size = size) (hsz : 0 < size)
    (v : Value) (n : Nat) (xs : List Value) (hs : a.eval s = v) (hown : w.ownsRow base e size v n xs)
    (ad : Addr) (m c : Nat) (news : List Value) (hx : a.eval x = .slice (some ad) m c) (hl : news.length = m * size) (hnews : ∀ j u, news[j]? = some u → w.cell? (ad.add j) = some u) (h1 : ∀ u ∈ news, u.oneCell' = true)
    (h63 : n + m ≤ maxLen) (hbytes : (n + m) * bytes ≤ 140737488355328) (hbase : base ≤ w.heap.size)
    (h : ∀ v' w', w'.ownsRow base e size v' (n + m) (xs ++ news) → w.grownBy w' v.ownBlock → K (a.put o.dst v') w') :
    if Region.wanted o (yielded ops a.tmps) = true then Oper.wp P o a w K Q else E := by
  have hw : Region.wanted o (yielded ops a.tmps) = true := by simp [Region.wanted, hgd]
  rw [if_pos hw]
  exact wp_append_own w s x t ho base e i z size bytes ht hi hz hsize hby hzs hsz v n xs hs hown ad m c news hx hl hnews h1 h63 hbytes hbase fun v' w' h2 h3 _ => h v' w' h2 h3

/-- The answer's variable r is written behind a row of the call's own. -/
theorem row_ret {w w3 : World} {r B' : Nat} {A2 : Option Addr} {c2 : Nat} {l : List (Int × Int)} (ho : w3.ownsRow B' 108 2 (.slice A2 l.length c2) l.length (barCells l)) (hB : Below w.heap.size w w3) (h1 : w.heap.size ≤ r) (h2 : r < B') (u v : Value) :
    OwnIn ((w3.setCell ⟨r, 0, none⟩ u).setCell ⟨r, 1, none⟩ v) w.heap.size ((w3.setCell ⟨r, 0, none⟩ u).setCell ⟨r, 1, none⟩ v).heap.size A2 c2 l ∧ Below w.heap.size w ((w3.setCell ⟨r, 0, none⟩ u).setCell ⟨r, 1, none⟩ v) := by
  have hg := (grownBy_set w3 r 0 u).trans_ (grownBy_set (w3.setCell ⟨r, 0, none⟩ u) r 1 v)
  refine ⟨own_in' ((own_base ho (by omega)).kept hg ?_), hB.grown hg hB.size fun g e => by cases e; exact h1⟩
  cases A2 with
  | none => exact .inl rfl
  | some a =>
    have := (ho.lt a.block rfl).1
    exact .inr (by simp [Value.ownBlock]; omega)
theorem OwnIn.drew {w : World} {lo : Nat} {A : Option Addr} {c : Nat} {l : List (Int × Int)} (h : OwnIn w lo w.heap.size A c l) : OwnIn w.drew lo w.drew.heap.size A c l := h.within (within_of ((Below.refl _ _).drew)) (by omega)
theorem ret_cells {w3 : World} {r : Nat} {p u : Int} {a v : Value} (h0 : w3.cell? ⟨r, 0, none⟩ = some (.int .i64 u)) (h1 : w3.cell? ⟨r, 1, none⟩ = some a) :
    ((w3.setCell ⟨r, 0, none⟩ (.int .i64 p)).setCell ⟨r, 1, none⟩ v).cell? ⟨r, 0, none⟩ = some (.int .i64 p) ∧ ((w3.setCell ⟨r, 0, none⟩ (.int .i64 p)).setCell ⟨r, 1, none⟩ v).cell? ⟨r, 1, none⟩ = some v := by
  constructor
  · rw [World.cell?_setCell_other _ _ _ _ (by intro e; simp at e)]
    exact World.cell?_setCell_same _ _ _ h0
  · have r2 : (w3.setCell ⟨r, 0, none⟩ (.int .i64 p)).cell? ⟨r, 1, none⟩ = some a := by
      rw [World.cell?_setCell_other _ _ _ _ (by intro e; simp at e)]
      exact h1
    exact World.cell?_setCell_same _ _ _ r2

end Go.Proofs.Ytdkpmaahinbhlaa
/- The laws' heldGraph: it finds in a graph the marks that were made. No condition. -/
namespace Go.Proofs.Ytdkpmaahinbhlaa
open Go.RowKit

end Go.Proofs.Ytdkpmaahinbhlaa
/- A graph that a law is handed by value, opened: its number of points, and its bars as a list. No condition. -/
namespace Go.Proofs.Ytdkpmaahinbhlaa
open Go.RowKit Go.Joins Go.ChangeShapes Go.WideShapes Go.Deep

section
variable {H : Type} {enc : TypeId × Value → H} {w : World} {base : Nat}

/-- A slice of the law's bars. -/
theorem open_bars {n : Nat} {v : Value} {y : DataW H × List MemPlace} (h : DataW.trod enc Try.prog w 0 (fun _ => true) true n 77 [v] = some y) :
    ∃ (A : Option Addr) (cap : Nat) (l : List (Int × Int)), v = .slice A l.length cap ∧ l.length ≤ maxLen ∧ BarsAt w w.heap.size A l := by
  rcases open_slice_pairs Try.underlying77 Try.underlying197 (by kernel_rfl) rfl rfl (by kernel_rfl) (by kernel_rfl) h with ⟨hv, _⟩ | ⟨a, len, cap, m, fuel, V0, V1, D0, D1, P0, P1, hv, _, hlc, hcm, hm, _, hi⟩
  · refine ⟨none, 0, [], ?_, by simp, fun h => absurd h (by simp)⟩
    simpa using hv
  · have hm' : m = cap := by simpa using hm
    refine ⟨some a, cap, (List.range len).map fun i => (intOf (V0 i), intOf (V1 i)), by simpa using hv, by simp; omega, fun hl => ?_⟩
    have hl' : 0 < len := by simpa using hl
    obtain ⟨b, off, spot⟩ := a
    have hs : spot = none := by simpa [Addr.add] using World.cell?_spot (hi 0 (by omega)).1
    subst hs
    have hadd : ∀ k, (⟨b, off, none⟩ : Addr).add k = ⟨b, off + k, none⟩ := fun k => by unfold Addr.add; split <;> simp_all
    have h0 := (hi 0 (by omega)).1
    rw [hadd] at h0
    refine ⟨b, off, rfl, World.block_lt_of_cell? w _ h0, fun k hk => ?_⟩
    have hk' : k < len := by simpa using hk
    obtain ⟨c0, c1, t0, t1⟩ := hi k (by omega)
    obtain ⟨x, e0, _⟩ := DataW.trod_int Try.underlying3 t0
    obtain ⟨z, e1, _⟩ := DataW.trod_int Try.underlying3 t1
    rw [hadd] at c0 c1
    have g0 : V0 k = .int .i64 x := by simpa using e0
    have g1 : V1 k = .int .i64 z := by simpa using e1
    have hg : ((List.range len).map fun i => (intOf (V0 i), intOf (V1 i))).getD k (0, 0) = (x, z) := by
      simp [List.getD, hk', g0, g1, intOf]
    rw [hg, c0, g0, show off + k * 2 + 1 = off + (k * 2 + 1) by omega, c1, g1]
    exact ⟨rfl, rfl⟩

set_option maxRecDepth 100000 in
theorem open_graph {r : Reach} {b0 : Nat} {v : Value} {d : DataW H} {p : List MemPlace} (hv : Value.okWide Try.prog w r b0 79 v) (h : DataW.Trod enc Try.prog w 0 (fun _ => true) true 79 v d p) :
    ∃ (q : Int) (A : Option Addr) (cap : Nat) (l : List (Int × Int)), v = .agg #[.int .i64 q, .slice A l.length cap] ∧ l.length ≤ maxLen ∧ BarsAt w w.heap.size A l := by
  obtain ⟨v0, v1, y0, y1, n, rfl, _, _, h0, h1⟩ := open_agg2 Try.underlying79 (by kernel_rfl) (by kernel_rfl) hv h
  obtain ⟨q, e0, _⟩ := DataW.trod_int Try.underlying3 h0
  obtain ⟨A, cap, l, e1, hl, hb⟩ := open_bars h1
  subst e1
  have e0' : v0 = .int .i64 q := by simpa using e0
  subst e0'
  exact ⟨q, A, cap, l, rfl, hl, hb⟩
end
end Go.Proofs.Ytdkpmaahinbhlaa
/- The laws' helpers on rows of places: copies, sizes, comparisons, marks. No condition. -/
namespace Go.Proofs.Ytdkpmaahinbhlaa
open Go.RowKit

theorem toPlace_c (x y : Int) (w : World) :
    Calls Try.prog 214 #[.agg #[.int .i64 x, .int .i64 y]] w fun e w' => e = .returned (.agg #[.int .i64 x, .int .i64 y]) ∧ Below w.heap.size w w' := by
  go_enter Try.func214, Try.ntmps214
  go_wp2
  exact bodyPost_ret (v := .agg #[.int .i64 x, .int .i64 y]) (by simp [results, Try.results214, go_sem]) rfl ⟨rfl, (((Below.refl _ _).alloc (Nat.le_refl _) _).alloc (by simp) _).alloc (by simp; omega) _⟩

theorem infoPlace : (Try.prog.info? 167).map (fun i => (i.zero, i.size, i.bytes)) = some (some (.agg #[.int .i64 0, .int .i64 0]), 2, 16) := by kernel_rfl

set_option maxHeartbeats 400000 in
set_option maxRecDepth 100000 in
theorem toPlaceS_c (l : List (Int × Int)) (A : Option Addr) (cap : Nat) (w : World) (hl : BarsAt w w.heap.size A l) (hn : l.length ≤ 1048576) :
    Calls Try.prog 174 #[.slice A l.length cap] w fun e w' => ∃ g, e = .returned (.slice (some ⟨g, 0, none⟩) l.length l.length) ∧ w'.ownsRow w.heap.size 167 2 (.slice (some ⟨g, 0, none⟩) l.length l.length) l.length (barCells l) ∧ Below w.heap.size w w' := by
  have HL := Lib.hid hl
  clear hl
  obtain ⟨i0, hi, hz0, hz1, hz2⟩ := info_parts infoPlace
  go_enter Try.func174, Try.ntmps174
  go_wp2_with (at_make; refine wpList_make_full w rfl _ _ 95 rfl w.heap.size 167 i0 (.agg #[.int .i64 0, .int .i64 0]) 2 Try.underlying95 hi hz0 hz1 _ _ _ _ l.length rfl rfl rfl rfl (by rw [hz2]; omega) (by unfold maxLen; omega) (Nat.le_refl _) ?_; intro w0 hown0 hg0)
  have hb0 := grown_below hg0 (Nat.le_refl w.heap.size)
  go_loopw [4] (fun i wr => ∃ k : Nat, k ≤ l.length ∧ i = .int .i64 k ∧ wr.ownsRow w.heap.size 167 2 (.slice (some ⟨w.heap.size, 0, none⟩) l.length l.length) l.length (barCells (l.take k ++ List.replicate (l.length - k) (0, 0))) ∧ Below w.heap.size w wr) (fun i _ => l.length - (intOf i).toNat)
  case atStart => exact ⟨0, by omega, rfl, by
    have e : (madeCells (Value.agg #[.int .i64 0, .int .i64 0]).cells (l.length * 2)).toList = barCells (l.take 0 ++ List.replicate (l.length - 0) (0, 0)) := by
      rw [List.take_zero, List.nil_append, Nat.sub_zero]
      exact made_bars l.length
    rw [e] at hown0
    exact hown0, hb0⟩
  case round =>
    obtain ⟨k, hk, rfl, hown, hb⟩ := hrel
    have HB := Lib.hid hb
    have hbs := hb.size
    clear hb hown0 hb0 hg0
    by_cases hlt : k < l.length
    · have hi : (k : Int) < (l.length : Int) := by omega
      obtain ⟨b, off, rfl, hbB, hcell⟩ := HL.out (by omega)
      obtain ⟨h1, h2⟩ := hcell k hlt
      have hc1 := (HB.out.cell (p := ⟨b, off + k * 2, none⟩) hbB).trans h1
      have hc2 := (HB.out.cell (p := ⟨b, off + k * 2 + 1, none⟩) hbB).trans h2
      have hlen : (l.take k ++ List.replicate (l.length - k) ((0 : Int), (0 : Int))).length = l.length := by simp; omega
      have hset : (l.take k ++ List.replicate (l.length - k) (0, 0)).set k (l.getD k (0, 0)) = l.take (k + 1) ++ List.replicate (l.length - (k + 1)) (0, 0) := by
        have hl0 : (l.take k).length = k := by simp; omega
        have e : l.getD k (0, 0) = l[k] := by simp [List.getD, List.getElem?_eq_getElem hlt]
        obtain ⟨r, hr⟩ : ∃ r, l.length - k = r + 1 := ⟨l.length - k - 1, by omega⟩
        rw [e, List.set_append_right _ _ (by omega), hl0, Nat.sub_self, hr, List.replicate_succ, List.set_cons_zero, List.take_succ_eq_append_getElem hlt, show l.length - (k + 1) = r by omega, List.append_assoc]
        rfl
      have HOWN := Lib.hid hown
      have HSET := Lib.hid hset
      have HLEN := Lib.hid hlen
      have hlw := (hown.lt w.heap.size rfl).2
      clear hset hown hcell h1 h2 hlen
      obtain ⟨p, hp⟩ : ∃ p, l.getD k (0, 0) = p := ⟨_, rfl⟩
      rw [hp] at hc1 hc2 HSET
      clear hp
      obtain ⟨x, y⟩ := p
      go_wp2_with fail
      refine (toPlace_c x y wr).mono ?_
      rintro e w3 ⟨rfl, hb3⟩
      have hown3 := own_below HOWN.out hb3
      have hg := barCells_get (l.take k ++ List.replicate (l.length - k) (0, 0)) k (by have := HLEN.out; omega)
      have hd1 := (hown3.cellAt (k * 2) (by omega)).trans hg.1
      have hd2 := (hown3.cellAt (k * 2 + 1) (by omega)).trans hg.2
      have hf1 := hown3.frozenAt (k * 2)
      have hf2 := hown3.frozenAt (k * 2 + 1)
      have hst1 := hown3.stored (k * 2) (.int .i64 x)
      have hst2 := hst1.1.stored (k * 2 + 1) (.int .i64 y)
      rw [barCells_set _ _ (x, y), HSET.out] at hst2
      have HST := Lib.hid hst2
      have HB3 := Lib.hid (HB.out.trans (hb3.mono hbs))
      clear hst1 hst2 hg hown3 hb3 hc1 hc2
      go_wp2_with fail
      go_roundw
      case rel => exact ⟨k + 1, by omega, by go_num, HST.out.1, (HB3.out.setCell (Nat.le_refl _) _).setCell (Nat.le_refl _) _⟩
      case measure => simp [intOf]; omega
    · obtain rfl : k = l.length := by omega
      rw [List.take_length, Nat.sub_self, List.replicate_zero, List.append_nil] at hown
      go_wp2_with fail
      go_ret
      exact ⟨_, rfl, hown, HB.out⟩

theorem szPlaceS_c (A : Option Addr) (n cap : Nat) (left : Int) (w : World) (h0 : (n : Int) ≤ left) (h1 : left ≤ 1048576) :
    Calls Try.prog 172 #[.slice A n cap, .int .i64 left] w fun e w' => e = .returned (.int .i64 (left - n)) ∧ w = w' := by
  go_enter Try.func172, Try.ntmps172
  go_wp2
  go_ret
  exact ⟨rfl, rfl⟩

theorem szPlaceS_no (A : Option Addr) (n cap : Nat) (left : Int) (w : World) (hn : n ≤ 9223372036854775807) (h0 : left < (n : Int)) (h1 : 0 ≤ left) :
    Calls Try.prog 172 #[.slice A n cap, .int .i64 left] w fun e w' => e = .returned (.int .i64 (-1)) ∧ w = w' := by
  go_enter Try.func172, Try.ntmps172
  go_wp2
  go_ret
  exact ⟨rfl, rfl⟩

theorem eqPlace_c (x y : Int) (w : World) :
    Calls Try.prog 218 #[.agg #[.int .i64 x, .int .i64 y], .agg #[.int .i64 x, .int .i64 y]] w fun e w' => e = .returned (.bool true) ∧ Below w.heap.size w w' := by
  go_enter Try.func218, Try.ntmps218
  go_wp2
  go_ret
  exact ⟨rfl, ((Below.refl _ _).alloc (Nat.le_refl _) _).alloc (by simp) _⟩

set_option maxHeartbeats 400000 in
set_option maxRecDepth 100000 in
theorem eqPlaceS_c (l : List (Int × Int)) (A A' : Option Addr) (cap cap' : Nat) (w : World) (hl : BarsAt w w.heap.size A l) (hl' : BarsAt w w.heap.size A' l) (hn : l.length ≤ 1048576) :
    Calls Try.prog 179 #[.slice A l.length cap, .slice A' l.length cap'] w fun e w' => e = .returned (.bool true) ∧ Below w.heap.size w w' := by
  have HL := Lib.hid hl
  have HL' := Lib.hid hl'
  clear hl hl'
  go_enter Try.func179, Try.ntmps179
  go_wp2_with fail
  go_loopw [5] (fun i wr => ∃ k : Nat, k ≤ l.length ∧ i = .int .i64 k ∧ Below w.heap.size w wr) (fun i _ => l.length - (intOf i).toNat)
  case atStart => exact ⟨0, by omega, rfl, Below.refl _ _⟩
  case round =>
    obtain ⟨k, hk, rfl, hb⟩ := hrel
    have HB := Lib.hid hb
    have hbs := hb.size
    clear hb
    by_cases hlt : k < l.length
    · have hi : (k : Int) < (l.length : Int) := by omega
      obtain ⟨b, off, rfl, hbB, hcell⟩ := HL.out (by omega)
      obtain ⟨b', off', rfl, hbB', hcell'⟩ := HL'.out (by omega)
      have hc1 := (HB.out.cell (p := ⟨b, off + k * 2, none⟩) hbB).trans (hcell k hlt).1
      have hc2 := (HB.out.cell (p := ⟨b, off + k * 2 + 1, none⟩) hbB).trans (hcell k hlt).2
      have hc3 := (HB.out.cell (p := ⟨b', off' + k * 2, none⟩) hbB').trans (hcell' k hlt).1
      have hc4 := (HB.out.cell (p := ⟨b', off' + k * 2 + 1, none⟩) hbB').trans (hcell' k hlt).2
      clear hcell hcell'
      obtain ⟨p, hp⟩ : ∃ p, l.getD k (0, 0) = p := ⟨_, rfl⟩
      rw [hp] at hc1 hc2 hc3 hc4
      clear hp
      obtain ⟨x, y⟩ := p
      go_wp2_with fail
      go_still_tail 8, (by kernel_rfl)
      change wpList _ _ _ _ _ wr.drew
      have hbd : Below w.heap.size w wr.drew := HB.out.drew
      have hbs2 : w.heap.size ≤ wr.drew.heap.size := hbs
      have HBD := Lib.hid hbd
      clear hbd hc1 hc2 hc3 hc4
      generalize wr.drew = w2 at *
      go_wp2_with fail
      refine (eqPlace_c x y w2).mono ?_
      rintro e w3 ⟨rfl, hb3⟩
      have HB3 := Lib.hid (HBD.out.trans (hb3.mono hbs2))
      clear hb3
      go_wp2_with fail
      go_roundw
      case rel => exact ⟨k + 1, by omega, by go_num, HB3.out⟩
      case measure => simp [intOf]; omega
    · go_wp2_with fail
      go_ret
      exact ⟨rfl, HB.out⟩

set_option maxHeartbeats 800000 in
set_option maxRecDepth 100000 in
theorem markPlaceS_c (g : Nat) (l : List (Int × Int)) (cap : Nat) (k : Int) (base : Nat) (w : World) (hown : w.ownsRow base 167 2 (.slice (some ⟨g, 0, none⟩) l.length cap) l.length (barCells l)) (hn : l.length ≤ 1048576) (hk0 : 0 ≤ k) (hk1 : k ≤ 10000000) :
    Calls Try.prog 180 #[.slice (some ⟨g, 0, none⟩) l.length cap, .int .i64 k] w fun e w' => e = .returned (.int .i64 (k + 2 * (l.length : Int))) ∧ w'.ownsRow base 167 2 (.slice (some ⟨g, 0, none⟩) l.length cap) l.length (barCells (marks k l.length)) ∧ w.grownBy w' (some g) := by
  have HO := Lib.hid hown
  clear hown
  go_enter Try.func180, Try.ntmps180
  go_wp2_with fail
  go_loopw [1, 5] (fun m i wr => ∃ j : Nat, j ≤ l.length ∧ i = .int .i64 j ∧ m = .int .i64 (k + 2 * (j : Int)) ∧ wr.ownsRow base 167 2 (.slice (some ⟨g, 0, none⟩) l.length cap) l.length (barCells (marks k j ++ l.drop j)) ∧ w.grownBy wr (some g)) (fun _ i _ => l.length - (intOf i).toNat)
  case atStart => exact ⟨0, by omega, rfl, by simp, HO.out, World.grownBy.refl _ _⟩
  case round =>
    obtain ⟨j, hj, rfl, rfl, hown, hg⟩ := hrel
    have HG := Lib.hid hg
    clear hg
    by_cases hlt : j < l.length
    · have hi : (j : Int) < (l.length : Int) := by omega
      have hlen : (marks k j ++ l.drop j).length = l.length := by rw [List.length_append, marks_len, List.length_drop]; omega
      have hgc := barCells_get (marks k j ++ l.drop j) j (by omega)
      have hd1 := (hown.cellAt (j * 2) (by omega)).trans hgc.1
      have hd2 := (hown.cellAt (j * 2 + 1) (by omega)).trans hgc.2
      have hf1 := hown.frozenAt (j * 2)
      have hf2 := hown.frozenAt (j * 2 + 1)
      have hst1 := hown.stored (j * 2) (.int .i64 (k + 2 * (j : Int)))
      have hst2 := hst1.1.stored (j * 2 + 1) (.int .i64 (k + 2 * (j : Int) + 1))
      have HG2 := Lib.hid ((HG.out.trans_ hst1.2).trans_ hst2.2)
      have hst3 := hst2.1
      rw [barCells_set _ _ (k + 2 * (j : Int), k + 2 * (j : Int) + 1), marks_step k l j hlt] at hst3
      have HST := Lib.hid hst3
      clear hst1 hst2 hst3 hgc hown hlen
      go_wp2_with fail
      go_roundw
      case rel => exact ⟨j + 1, by omega, by go_num, by go_num, HST.out, HG2.out⟩
      case measure => simp [intOf]; omega
    · obtain rfl : j = l.length := by omega
      rw [List.drop_length, List.append_nil] at hown
      go_wp2_with fail
      go_ret
      exact ⟨rfl, hown, HG.out⟩

/-- Nothing is marked where there is no bar. -/
theorem markPlaceS_nil (A : Option Addr) (cap : Nat) (k : Int) (w : World) :
    Calls Try.prog 180 #[.slice A 0 cap, .int .i64 k] w fun e w' => e = .returned (.int .i64 k) ∧ w = w' := by
  go_enter Try.func180, Try.ntmps180
  go_wp2_with fail
  refine wp_loop_rounds 1 ?_
  rw [rounds_succ]
  go_wp2_with fail
  go_ret
  exact ⟨rfl, rfl⟩

/-- A row of bars of the call's own in a block from lo to hi, or no bars. -/
def OwnPl (W : World) (lo hi : Nat) (A : Option Addr) (cap : Nat) (l : List (Int × Int)) : Prop :=
  hi ≤ W.heap.size ∧ (l = [] ∨ ∃ g, A = some ⟨g, 0, none⟩ ∧ lo ≤ g ∧ g < hi ∧ W.ownsRow lo 167 2 (.slice (some ⟨g, 0, none⟩) l.length cap) l.length (barCells l))

theorem OwnPl.within {W W' : World} {lo hi lo' hi' : Nat} {A : Option Addr} {cap : Nat} {l : List (Int × Int)} (h : OwnPl W lo hi A cap l) (hw : Within lo' hi' W W') (hd : hi ≤ lo' ∨ hi' ≤ lo) : OwnPl W' lo hi A cap l :=
  ⟨Nat.le_trans h.1 hw.size, by
    rcases h.2 with h2 | ⟨g, e, h1, h2, ho⟩
    · exact .inl h2
    · exact .inr ⟨g, e, h1, h2, own_block ho (hw.block g (Nat.lt_of_lt_of_le h2 h.1) (by omega))⟩⟩

theorem OwnPl.bars {W : World} {lo hi : Nat} {A : Option Addr} {cap : Nat} {l : List (Int × Int)} (h : OwnPl W lo hi A cap l) : BarsIn W lo hi A l :=
  ⟨h.1, fun hl => by
    rcases h.2 with h2 | ⟨g, e, h1, h2, ho⟩
    · subst h2; simp at hl
    · obtain ⟨b, off, e', hlt, hc⟩ := own_bars ho hl
      cases e'
      exact ⟨g, 0, e, h1, h2, hc⟩⟩

theorem own_pl {w' : World} {base : Nat} {g cap : Nat} {l : List (Int × Int)} (h : w'.ownsRow base 167 2 (.slice (some ⟨g, 0, none⟩) l.length cap) l.length (barCells l)) : OwnPl w' base w'.heap.size (some ⟨g, 0, none⟩) cap l :=
  ⟨Nat.le_refl _, .inr ⟨g, rfl, (h.lt g rfl).1, (h.lt g rfl).2, h⟩⟩

theorem own_pl' {w' : World} {base : Nat} {A : Option Addr} {cap : Nat} {l : List (Int × Int)} (h : w'.ownsRow base 167 2 (.slice A l.length cap) l.length (barCells l)) : OwnPl w' base w'.heap.size A cap l := by
  rcases h.2 with ⟨h1, h0⟩ | ⟨g, cap', cur, h1, h2⟩
  · exact ⟨Nat.le_refl _, .inl (List.eq_nil_of_length_eq_zero h0)⟩
  · cases h1
    exact own_pl h

theorem own_plnil (w : World) (base : Nat) (A : Option Addr) (cap : Nat) : OwnPl w base w.heap.size A cap [] := ⟨Nat.le_refl _, .inl rfl⟩

theorem markPlaceS_o (A : Option Addr) (cap : Nat) (l : List (Int × Int)) (k : Int) (lo hi : Nat) (w : World) (h : OwnPl w lo hi A cap l) (hn : l.length ≤ 1048576) (hk0 : 0 ≤ k) (hk1 : k ≤ 10000000) :
    Calls Try.prog 180 #[.slice A l.length cap, .int .i64 k] w fun e w' => e = .returned (.int .i64 (k + 2 * (l.length : Int))) ∧ Within lo hi w w' ∧ OwnPl w' lo hi A cap (marks k l.length) := by
  have hhi := h.1
  rcases h.2 with h2 | ⟨g, rfl, h1, h2, ho⟩
  · subst h2
    refine (markPlaceS_nil A cap k w).mono ?_
    rintro e w1 ⟨rfl, rfl⟩
    exact ⟨by simp, ⟨rfl, rfl, rfl, Nat.le_refl _, fun _ _ _ => rfl⟩, hhi, .inl rfl⟩
  · refine (markPlaceS_c g l cap k lo w ho hn hk0 hk1).mono ?_
    rintro e w1 ⟨rfl, ho1, hg1⟩
    refine ⟨rfl, ⟨hg1.os, hg1.tape, hg1.output, hg1.size, fun j hj hd => hg1.block j hj (by simp; omega)⟩, Nat.le_trans hhi hg1.size, .inr ⟨g, rfl, h1, h2, ?_⟩⟩
    have := marks_len k l.length
    rw [this]
    exact ho1
section
open Go.Joins Go.ChangeShapes Go.WideShapes Go.Deep
variable {H : Type} {enc : TypeId × Value → H} {w : World}
/-- A slice of the law's bars. -/
theorem open_places {n : Nat} {v : Value} {y : DataW H × List MemPlace} (h : DataW.trod enc Try.prog w 0 (fun _ => true) true n 90 [v] = some y) :
    ∃ (A : Option Addr) (cap : Nat) (l : List (Int × Int)), v = .slice A l.length cap ∧ l.length ≤ maxLen ∧ BarsAt w w.heap.size A l := by
  rcases open_slice_pairs Try.underlying90 Try.underlying201 (by kernel_rfl) rfl rfl (by kernel_rfl) (by kernel_rfl) h with ⟨hv, _⟩ | ⟨a, len, cap, m, fuel, V0, V1, D0, D1, P0, P1, hv, _, hlc, hcm, hm, _, hi⟩
  · refine ⟨none, 0, [], ?_, by simp, fun h => absurd h (by simp)⟩
    simpa using hv
  · have hm' : m = cap := by simpa using hm
    refine ⟨some a, cap, (List.range len).map fun i => (intOf (V0 i), intOf (V1 i)), by simpa using hv, by simp; omega, fun hl => ?_⟩
    have hl' : 0 < len := by simpa using hl
    obtain ⟨b, off, spot⟩ := a
    have hs : spot = none := by simpa [Addr.add] using World.cell?_spot (hi 0 (by omega)).1
    subst hs
    have hadd : ∀ k, (⟨b, off, none⟩ : Addr).add k = ⟨b, off + k, none⟩ := fun k => by unfold Addr.add; split <;> simp_all
    have h0 := (hi 0 (by omega)).1
    rw [hadd] at h0
    refine ⟨b, off, rfl, World.block_lt_of_cell? w _ h0, fun k hk => ?_⟩
    have hk' : k < len := by simpa using hk
    obtain ⟨c0, c1, t0, t1⟩ := hi k (by omega)
    obtain ⟨x, e0, _⟩ := DataW.trod_int Try.underlying3 t0
    obtain ⟨z, e1, _⟩ := DataW.trod_int Try.underlying3 t1
    rw [hadd] at c0 c1
    have g0 : V0 k = .int .i64 x := by simpa using e0
    have g1 : V1 k = .int .i64 z := by simpa using e1
    have hg : ((List.range len).map fun i => (intOf (V0 i), intOf (V1 i))).getD k (0, 0) = (x, z) := by
      simp [List.getD, hk', g0, g1, intOf]
    rw [hg, c0, g0, show off + k * 2 + 1 = off + (k * 2 + 1) by omega, c1, g1]
    exact ⟨rfl, rfl⟩
end
end Go.Proofs.Ytdkpmaahinbhlaa
/- Rows of places compared and copied: slices.Equal and slices.Clone at places. No condition. -/
namespace Go.Proofs.Ytdkpmaahinbhlaa
open Go.RowKit

theorem neqPl (x y u v : Int) (w : World) : (binOp .neq 167 (.agg #[.int .i64 x, .int .i64 y]) (.agg #[.int .i64 u, .int .i64 v])).run Try.prog w = .ok (.bool (neB x y u v)) w := by
  have u3 := Try.underlying3
  have a3 := Try.isAgg3
  have z3 := Try.sizeOf3
  have hS : Try.prog.underlying 167 = some (.struct (Try.prog.fieldsOf 167)) := by kernel_rfl
  have hp : Try.prog.stoodInHeld 167 = false := by kernel_rfl
  rw [run_neq_struct, show (10000 : Nat) = 9999 + 1 from rfl, run_equalIn_agg w 9999 167 _ _ hS hp]
  simp only [Program.fieldsOf, Try.underlying167]
  go_simp
  unfold neB
  by_cases h1 : x = u <;> by_cases h2 : y = v <;> simp [h1, h2]
theorem guardPl (op : BinOp) (a b : Operand) (x y u v : Int) (w : World) : (eqGuard op 167 a b (.agg #[.int .i64 x, .int .i64 y]) (.agg #[.int .i64 u, .int .i64 v])).run Try.prog w = .ok () w :=
  run_eqGuard_agg w op 167 a b _ _ (by kernel_rfl)
attribute [local go_sem ↓] neqPl guardPl
/-- A row of bars of the call's own. -/
def RowP (w : World) (l : List (Int × Int)) (e : Ending) (w' : World) : Prop :=
  ∃ A2 c2, e = .returned (.slice A2 l.length c2) ∧ w'.ownsRow w.heap.size 167 2 (.slice A2 l.length c2) l.length (barCells l) ∧ Below w.heap.size w w'

end Go.Proofs.Ytdkpmaahinbhlaa
/- The program's small methods on places and offsets, and the comparison of offsets, bars and places. No condition. -/
namespace Go.Proofs.Ytdkpmaahinbhlaa
open Go.RowKit

theorem eqlBar (x y u v : Int) (w : World) : (binOp .eql 108 (.agg #[.int .i64 x, .int .i64 y]) (.agg #[.int .i64 u, .int .i64 v])).run Try.prog w = .ok (.bool (!neB x y u v)) w := by
  have u3 := Try.underlying3
  have a3 := Try.isAgg3
  have z3 := Try.sizeOf3
  have hS : Try.prog.underlying 108 = some (.struct (Try.prog.fieldsOf 108)) := by kernel_rfl
  have hp : Try.prog.stoodInHeld 108 = false := by kernel_rfl
  rw [run_eql_struct, show (10000 : Nat) = 9999 + 1 from rfl, run_equalIn_agg w 9999 108 _ _ hS hp]
  simp only [Program.fieldsOf, Try.underlying108]
  go_simp
  unfold neB
  by_cases h1 : x = u <;> by_cases h2 : y = v <;> simp [h1, h2]
theorem eqlPl (x y u v : Int) (w : World) : (binOp .eql 167 (.agg #[.int .i64 x, .int .i64 y]) (.agg #[.int .i64 u, .int .i64 v])).run Try.prog w = .ok (.bool (!neB x y u v)) w := by
  have u3 := Try.underlying3
  have a3 := Try.isAgg3
  have z3 := Try.sizeOf3
  have hS : Try.prog.underlying 167 = some (.struct (Try.prog.fieldsOf 167)) := by kernel_rfl
  have hp : Try.prog.stoodInHeld 167 = false := by kernel_rfl
  rw [run_eql_struct, show (10000 : Nat) = 9999 + 1 from rfl, run_equalIn_agg w 9999 167 _ _ hS hp]
  simp only [Program.fieldsOf, Try.underlying167]
  go_simp
  unfold neB
  by_cases h1 : x = u <;> by_cases h2 : y = v <;> simp [h1, h2]
theorem infoI : ∃ i, Try.prog.info? 3 = some i := by
  obtain ⟨i, h, _⟩ := info_parts infoInt
  exact ⟨i, h⟩
theorem eqlOff (x y u v : Int) (w : World) : (binOp .eql 202 (.agg #[.int .i64 x, .int .i64 y]) (.agg #[.int .i64 u, .int .i64 v])).run Try.prog w = .ok (.bool (!neB x y u v)) w := by
  have u3 := Try.underlying3
  have a3 := Try.isAgg3
  have z3 := Try.sizeOf3
  have ci : Try.prog.cellsOf 3 = 1 := by kernel_rfl
  obtain ⟨i, hi⟩ := infoI
  rw [run_eql_struct, show (10000 : Nat) = 9999 + 1 from rfl, run_equalIn_array w 9999 _ _ Try.underlying202 hi, ci]
  simp only [show List.range 2 = [0, 1] from rfl, Op.eqItems]
  go_simp
  unfold neB
  by_cases h1 : x = u <;> by_cases h2 : y = v <;> simp [h1, h2]

theorem onGrid_yes (x y : Int) (w : World) (h1 : 0 ≤ x) (h2 : x ≤ 4) (h3 : 0 ≤ y) (h4 : y ≤ 4) :
    Calls Try.prog 216 #[.agg #[.int .i64 x, .int .i64 y]] w fun e w' => e = .returned (.bool true) ∧ Below w.heap.size w w' := by
  go_enter Try.func216, Try.ntmps216
  go_wp2_with fail
  go_ret
  exact ⟨rfl, new_below _ _⟩
theorem onGrid_no (x y : Int) (w : World) (h : ¬ OnG (x, y)) :
    Calls Try.prog 216 #[.agg #[.int .i64 x, .int .i64 y]] w fun e w' => e = .returned (.bool false) ∧ Below w.heap.size w w' := by
  have h' : x < 0 ∨ (0 ≤ x ∧ 4 < x) ∨ (0 ≤ x ∧ x ≤ 4 ∧ y < 0) ∨ (0 ≤ x ∧ x ≤ 4 ∧ 0 ≤ y ∧ 4 < y) := by
    unfold OnG at h
    simp only at h
    omega
  clear h
  rcases h' with h1 | ⟨h1, h2⟩ | ⟨h1, h2, h3⟩ | ⟨h1, h2, h3, h4⟩
  all_goals
    go_enter Try.func216, Try.ntmps216
    go_wp2_with fail
    go_ret
    exact ⟨by first | rfl | (simp; done) | (simp; omega), new_below _ _⟩
theorem onGrid_c (x : Int × Int) (w : World) :
    Calls Try.prog 216 #[.agg #[.int .i64 x.1, .int .i64 x.2]] w fun e w' => e = .returned (.bool (decide (OnG x))) ∧ Below w.heap.size w w' := by
  by_cases h : OnG x
  · rw [decide_eq_true h]
    exact onGrid_yes _ _ w h.1.1 h.1.2 h.2.1 h.2.2
  · rw [decide_eq_false h]
    exact onGrid_no _ _ w h

theorem minus_c (a b : Int × Int) (w : World) (ha : OnG a) (hb : OnG b) :
    Calls Try.prog 222 #[.agg #[.int .i64 a.1, .int .i64 a.2], .agg #[.int .i64 b.1, .int .i64 b.2]] w fun e w' => e = .returned (.agg #[.int .i64 (a.1 - b.1), .int .i64 (a.2 - b.2)]) ∧ Below w.heap.size w w' := by
  obtain ⟨x, y⟩ := a
  obtain ⟨u, v⟩ := b
  obtain ⟨⟨a1, a2⟩, a3, a4⟩ := ha
  obtain ⟨⟨b1, b2⟩, b3, b4⟩ := hb
  simp only at a1 a2 a3 a4 b1 b2 b3 b4
  go_enter Try.func222, Try.ntmps222
  go_wp2_with fail
  refine bodyPost_ret (v := .agg #[.int .i64 (x - u), .int .i64 (y - v)]) (by simp [results, Try.results222, go_sem]) rfl ⟨rfl, ?_⟩
  repeat' first | exact Below.refl _ _ | refine Below.alloc ?_ (by simp; try omega) _

theorem sq_le (x : Int) (h1 : -4 ≤ x) (h2 : x ≤ 4) : 0 ≤ x * x ∧ x * x ≤ 16 := by
  have h := Int.mul_nonneg (show 0 ≤ 4 - x by omega) (show 0 ≤ 4 + x by omega)
  rw [Int.sub_mul, Int.mul_add, Int.mul_add] at h
  have h0 : 0 ≤ x * x := by
    rcases Int.le_total 0 x with h | h
    · exact Int.mul_nonneg h h
    · have := Int.mul_nonneg (show 0 ≤ -x by omega) (show 0 ≤ -x by omega)
      rwa [Int.neg_mul_neg] at this
  constructor <;> omega
end Go.Proofs.Ytdkpmaahinbhlaa
/- A block of three values: a struct of three cells in a box. No condition. -/
namespace Go.Proofs.Ytdkpmaahinbhlaa
open Go.RowKit

/-- Three values in a block. -/
def Cel3 (W : World) (b : Nat) (T : TypeId) (v0 v1 v2 : Value) : Prop := W.heap[b]? = some (.cells #[v0, v1, v2] T (0, 0))
theorem Cel3.lt {W : World} {b : Nat} {T : TypeId} {v0 v1 v2 : Value} (h : Cel3 W b T v0 v1 v2) : b < W.heap.size := (Array.getElem?_eq_some_iff.1 h).1
theorem Cel3.cells {W : World} {b : Nat} {T : TypeId} {v0 v1 v2 : Value} (h : Cel3 W b T v0 v1 v2) :
    W.cell? ⟨b, 0, none⟩ = some v0 ∧ W.cell? ⟨b, 1, none⟩ = some v1 ∧ W.cell? ⟨b, 2, none⟩ = some v2 ∧ W.frozen? ⟨b, 0, none⟩ = false ∧ W.frozen? ⟨b, 1, none⟩ = false ∧ W.frozen? ⟨b, 2, none⟩ = false := by
  refine ⟨?_, ?_, ?_, frozen_of_row W b 0 _ T h, frozen_of_row W b 1 _ T h, frozen_of_row W b 2 _ T h⟩
  · rw [cell_of_row W b 0 _ T (0, 0) h]; rfl
  · rw [cell_of_row W b 1 _ T (0, 0) h]; rfl
  · rw [cell_of_row W b 2 _ T (0, 0) h]; rfl
theorem Cel3.within {W W' : World} {b lo hi : Nat} {T : TypeId} {v0 v1 v2 : Value} (h : Cel3 W b T v0 v1 v2) (hw : Within lo hi W W') (hd : b < lo ∨ hi ≤ b) : Cel3 W' b T v0 v1 v2 := (hw.block b h.lt hd).trans h
theorem Cel3.kept {W W' : World} {b : Nat} {T : TypeId} {v0 v1 v2 : Value} (h : Cel3 W b T v0 v1 v2) (hb : Below W.heap.size W W') : Cel3 W' b T v0 v1 v2 := (hb.block b h.lt).trans h
theorem Cel3.set0 {W : World} {b : Nat} {T : TypeId} {v0 v1 v2 : Value} (h : Cel3 W b T v0 v1 v2) (u : Value) : Cel3 (W.setCell ⟨b, 0, none⟩ u) b T u v1 v2 := heap_setCell_same W b 0 _ T u h
theorem Cel3.set1 {W : World} {b : Nat} {T : TypeId} {v0 v1 v2 : Value} (h : Cel3 W b T v0 v1 v2) (u : Value) : Cel3 (W.setCell ⟨b, 1, none⟩ u) b T v0 u v2 := heap_setCell_same W b 1 _ T u h
theorem Cel3.set2 {W : World} {b : Nat} {T : TypeId} {v0 v1 v2 : Value} (h : Cel3 W b T v0 v1 v2) (u : Value) : Cel3 (W.setCell ⟨b, 2, none⟩ u) b T v0 v1 u := heap_setCell_same W b 2 _ T u h
theorem cel3_new (w : World) (v0 v1 v2 : Value) (T : TypeId) : Cel3 (w.alloc (.cells #[v0, v1, v2] T)) w.heap.size T v0 v1 v2 := heap_alloc_new w _
theorem within_set (W : World) (b o : Nat) (v : Value) : Within b (b + 1) W (W.setCell ⟨b, o, none⟩ v) := by
  have hg := grownBy_set W b o v
  exact ⟨hg.os, hg.tape, hg.output, hg.size, fun j hj hd => hg.block j hj (by simp; omega)⟩
theorem within_alloc (w : World) (o : Obj) : Within 0 0 w (w.alloc o) := within_of (new_below w o)
theorem Within.refl (lo hi : Nat) (w : World) : Within lo hi w w := ⟨rfl, rfl, rfl, Nat.le_refl _, fun _ _ _ => rfl⟩
theorem Within.trans {lo hi : Nat} {a b c : World} (h : Within lo hi a b) (k : Within lo hi b c) : Within lo hi a c :=
  ⟨k.os.trans h.os, k.tape.trans h.tape, k.output.trans h.output, Nat.le_trans h.size k.size, fun i hi' hd => (k.block i (Nat.lt_of_lt_of_le hi' h.size) hd).trans (h.block i hi' hd)⟩
theorem Within.widen {lo hi lo' hi' : Nat} {a b : World} (h : Within lo hi a b) (h1 : hi ≤ lo ∨ (lo' ≤ lo ∧ hi ≤ hi')) : Within lo' hi' a b :=
  ⟨h.os, h.tape, h.output, h.size, fun i hi' hd => h.block i hi' (by omega)⟩

/-- The world that only an answer's box was written in. -/
theorem ret3 {W : World} {b : Nat} {T : TypeId} {a0 a1 a2 : Value} (h : Cel3 W b T a0 a1 a2) (v0 v1 v2 : Value) : Cel3 (((W.setCell ⟨b, 0, none⟩ v0).setCell ⟨b, 1, none⟩ v1).setCell ⟨b, 2, none⟩ v2) b T v0 v1 v2 ∧ Within b (b + 1) W (((W.setCell ⟨b, 0, none⟩ v0).setCell ⟨b, 1, none⟩ v1).setCell ⟨b, 2, none⟩ v2) :=
  ⟨((h.set0 v0).set1 v1).set2 v2, ((within_set W b 0 v0).trans (within_set _ b 1 v1)).trans (within_set _ b 2 v2)⟩

end Go.Proofs.Ytdkpmaahinbhlaa
/- A framework by value: how a law's argument is opened; the laws' copies, sizes, comparisons and marks of frameworks; what the walks carry from call to call. No condition. -/
namespace Go.Proofs.Ytdkpmaahinbhlaa
open Go.RowKit

/-- A framework by value lies in the block b. -/
def Box3 (W : World) (b : Nat) (q : Int) (v u : Value) : Prop := b < W.heap.size ∧ W.cell? ⟨b, 0, none⟩ = some (.int .i64 q) ∧ W.cell? ⟨b, 1, none⟩ = some v ∧ W.cell? ⟨b, 2, none⟩ = some u
theorem Box3.within {W W' : World} {b lo hi : Nat} {q : Int} {v u : Value} (h : Box3 W b q v u) (hw : Within lo hi W W') (hd : b < lo ∨ hi ≤ b) : Box3 W' b q v u :=
  ⟨Nat.lt_of_lt_of_le h.1 hw.size, (World.cell?_of_block (hw.block b h.1 hd)).trans h.2.1, (World.cell?_of_block (hw.block b h.1 hd)).trans h.2.2.1, (World.cell?_of_block (hw.block b h.1 hd)).trans h.2.2.2⟩
theorem Box3.kept {W W' : World} {b : Nat} {q : Int} {v u : Value} (h : Box3 W b q v u) (hb : Below W.heap.size W W') : Box3 W' b q v u :=
  ⟨Nat.lt_of_lt_of_le h.1 hb.size, (hb.cell (p := ⟨b, 0, none⟩) h.1).trans h.2.1, (hb.cell (p := ⟨b, 1, none⟩) h.1).trans h.2.2.1, (hb.cell (p := ⟨b, 2, none⟩) h.1).trans h.2.2.2⟩
theorem box3_new (w : World) (q : Int) (v u : Value) (t : TypeId) : Box3 (w.alloc (.cells #[.int .i64 q, v, u] t)) w.heap.size q v u :=
  ⟨by simp, by rw [World.cell?_alloc_at _ _ _ _ rfl]; rfl, by rw [World.cell?_alloc_at _ _ _ _ rfl]; rfl, by rw [World.cell?_alloc_at _ _ _ _ rfl]; rfl⟩
theorem box3s2 {W : World} {b1 b2 : Nat} {q1 q2 : Int} {v1 v2 u1 u2 : Value} (h1 : Box3 W b1 q1 v1 u1) (h2 : Box3 W b2 q2 v2 u2) :
    W.cell? ⟨b1, 0, none⟩ = some (.int .i64 q1) ∧ W.cell? ⟨b1, 1, none⟩ = some v1 ∧ W.cell? ⟨b1, 2, none⟩ = some u1 ∧ W.cell? ⟨b2, 0, none⟩ = some (.int .i64 q2) ∧ W.cell? ⟨b2, 1, none⟩ = some v2 ∧ W.cell? ⟨b2, 2, none⟩ = some u2 := ⟨h1.2.1, h1.2.2.1, h1.2.2.2, h2.2.1, h2.2.2.1, h2.2.2.2⟩
/-- A framework that is read: its rows lie in blocks from lo to hi. -/
structure FwIn (W : World) (lo hi : Nat) (A : Option Addr) (l : List (Int × Int)) (B : Option Addr) (m : List (Int × Int)) : Prop where
  b : BarsIn W lo hi A l
  p : BarsIn W lo hi B m
theorem FwIn.within {W W' : World} {lo hi lo' hi' : Nat} {A B : Option Addr} {l m : List (Int × Int)} (h : FwIn W lo hi A l B m) (hw : Within lo' hi' W W') (hd : hi ≤ lo' ∨ hi' ≤ lo) : FwIn W' lo hi A l B m := ⟨h.b.within hw hd, h.p.within hw hd⟩
theorem fw_in {W : World} {A B : Option Addr} {l m : List (Int × Int)} (h : BarsAt W W.heap.size A l) (k : BarsAt W W.heap.size B m) : FwIn W 0 W.heap.size A l B m := ⟨bars_in h, bars_in k⟩
theorem BarsIn.widen {W : World} {lo hi lo' hi' : Nat} {A : Option Addr} {l : List (Int × Int)} (h : BarsIn W lo hi A l) (h1 : lo' ≤ lo) (h2 : hi ≤ hi') (h3 : hi' ≤ W.heap.size) : BarsIn W lo' hi' A l :=
  ⟨h3, fun hl => by
    obtain ⟨b, off, e, g1, g2, hc⟩ := h.2 hl
    exact ⟨b, off, e, by omega, by omega, hc⟩⟩
/-- A framework of the call's own: its rows lie in blocks of their own, between lo and hi. -/
def OwnFw (W : World) (lo hi : Nat) (A : Option Addr) (ca : Nat) (l : List (Int × Int)) (B : Option Addr) (cb : Nat) (m : List (Int × Int)) : Prop :=
  ∃ f t : Nat × Nat, OwnIn W f.1 f.2 A ca l ∧ OwnPl W t.1 t.2 B cb m ∧ (f.2 ≤ t.1 ∨ t.2 ≤ f.1) ∧ (lo ≤ f.1 ∧ f.2 ≤ hi) ∧ (lo ≤ t.1 ∧ t.2 ≤ hi) ∧ hi ≤ W.heap.size
theorem OwnFw.within {W W' : World} {lo hi lo' hi' : Nat} {A B : Option Addr} {ca cb : Nat} {l m : List (Int × Int)} (h : OwnFw W lo hi A ca l B cb m) (hw : Within lo' hi' W W') (hd : hi ≤ lo' ∨ hi' ≤ lo) : OwnFw W' lo hi A ca l B cb m := by
  obtain ⟨f, t, h1, h2, d, b1, b2, h3⟩ := h
  exact ⟨f, t, h1.within hw (by omega), h2.within hw (by omega), d, b1, b2, Nat.le_trans h3 hw.size⟩
theorem OwnFw.reads {W : World} {lo hi : Nat} {A B : Option Addr} {ca cb : Nat} {l m : List (Int × Int)} (h : OwnFw W lo hi A ca l B cb m) : FwIn W lo hi A l B m := by
  obtain ⟨f, t, h1, h2, d, b1, b2, h3⟩ := h
  exact ⟨h1.bars.widen b1.1 b1.2 h3, h2.bars.widen b2.1 b2.2 h3⟩
theorem OwnFw.widen {W : World} {lo hi lo' hi' : Nat} {A B : Option Addr} {ca cb : Nat} {l m : List (Int × Int)} (h : OwnFw W lo hi A ca l B cb m) (h1 : lo' ≤ lo) (h2 : hi ≤ hi') (h3 : hi' ≤ W.heap.size) : OwnFw W lo' hi' A ca l B cb m := by
  obtain ⟨f, t, g1, g2, d, b1, b2, _⟩ := h
  exact ⟨f, t, g1, g2, d, by omega, by omega, h3⟩
/-- What a function returns that answers with a framework: one that is read, one of the call's own. -/
def FwR (w : World) (p : Int) (l m : List (Int × Int)) (e : Ending) (w' : World) : Prop :=
  ∃ A ca B cb, e = .returned (.agg #[.int .i64 p, .slice A l.length ca, .slice B m.length cb]) ∧ FwIn w' 0 w'.heap.size A l B m ∧ Below w.heap.size w w'
def FwO (w : World) (p : Int) (l m : List (Int × Int)) (e : Ending) (w' : World) : Prop :=
  ∃ A ca B cb, e = .returned (.agg #[.int .i64 p, .slice A l.length ca, .slice B m.length cb]) ∧ OwnFw w' w.heap.size w'.heap.size A ca l B cb m ∧ Below w.heap.size w w'
def FwRB (w : World) (p : Int) (l m : List (Int × Int)) (r : Bool) (e : Ending) (w' : World) : Prop :=
  ∃ A ca B cb, e = .returned (.tuple #[.agg #[.int .i64 p, .slice A l.length ca, .slice B m.length cb], .bool r]) ∧ FwIn w' 0 w'.heap.size A l B m ∧ Below w.heap.size w w'
def FwOB (w : World) (p : Int) (l m : List (Int × Int)) (r : Bool) (e : Ending) (w' : World) : Prop :=
  ∃ A ca B cb, e = .returned (.tuple #[.agg #[.int .i64 p, .slice A l.length ca, .slice B m.length cb], .bool r]) ∧ OwnFw w' w.heap.size w'.heap.size A ca l B cb m ∧ Below w.heap.size w w'

theorem szFw_c (p : Int) (A : Option Addr) (n ca : Nat) (B : Option Addr) (k cb : Nat) (left : Int) (w : World) (h0 : ((n + k : Nat) : Int) ≤ left) (h1 : left ≤ 1048576) :
    Calls Try.prog 86 #[.agg #[.int .i64 p, .slice A n ca, .slice B k cb], .int .i64 left] w fun e w' => e = .returned (.int .i64 (left - n - k)) ∧ Below w.heap.size w w' := by
  have hA := new_below w (.cells #[.int .i64 p, .slice A n ca, .slice B k cb] 92)
  have HA := Lib.hid hA
  have HX := Lib.hid (box3_new w p (.slice A n ca) (.slice B k cb) 92)
  have hnn : ¬ left - (n : Int) < 0 := by omega
  have hnk : ¬ left - (n : Int) - (k : Int) < 0 := by omega
  clear hA
  go_enter Try.func86, Try.ntmps86
  go_wp2_with fail
  generalize (w.alloc (.cells #[.int .i64 p, .slice A n ca, .slice B k cb] 92)) = w1 at *
  refine (szGraph_c p A n ca left _ (by omega) h1).mono ?_
  rintro e w2 ⟨rfl, hb⟩
  obtain ⟨_, x0, x1, x2⟩ := HX.out.kept hb
  have HB := Lib.hid (below_on HA.out hb HA.out.size)
  clear hb
  go_wp2_with fail
  refine (szPlaceS_c B k cb (left - (n : Int)) _ (by omega) (by omega)).mono ?_
  rintro e w3 ⟨rfl, rfl⟩
  go_wp2_with fail
  go_ret
  exact ⟨rfl, HB.out⟩
theorem szFw_no (p : Int) (A : Option Addr) (n ca : Nat) (B : Option Addr) (k cb : Nat) (left : Int) (w : World) (hn : n ≤ maxLen) (hk : k ≤ maxLen) (h0 : left < ((n + k : Nat) : Int)) (h1 : 0 ≤ left) (hl : left ≤ 1048576) :
    Calls Try.prog 86 #[.agg #[.int .i64 p, .slice A n ca, .slice B k cb], .int .i64 left] w fun e w' => e = .returned (.int .i64 (-1)) ∧ Below w.heap.size w w' := by
  have hA := new_below w (.cells #[.int .i64 p, .slice A n ca, .slice B k cb] 92)
  have HA := Lib.hid hA
  have HX := Lib.hid (box3_new w p (.slice A n ca) (.slice B k cb) 92)
  clear hA
  unfold maxLen at hn hk
  by_cases hx : left < (n : Int)
  · go_enter Try.func86, Try.ntmps86
    go_wp2_with fail
    generalize (w.alloc (.cells #[.int .i64 p, .slice A n ca, .slice B k cb] 92)) = w1 at *
    refine (szGraph_no p A n ca left _ (by omega) hx h1).mono ?_
    rintro e w2 ⟨rfl, hb⟩
    have HB := Lib.hid (below_on HA.out hb HA.out.size)
    clear hb
    go_wp2_with fail
    go_ret
    exact ⟨rfl, HB.out⟩
  · have hnn : ¬ left - (n : Int) < 0 := by omega
    go_enter Try.func86, Try.ntmps86
    go_wp2_with fail
    generalize (w.alloc (.cells #[.int .i64 p, .slice A n ca, .slice B k cb] 92)) = w1 at *
    refine (szGraph_c p A n ca left _ (by omega) hl).mono ?_
    rintro e w2 ⟨rfl, hb⟩
    obtain ⟨_, x0, x1, x2⟩ := HX.out.kept hb
    have HB := Lib.hid (below_on HA.out hb HA.out.size)
    clear hb
    go_wp2_with fail
    refine (szPlaceS_no B k cb (left - (n : Int)) _ (by omega) (by omega) (by omega)).mono ?_
    rintro e w3 ⟨rfl, rfl⟩
    go_wp2_with fail
    go_ret
    exact ⟨rfl, HB.out⟩

set_option maxHeartbeats 2000000 in
set_option maxRecDepth 100000 in
theorem toFw_c (p : Int) (l m : List (Int × Int)) (A : Option Addr) (ca : Nat) (B : Option Addr) (cb : Nat) (lo hi : Nat) (w : World) (hl : FwIn w lo hi A l B m) (hn : l.length + m.length ≤ 1048576) :
    Calls Try.prog 88 #[.agg #[.int .i64 p, .slice A l.length ca, .slice B m.length cb]] w fun e w' => ∃ g h, e = .returned (.agg #[.int .i64 p, .slice (some ⟨g, 0, none⟩) l.length l.length, .slice (some ⟨h, 0, none⟩) m.length m.length]) ∧ OwnFw w' w.heap.size w'.heap.size (some ⟨g, 0, none⟩) l.length l (some ⟨h, 0, none⟩) m.length m ∧ Below w.heap.size w w' := by
  have HL := Lib.hid hl
  clear hl
  have hA1 := new_below w (.cells #[.int .i64 p, .slice A l.length ca, .slice B m.length cb] 92)
  have HX := Lib.hid (box3_new w p (.slice A l.length ca) (.slice B m.length cb) 92)
  have hs1 : (w.alloc (.cells #[.int .i64 p, .slice A l.length ca, .slice B m.length cb] 92)).heap.size = w.heap.size + 1 := by simp
  have HA1 := Lib.hid hA1
  clear hA1
  go_enter Try.func88, Try.ntmps88
  go_wp2_with fail
  generalize (w.alloc (.cells #[.int .i64 p, .slice A l.length ca, .slice B m.length cb] 92)) = w1 at *
  have hr := cel3_new w1 (.int .i64 0) (.slice none 0 0) (.slice none 0 0) 97
  have hr2 := new_below w1 (.cells #[.int .i64 0, .slice none 0 0, .slice none 0 0] 97)
  have hs2 : (w1.alloc (.cells #[.int .i64 0, .slice none 0 0, .slice none 0 0] 97)).heap.size = w1.heap.size + 1 := by simp
  generalize (w1.alloc (.cells #[.int .i64 0, .slice none 0 0, .slice none 0 0] 97)) = w2 at *
  have ho := cel3_new w2 (.int .i64 0) (.slice none 0 0) (.slice none 0 0) 97
  have ho2 := new_below w2 (.cells #[.int .i64 0, .slice none 0 0, .slice none 0 0] 97)
  have hs3 : (w2.alloc (.cells #[.int .i64 0, .slice none 0 0, .slice none 0 0] 97)).heap.size = w2.heap.size + 1 := by simp
  generalize (w2.alloc (.cells #[.int .i64 0, .slice none 0 0, .slice none 0 0] 97)) = w3 at *
  rw [hs2, hs1] at ho
  rw [hs1] at hr
  have hB3 := below_on (below_on HA1.out hr2 (by omega)) ho2 (by omega)
  have hX3 := (HX.out.kept hr2).kept ho2
  have hL3 := HL.out.within (within_of hB3) (.inr (Nat.zero_le _))
  have hR3 := hr.kept ho2
  have HX3 := Lib.hid hX3
  have HL3 := Lib.hid hL3
  have HR3 := Lib.hid hR3
  have HO3 := Lib.hid ho
  have HB3 := Lib.hid hB3
  have HS3 := Lib.hid (show w3.heap.size = w.heap.size + 3 by omega)
  clear hX3 hL3 hR3 ho hB3 hr hr2 ho2 hs1 hs2 hs3 HX HA1
  refine (toGraph_c p l A ca _ HL3.out.b.at (by omega)).mono ?_
  rintro e w4 ⟨g, rfl, og, hb⟩
  have HZ4 := Lib.hid hb.size
  have HX4 := Lib.hid (HX3.out.kept hb)
  have HL4 := Lib.hid (HL3.out.within (within_of hb) (.inr (Nat.zero_le _)))
  have HR4 := Lib.hid (HR3.out.kept hb)
  have HO4 := Lib.hid (HO3.out.kept hb)
  have HB4 := Lib.hid (below_on HB3.out hb HB3.out.size)
  have HG4 := Lib.hid (own_in og)
  clear og hb HX3 HL3 HR3 HO3 HB3
  obtain ⟨_, x0, x1, x2⟩ := HX4.out
  obtain ⟨o0, o1, o2, f0, f1, f2⟩ := HO4.out.cells
  go_wp2_with fail
  clear x0 x1 x2 o0 o1 o2 f0 f1 f2
  have hO5 := (HO4.out.set0 (.int .i64 p)).set1 (.slice (some ⟨g, 0, none⟩) l.length l.length)
  have hW5 := (within_set w4 (w.heap.size + 1 + 1) 0 (.int .i64 p)).trans (within_set _ (w.heap.size + 1 + 1) 1 (.slice (some ⟨g, 0, none⟩) l.length l.length))
  generalize ((w4.setCell ⟨w.heap.size + 1 + 1, 0, none⟩ (.int .i64 p)).setCell ⟨w.heap.size + 1 + 1, 1, none⟩ (.slice (some ⟨g, 0, none⟩) l.length l.length)) = w5 at *
  have hS3 := HS3.out
  have HO5 := Lib.hid hO5
  have HB5 := Lib.hid (within_on HB4.out hW5 HB4.out.size (.inl (by omega)))
  have HL5 := Lib.hid (show FwIn w5 0 w5.heap.size A l B m from
    have h0 := (HL.out.b.at.kept HB5.out).more HB5.out.size
    have h1 := (HL.out.p.at.kept HB5.out).more HB5.out.size
    ⟨bars_in h0, bars_in h1⟩)
  have HR5 := Lib.hid (show Cel3 w5 (w.heap.size + 1) 97 (.int .i64 0) (.slice none 0 0) (.slice none 0 0) from HR4.out.within hW5 (.inl (by omega)))
  have HG5 := Lib.hid (HG4.out.within hW5 (.inr (by omega)))
  have HZ5 := Lib.hid hW5.size
  clear hO5 hW5 HO4 HB4 HL4 HR4 HG4 HX4
  refine (toPlaceS_c m B cb _ HL5.out.p.at (by omega)).mono ?_
  rintro e w6 ⟨h, rfl, og, hb⟩
  have HR6 := Lib.hid (HR5.out.kept hb)
  have HO6 := Lib.hid (HO5.out.kept hb)
  have HB6 := Lib.hid (below_on HB5.out hb HB5.out.size)
  have HG6 := Lib.hid (HG5.out.within (within_of hb) (.inr (Nat.zero_le _)))
  have HP6 := Lib.hid (own_pl og)
  have HZ6 := Lib.hid hb.size
  clear og hb HR5 HO5 HB5 HG5
  obtain ⟨o0, o1, o2, f0, f1, f2⟩ := HO6.out.cells
  obtain ⟨r0, r1, r2, e0, e1, e2⟩ := HR6.out.cells
  go_wp2_with fail
  clear o0 o1 o2 f0 f1 f2 r0 r1 r2 e0 e1 e2
  have hW7 := within_set w6 (w.heap.size + 1 + 1) 2 (.slice (some ⟨h, 0, none⟩) m.length m.length)
  have hR7 := HR6.out.within hW7 (.inl (by omega))
  have hB7 := within_on HB6.out hW7 HB6.out.size (.inl (by omega))
  have hG7 := HG6.out.within hW7 (.inr (by omega))
  have hZ4 := HZ4.out
  have hZ5 := HZ5.out
  have hZ6 := HZ6.out
  have hP7 := HP6.out.within hW7 (.inr (by omega))
  have hZ7 := hW7.size
  generalize (w6.setCell ⟨w.heap.size + 1 + 1, 2, none⟩ (.slice (some ⟨h, 0, none⟩) m.length m.length)) = w7 at *
  obtain ⟨hc, hw⟩ := ret3 hR7 (.int .i64 p) (.slice (some ⟨g, 0, none⟩) l.length l.length) (.slice (some ⟨h, 0, none⟩) m.length m.length)
  have hw7 := hw.size
  generalize ((w7.setCell ⟨w.heap.size + 1, 0, none⟩ (.int .i64 p)).setCell ⟨w.heap.size + 1, 1, none⟩ (.slice (some ⟨g, 0, none⟩) l.length l.length)).setCell ⟨w.heap.size + 1, 2, none⟩ (.slice (some ⟨h, 0, none⟩) m.length m.length) = w8 at *
  obtain ⟨c0, c1, c2, _, _, _⟩ := hc.cells
  refine bodyPost_ret (v := .agg #[.int .i64 p, .slice (some ⟨g, 0, none⟩) l.length l.length, .slice (some ⟨h, 0, none⟩) m.length m.length]) ?_ rfl ⟨g, h, rfl, ⟨(w3.heap.size, w4.heap.size), (w5.heap.size, w6.heap.size), hG7.within hw (.inr (by omega)), hP7.within hw (.inr (by omega)), .inl hZ5, ⟨by omega, by omega⟩, ⟨by omega, by omega⟩, Nat.le_refl _⟩, within_on hB7 hw hB7.size (.inl (by omega))⟩
  simp [results, Try.results88, go_sem, c0, c1, c2]

set_option maxHeartbeats 2000000 in
set_option maxRecDepth 100000 in
theorem eqFw_c (p : Int) (l m : List (Int × Int)) (A A' : Option Addr) (ca ca' : Nat) (B B' : Option Addr) (cb cb' : Nat) (lo hi lo' hi' : Nat) (w : World) (hl : FwIn w lo hi A l B m) (hl' : FwIn w lo' hi' A' l B' m) (hn : l.length + m.length ≤ 1048576) :
    Calls Try.prog 91 #[.agg #[.int .i64 p, .slice A l.length ca, .slice B m.length cb], .agg #[.int .i64 p, .slice A' l.length ca', .slice B' m.length cb']] w fun e w' => e = .returned (.bool true) ∧ Below w.heap.size w w' := by
  have HL := Lib.hid hl
  have HL' := Lib.hid hl'
  clear hl hl'
  have hA1 := new_below w (.cells #[.int .i64 p, .slice A l.length ca, .slice B m.length cb] 97)
  have hA2 := new_below (w.alloc (.cells #[.int .i64 p, .slice A l.length ca, .slice B m.length cb] 97)) (.cells #[.int .i64 p, .slice A' l.length ca', .slice B' m.length cb'] 97)
  have hs1 : (w.alloc (.cells #[.int .i64 p, .slice A l.length ca, .slice B m.length cb] 97)).heap.size = w.heap.size + 1 := by simp
  have hX := (box3_new w p (.slice A l.length ca) (.slice B m.length cb) 97).kept hA2
  have hY := box3_new (w.alloc (.cells #[.int .i64 p, .slice A l.length ca, .slice B m.length cb] 97)) p (.slice A' l.length ca') (.slice B' m.length cb') 97
  rw [hs1] at hY
  have HX := Lib.hid hX
  have HY := Lib.hid hY
  have HB := Lib.hid (below_on hA1 hA2 hA1.size)
  clear hA1 hA2 hs1 hX hY
  go_enter Try.func91, Try.ntmps91
  go_wp2_with fail
  generalize ((w.alloc (.cells #[.int .i64 p, .slice A l.length ca, .slice B m.length cb] 97)).alloc (.cells #[.int .i64 p, .slice A' l.length ca', .slice B' m.length cb'] 97)) = w1 at *
  have HL1 := Lib.hid (HL.out.within (within_of HB.out) (.inr (Nat.zero_le _)))
  have HL1' := Lib.hid (HL'.out.within (within_of HB.out) (.inr (Nat.zero_le _)))
  refine (eqGraph_c p l A A' ca ca' _ HL1.out.b.at HL1'.out.b.at (by omega)).mono ?_
  rintro e w2 ⟨rfl, hb⟩
  have HL2 := Lib.hid (HL1.out.within (within_of hb) (.inr (Nat.zero_le _)))
  have HL2' := Lib.hid (HL1'.out.within (within_of hb) (.inr (Nat.zero_le _)))
  obtain ⟨_, x0, x1, x2⟩ := HX.out.kept hb
  obtain ⟨_, y0, y1, y2⟩ := HY.out.kept hb
  have HB2 := Lib.hid (below_on HB.out hb HB.out.size)
  clear hb
  go_wp2_with fail
  refine (eqPlaceS_c m B B' cb cb' _ HL2.out.p.at HL2'.out.p.at (by omega)).mono ?_
  rintro e w3 ⟨rfl, hb⟩
  have HB3 := Lib.hid (below_on HB2.out hb HB2.out.size)
  clear hb
  go_wp2_with fail
  go_ret
  exact ⟨rfl, HB3.out⟩

set_option maxHeartbeats 2000000 in
set_option maxRecDepth 100000 in
theorem markFw_o (p : Int) (l m : List (Int × Int)) (A : Option Addr) (ca : Nat) (B : Option Addr) (cb : Nat) (k : Int) (lo hi : Nat) (w : World) (h : OwnFw w lo hi A ca l B cb m) (hn : l.length + m.length ≤ 1048576) (hk0 : 0 ≤ k) (hk1 : k ≤ 5000000) :
    Calls Try.prog 92 #[.agg #[.int .i64 p, .slice A l.length ca, .slice B m.length cb], .int .i64 k] w fun e w' => e = .returned (.int .i64 (k + 2 * (l.length : Int) + 2 * (m.length : Int))) ∧ Within lo hi w w' ∧ OwnFw w' lo hi A ca (marks k l.length) B cb (marks (k + 2 * (l.length : Int)) m.length) := by
  obtain ⟨f, t, h1, h2, d, b1, b2, h3⟩ := h
  have hA1 := new_below w (.cells #[.int .i64 p, .slice A l.length ca, .slice B m.length cb] 97)
  have HX := Lib.hid (box3_new w p (.slice A l.length ca) (.slice B m.length cb) 97)
  have HG := Lib.hid (h1.within (within_of hA1) (.inr (Nat.zero_le _)))
  have HP := Lib.hid (h2.within (within_of hA1) (.inr (Nat.zero_le _)))
  have HA := Lib.hid (show Within lo hi w (w.alloc (.cells #[.int .i64 p, .slice A l.length ca, .slice B m.length cb] 97)) from ⟨hA1.os, hA1.tape, hA1.output, hA1.size, fun k hk _ => hA1.block k hk⟩)
  have hsz : w.heap.size < (w.alloc (.cells #[.int .i64 p, .slice A l.length ca, .slice B m.length cb] 97)).heap.size := by simp
  have HD := Lib.hid (And.intro d (And.intro b1 (And.intro b2 h3)))
  clear h1 h2 hA1 d b1 b2 h3
  go_enter Try.func92, Try.ntmps92
  go_wp2_with fail
  generalize (w.alloc (.cells #[.int .i64 p, .slice A l.length ca, .slice B m.length cb] 97)) = w1 at *
  refine (markGraph_o p A ca l k f.1 f.2 _ HG.out (by omega) hk0 (by omega)).mono ?_
  rintro e w2 ⟨rfl, hin, hog⟩
  have HG2 := Lib.hid hog
  have HP2 := Lib.hid (HP.out.within hin (by have := HD.out.1; omega))
  obtain ⟨_, x0, x1, x2⟩ := HX.out.within hin (by have := HD.out.2; omega)
  have HA2 := Lib.hid (HA.out.trans (hin.widen (.inr ⟨HD.out.2.1.1, HD.out.2.1.2⟩)))
  clear hog hin HG HP HA
  go_wp2_with fail
  refine (markPlaceS_o B cb m (k + 2 * (l.length : Int)) t.1 t.2 _ HP2.out (by omega) (by omega) (by omega)).mono ?_
  rintro e w3 ⟨rfl, hin, hog⟩
  have HG3 := Lib.hid (HG2.out.within hin (by have := HD.out.1; omega))
  have HP3 := Lib.hid hog
  have HA3 := Lib.hid (HA2.out.trans (hin.widen (.inr ⟨HD.out.2.2.1.1, HD.out.2.2.1.2⟩)))
  clear hog hin HG2 HP2 HA2
  go_wp2_with fail
  go_ret
  exact ⟨rfl, HA3.out, f, t, HG3.out, HP3.out, HD.out.1, HD.out.2.1, HD.out.2.2.1, Nat.le_trans HD.out.2.2.2 HA3.out.size⟩

/-- What the walks over a framework's box carry. -/
structure FbI (w wr : World) (lo hi : Nat) (p : Int) (A : Option Addr) (ca : Nat) (l : List (Int × Int)) (B : Option Addr) (cb : Nat) (m : List (Int × Int)) : Prop where
  b : Below w.heap.size w wr
  x : Box3 wr w.heap.size p (.slice A l.length ca) (.slice B m.length cb)
  f : FwIn wr lo hi A l B m
theorem FbI.below {w a b : World} {lo hi : Nat} {p : Int} {A B : Option Addr} {ca cb : Nat} {l m : List (Int × Int)} (h : FbI w a lo hi p A ca l B cb m) (hb : Below a.heap.size a b) : FbI w b lo hi p A ca l B cb m :=
  ⟨below_on h.b hb h.b.size, h.x.kept hb, h.f.within (within_of hb) (.inr (Nat.zero_le _))⟩
theorem FbI.new {w : World} {lo hi : Nat} {p : Int} {A B : Option Addr} {ca cb : Nat} {l m : List (Int × Int)} (h : FwIn w lo hi A l B m) (t : TypeId) :
    FbI w (w.alloc (.cells #[.int .i64 p, .slice A l.length ca, .slice B m.length cb] t)) lo hi p A ca l B cb m :=
  ⟨new_below _ _, box3_new _ _ _ _ _, h.within (within_of (new_below _ _)) (.inr (Nat.zero_le _))⟩
theorem FbI.place {w wr : World} {lo hi : Nat} {p : Int} {A B : Option Addr} {ca cb : Nat} {l m : List (Int × Int)} (h : FbI w wr lo hi p A ca l B cb m) {k : Nat} (hk : k < m.length) :
    ∃ b off, B = some ⟨b, off, none⟩ ∧ b < wr.heap.size ∧ ∀ j, j < m.length → wr.cell? ⟨b, off + j * 2, none⟩ = some (.int .i64 (m.getD j (0, 0)).1) ∧ wr.cell? ⟨b, off + j * 2 + 1, none⟩ = some (.int .i64 (m.getD j (0, 0)).2) := by
  obtain ⟨b, off, e, _, h2, hc⟩ := h.f.p.2 (by omega)
  exact ⟨b, off, e, Nat.lt_of_lt_of_le h2 h.f.p.1, hc⟩
theorem FbI.bar {w wr : World} {lo hi : Nat} {p : Int} {A B : Option Addr} {ca cb : Nat} {l m : List (Int × Int)} (h : FbI w wr lo hi p A ca l B cb m) {k : Nat} (hk : k < l.length) :
    ∃ b off, A = some ⟨b, off, none⟩ ∧ b < wr.heap.size ∧ ∀ j, j < l.length → wr.cell? ⟨b, off + j * 2, none⟩ = some (.int .i64 (l.getD j (0, 0)).1) ∧ wr.cell? ⟨b, off + j * 2 + 1, none⟩ = some (.int .i64 (l.getD j (0, 0)).2) := by
  obtain ⟨b, off, e, _, h2, hc⟩ := h.f.b.2 (by omega)
  exact ⟨b, off, e, Nat.lt_of_lt_of_le h2 h.f.b.1, hc⟩

section
open Go.Joins Go.ChangeShapes Go.WideShapes Go.Deep
variable {H : Type} {enc : TypeId × Value → H} {w : World}
set_option maxRecDepth 100000 in
theorem open_fw {r : Reach} {b0 : Nat} {v : Value} {d : DataW H} {p : List MemPlace} (hv : Value.okWide Try.prog w r b0 92 v) (h : DataW.Trod enc Try.prog w 0 (fun _ => true) true 92 v d p) :
    ∃ (q : Int) (A : Option Addr) (ca : Nat) (l : List (Int × Int)) (B : Option Addr) (cb : Nat) (m : List (Int × Int)), v = .agg #[.int .i64 q, .slice A l.length ca, .slice B m.length cb] ∧ (l.length ≤ maxLen ∧ m.length ≤ maxLen) ∧ BarsAt w w.heap.size A l ∧ BarsAt w w.heap.size B m := by
  have ce : Try.prog.cellsOf 92 = 3 := by kernel_rfl
  have cg : Try.prog.cellsOf 79 = 2 := by kernel_rfl
  have cp : Try.prog.cellsOf 90 = 1 := by kernel_rfl
  have cr : Try.prog.cellsOf 77 = 1 := by kernel_rfl
  have ci : Try.prog.cellsOf 3 = 1 := by kernel_rfl
  obtain ⟨cs, rfl, hsz⟩ := okWide_struct Try.underlying92 hv
  rw [ce] at hsz
  obtain ⟨v0, v1, v2, rfl⟩ := array3 hsz
  obtain ⟨fuel, hg⟩ := h
  obtain ⟨y0, y1, n, _, _, h0, h1⟩ := trod_struct2 Try.underlying92 hg
  simp [Value.cells, cg, cp] at h0 h1
  obtain ⟨z0, z1, n', _, _, h2, h3⟩ := trod_struct2 Try.underlying79 h0
  simp [cr, ci] at h2 h3
  obtain ⟨q, e0, _⟩ := DataW.trod_int Try.underlying3 h2
  obtain ⟨A, ca, l, e1, hl, hb⟩ := open_bars h3
  obtain ⟨B, cb, m, e2, hm, hc⟩ := open_places h1
  subst e1 e2
  have e0' : v0 = .int .i64 q := by simpa using e0
  subst e0'
  exact ⟨q, A, ca, l, B, cb, m, rfl, ⟨hl, hm⟩, hb, hc⟩
end
end Go.Proofs.Ytdkpmaahinbhlaa
/- What spec.IsFramework answers. No condition. -/
namespace Go.Proofs.Ytdkpmaahinbhlaa
open Go.RowKit
attribute [local go_sem ↓] eqlBar eqlPl guardBar guardPl

set_option maxHeartbeats 4000000 in
set_option maxRecDepth 100000 in
theorem specIsF (p : Int) (l m : List (Int × Int)) (A : Option Addr) (ca : Nat) (B : Option Addr) (cb : Nat) (lo hi : Nat) (w : World) (hl : FwIn w lo hi A l B m) (hn : l.length + m.length ≤ 1048576) :
    Calls Try.prog 173 #[.agg #[.int .i64 p, .slice A l.length ca, .slice B m.length cb]] w fun e w' => e = .returned (.bool (isFB p l m)) ∧ Below w.heap.size w w' := by
  have HF := Lib.hid (FbI.new (p := p) (ca := ca) (cb := cb) hl 97)
  clear hl
  by_cases hg : isGB p l = true
  · have hgg : IsG p l := Classical.byContradiction fun h => by rw [isGB_no h] at hg; cases hg
    have HGG := Lib.hid hgg
    have hp1 := hgg.1.1
    have hp8 := hgg.1.2
    have HC := Lib.hid fun (W : World) (h : BarsAt W W.heap.size A l) => specIsGraph' p l A ca W h (by omega)
    rw [hg] at HC
    clear hgg hg
    by_cases h6 : p ≤ 6
    · by_cases hm : (m.length : Int) = p
      · have HM := Lib.hid hm
        have hmp : ((m.length : Int) != p) = false := by simpa using hm
        have hm6 : m.length ≤ 6 := by omega
        clear hm
        by_cases h15 : l.length ≤ 15
        · go_enter Try.func173, Try.ntmps173
          go_wp2_with fail
          generalize (w.alloc (.cells #[.int .i64 p, .slice A l.length ca, .slice B m.length cb] 97)) = w1 at *
          refine (HC.out _ HF.out.f.b.at).mono ?_
          rintro e w2 ⟨rfl, hb⟩
          have HF2 := Lib.hid (HF.out.below hb)
          obtain ⟨_, x0, x1, x2⟩ := HF2.out.x
          clear hb
          go_wp2_with fail
          clear x0 x1 x2
          go_loopw [3] (fun i wr => ∃ k : Nat, k ≤ m.length ∧ i = .int .i64 k ∧ (∀ j, j < k → OnG (m.getD j (0, 0))) ∧ FbI w wr lo hi p A ca l B cb m) (fun i _ => m.length - (intOf i).toNat)
          case atStart => exact ⟨0, by omega, rfl, fun j hj => absurd hj (by omega), HF2.out⟩
          case round =>
            clear HF HF2
            obtain ⟨k, hk, rfl, hok, hf⟩ := hrel
            have HK := Lib.hid hok
            have HF := Lib.hid hf
            clear hok hf
            obtain ⟨_, x0, x1, x2⟩ := HF.out.x
            by_cases hlt : k < m.length
            · have hi : (k : Int) < (m.length : Int) := by omega
              obtain ⟨b, off, rfl, hbB, hcell⟩ := HF.out.place hlt
              obtain ⟨hc1, hc2⟩ := hcell k hlt
              clear hcell
              have HS := Lib.hid (show OnG (m.getD k (0, 0)) → ∀ j, j < k + 1 → OnG (m.getD j (0, 0)) from fun h j hj => by
                by_cases e : j = k
                · subst e; exact h
                · exact HK.out j (by omega))
              have HQ := Lib.hid (show ¬ OnG (m.getD k (0, 0)) → isFB p l m = false from fun h => isFB_no fun hF => h (hF.grid k hlt))
              obtain ⟨x, hx⟩ : ∃ x, m.getD k (0, 0) = x := ⟨_, rfl⟩
              rw [hx] at hc1 hc2 HS HQ
              clear hx HK
              obtain ⟨x, y⟩ := x
              simp only at hc1 hc2
              by_cases c1 : 0 ≤ x ∧ x ≤ 4
              · by_cases c2 : 0 ≤ y ∧ y ≤ 4
                · have HSS := Lib.hid (HS.out ⟨c1, c2⟩)
                  clear HS HQ
                  go_wp2_with fail
                  refine (l1In_yes _ _ _ _ c1.1 c1.2).mono ?_
                  rintro e w2 ⟨rfl, rfl⟩
                  go_wp2_with fail
                  refine (l1In_yes _ _ _ _ c2.1 c2.2).mono ?_
                  rintro e w2 ⟨rfl, rfl⟩
                  go_wp2_with fail
                  go_roundw
                  case rel => exact ⟨k + 1, by omega, by go_num, HSS.out, HF.out⟩
                  case measure => simp [intOf]; omega
                · have HQQ := Lib.hid (HQ.out fun h => c2 h.2)
                  have hc' : y < 0 ∨ 4 < y := by omega
                  clear HS HQ c2
                  go_wp2_with fail
                  refine (l1In_yes _ _ _ _ c1.1 c1.2).mono ?_
                  rintro e w2 ⟨rfl, rfl⟩
                  go_wp2_with fail
                  refine (l1In_no _ _ _ _ hc').mono ?_
                  rintro e w2 ⟨rfl, rfl⟩
                  go_wp2_with fail
                  go_ret
                  exact ⟨by rw [HQQ.out]; rfl, HF.out.b⟩
              · have HQQ := Lib.hid (HQ.out fun h => c1 h.1)
                have hc' : x < 0 ∨ 4 < x := by omega
                clear HS HQ c1
                go_wp2_with fail
                refine (l1In_no _ _ _ _ hc').mono ?_
                rintro e w2 ⟨rfl, rfl⟩
                go_wp2_with fail
                go_ret
                exact ⟨by rw [HQQ.out]; rfl, HF.out.b⟩
            · obtain rfl : k = m.length := by omega
              have HGR := Lib.hid HK.out
              clear HK
              go_wp2_with fail
              clear x0 x1 x2
              go_loopw [4] (fun i wr => ∃ k : Nat, k ≤ l.length ∧ i = .int .i64 k ∧ (∀ j, j < k → OkF l m j) ∧ FbI w wr lo hi p A ca l B cb m) (fun i _ => l.length - (intOf i).toNat)
              case atStart => exact ⟨0, by omega, rfl, fun j hj => absurd hj (by omega), HF.out⟩
              case round =>
                clear HF
                obtain ⟨k, hk, rfl, hok, hf⟩ := hrel
                have HK := Lib.hid hok
                have HF := Lib.hid hf
                clear hok hf
                by_cases hlt : k < l.length
                · have hi : (k : Int) < (l.length : Int) := by omega
                  obtain ⟨ba, oa, rfl, hba, hca⟩ := HF.out.bar hlt
                  obtain ⟨bb, ob, rfl, hbb, hcb⟩ := HF.out.place (k := 0) (by have := HM.out; omega)
                  have hend := HGG.out.2.2 k hlt
                  have HS := Lib.hid (show OkF l m k → ∀ j, j < k + 1 → OkF l m j from fun h j hj => by
                    by_cases e : j = k
                    · subst e; exact h
                    · exact HK.out j (by omega))
                  have HQ := Lib.hid (show ¬ OkF l m k → isFB p l m = false from fun h => isFB_no fun hF => h (hF.ok k hlt))
                  unfold OkF plc at HS HQ
                  have hbar := hca k hlt
                  obtain ⟨e1, e2, e3, _⟩ := hend
                  have hpl1 := hcb (l.getD k (0, 0)).1.toNat (by have := HM.out; omega)
                  have hpl2 := hcb (l.getD k (0, 0)).2.toNat (by have := HM.out; omega)
                  have hprev : 0 < k → wr.cell? ⟨ba, oa + (k - 1) * 2, none⟩ = some (.int .i64 (l.getD (k - 1) (0, 0)).1) ∧ wr.cell? ⟨ba, oa + (k - 1) * 2 + 1, none⟩ = some (.int .i64 (l.getD (k - 1) (0, 0)).2) := fun h0 => hca (k - 1) (by omega)
                  obtain ⟨x, hx⟩ : ∃ x, l.getD k (0, 0) = x := ⟨_, rfl⟩
                  obtain ⟨z, hz⟩ : ∃ z, l.getD (k - 1) (0, 0) = z := ⟨_, rfl⟩
                  rw [hx] at hbar hpl1 hpl2 e1 e2 e3
                  rw [hx, hz] at HS HQ
                  rw [hz] at hprev
                  clear hx hz hca hcb HK
                  obtain ⟨xa, xb⟩ := x
                  obtain ⟨a, rfl⟩ : ∃ a : Nat, xa = a := ⟨xa.toNat, by simp only at e1; omega⟩
                  obtain ⟨b, rfl⟩ : ∃ b : Nat, xb = b := ⟨xb.toNat, by simp only at e1 e2; omega⟩
                  simp only [Int.toNat_natCast] at e1 e2 e3 hbar hpl1 hpl2 HS HQ
                  have ha : (a : Int) < (m.length : Int) := by have := HM.out; omega
                  have hb' : (b : Int) < (m.length : Int) := by have := HM.out; omega
                  obtain ⟨P, hP⟩ : ∃ P, m.getD a (0, 0) = P := ⟨_, rfl⟩
                  obtain ⟨Q, hQ⟩ : ∃ Q, m.getD b (0, 0) = Q := ⟨_, rfl⟩
                  rw [hP] at hpl1 HS HQ
                  rw [hQ] at hpl2 HS HQ
                  clear hP hQ e1 e2 e3
                  obtain ⟨_, x0, x1, x2⟩ := HF.out.x
                  obtain ⟨hb1, hb2⟩ := hbar
                  go_wp2_with fail
                  clear x0 x1 x2 hb1 hb2
                  have hal := new_below wr (.cells #[.int .i64 (a : Int), .int .i64 (b : Int)] 108)
                  have HF2 := Lib.hid (HF.out.below hal)
                  have hy0 : (wr.alloc (.cells #[.int .i64 (a : Int), .int .i64 (b : Int)] 108)).cell? ⟨wr.heap.size, 0, none⟩ = some (.int .i64 (a : Int)) := by rw [World.cell?_alloc_at _ _ _ _ rfl]; rfl
                  have hy1 : (wr.alloc (.cells #[.int .i64 (a : Int), .int .i64 (b : Int)] 108)).cell? ⟨wr.heap.size, 1, none⟩ = some (.int .i64 (b : Int)) := by rw [World.cell?_alloc_at _ _ _ _ rfl]; rfl
                  have hp11 := (hal.cell (p := ⟨bb, ob + a * 2, none⟩) hbb).trans hpl1.1
                  have hp12 := (hal.cell (p := ⟨bb, ob + a * 2 + 1, none⟩) hbb).trans hpl1.2
                  have hp21 := (hal.cell (p := ⟨bb, ob + b * 2, none⟩) hbb).trans hpl2.1
                  have hp22 := (hal.cell (p := ⟨bb, ob + b * 2 + 1, none⟩) hbb).trans hpl2.2
                  have HPR := Lib.hid (fun h0 : 0 < k => (⟨(hal.cell (p := ⟨ba, oa + (k - 1) * 2, none⟩) hba).trans (hprev h0).1, (hal.cell (p := ⟨ba, oa + (k - 1) * 2 + 1, none⟩) hba).trans (hprev h0).2⟩ : _ ∧ _))
                  clear hprev hpl1 hpl2 hal HF
                  generalize (wr.alloc (.cells #[.int .i64 (a : Int), .int .i64 (b : Int)] 108)) = w2 at *
                  obtain ⟨_, x0, x1, x2⟩ := HF2.out.x
                  by_cases he : P = Q
                  · have hne := neB_no he
                    have HQQ := Lib.hid (HQ.out fun h => h.1 he)
                    clear HQ HS he
                    obtain ⟨P1, P2⟩ := P
                    obtain ⟨Q1, Q2⟩ := Q
                    go_quiet (fail)
                    go_wp2_with fail
                    go_ret
                    exact ⟨by rw [HQQ.out]; rfl, HF2.out.b.trans (below_drewN _ _ _)⟩
                  · have hne := neB_yes he
                    have HPQ := Lib.hid he
                    clear he
                    obtain ⟨P1, P2⟩ := P
                    obtain ⟨Q1, Q2⟩ := Q
                    by_cases c0 : k = 0
                    · have HSS := Lib.hid (HS.out ⟨HPQ.out, fun h => absurd h (by omega)⟩)
                      have d4 : decide ((0 : Int) < (k : Int)) = false := by simp; omega
                      have d4n : decide (0 < k) = false := by simp; omega
                      clear HS HQ c0
                      go_quiet (fail)
                      go_wp2_with fail
                      go_roundw
                      case rel => exact ⟨k + 1, by omega, by go_num, HSS.out, HF2.out.below (below_drewN _ _ _)⟩
                      case measure => simp [intOf]; omega
                    · have d4 : (0 : Int) < (k : Int) := by omega
                      have d4n : decide (0 < k) = true := by simp; omega
                      obtain ⟨hz1, hz2⟩ := HPR.out (by omega)
                      have htn : ((k : Int) - 1).toNat = k - 1 := by omega
                      have hwr : IntKind.i64.wrap ((k : Int) - 1) = (k : Int) - 1 := IntWalk.i64_in _ (by omega)
                      have hk1 : 0 ≤ (k : Int) - 1 := by omega
                      have hk3 : (1 : Int) ≤ (k : Int) := by omega
                      have hk4 : 1 ≤ k := by omega
                      have hk2 : (k : Int) - 1 < (l.length : Int) := by omega
                      by_cases he2 : z = ((a : Int), (b : Int))
                      · have hne2 := neB_no he2
                        have HQQ := Lib.hid (HQ.out fun h => h.2 (by omega) he2)
                        clear HQ HS he2
                        obtain ⟨z1, z2⟩ := z
                        go_quiet (fail)
                        go_wp2_with fail
                        go_ret
                        exact ⟨by rw [HQQ.out]; rfl, HF2.out.b.trans (below_drewN _ _ _)⟩
                      · have hne2 := neB_yes he2
                        have HSS := Lib.hid (HS.out ⟨HPQ.out, fun _ => he2⟩)
                        clear HQ HS he2
                        obtain ⟨z1, z2⟩ := z
                        go_quiet (fail)
                        go_wp2_with fail
                        go_roundw
                        case rel => exact ⟨k + 1, by omega, by go_num, HSS.out, HF2.out.below (below_drewN _ _ _)⟩
                        case measure => simp [intOf]; omega
                · obtain rfl : k = l.length := by omega
                  have HQ := Lib.hid (isFB_yes ⟨HGG.out, h6, HM.out, h15, HGR.out, HK.out⟩)
                  obtain ⟨_, x0, x1, x2⟩ := HF.out.x
                  go_wp2_with fail
                  go_ret
                  exact ⟨by rw [HQ.out]; rfl, HF.out.b⟩
        · have h15' : (15 : Int) < (l.length : Int) := by omega
          have HQ := Lib.hid (isFB_no (p := p) (l := l) (m := m) fun h => h15 h.bars)
          go_enter Try.func173, Try.ntmps173
          go_wp2_with fail
          generalize (w.alloc (.cells #[.int .i64 p, .slice A l.length ca, .slice B m.length cb] 97)) = w1 at *
          refine (HC.out _ HF.out.f.b.at).mono ?_
          rintro e w2 ⟨rfl, hb⟩
          have HF2 := Lib.hid (HF.out.below hb)
          obtain ⟨_, x0, x1, x2⟩ := HF2.out.x
          clear hb
          go_wp2_with fail
          go_ret
          exact ⟨by rw [HQ.out]; rfl, HF2.out.b⟩
      · have hmp : ((m.length : Int) != p) = true := by simpa using hm
        have HQ := Lib.hid (isFB_no (p := p) (l := l) (m := m) fun h => hm h.len)
        go_enter Try.func173, Try.ntmps173
        go_wp2_with fail
        generalize (w.alloc (.cells #[.int .i64 p, .slice A l.length ca, .slice B m.length cb] 97)) = w1 at *
        refine (HC.out _ HF.out.f.b.at).mono ?_
        rintro e w2 ⟨rfl, hb⟩
        have HF2 := Lib.hid (HF.out.below hb)
        obtain ⟨_, x0, x1, x2⟩ := HF2.out.x
        clear hb
        go_wp2_with fail
        go_ret
        exact ⟨by rw [HQ.out]; rfl, HF2.out.b⟩
    · have h6' : 6 < p := by omega
      have HQ := Lib.hid (isFB_no (p := p) (l := l) (m := m) fun h => h6 h.six)
      go_enter Try.func173, Try.ntmps173
      go_wp2_with fail
      generalize (w.alloc (.cells #[.int .i64 p, .slice A l.length ca, .slice B m.length cb] 97)) = w1 at *
      refine (HC.out _ HF.out.f.b.at).mono ?_
      rintro e w2 ⟨rfl, hb⟩
      have HF2 := Lib.hid (HF.out.below hb)
      obtain ⟨_, x0, x1, x2⟩ := HF2.out.x
      clear hb
      go_wp2_with fail
      go_ret
      exact ⟨by rw [HQ.out]; rfl, HF2.out.b⟩
  · have hgf : isGB p l = false := by simpa using hg
    have HC := Lib.hid fun (W : World) (h : BarsAt W W.heap.size A l) => specIsGraph' p l A ca W h (by omega)
    rw [hgf] at HC
    have HQ := Lib.hid (isFB_no (p := p) (l := l) (m := m) fun h => hg (isGB_yes h.g))
    go_enter Try.func173, Try.ntmps173
    go_wp2_with fail
    generalize (w.alloc (.cells #[.int .i64 p, .slice A l.length ca, .slice B m.length cb] 97)) = w1 at *
    refine (HC.out _ HF.out.f.b.at).mono ?_
    rintro e w2 ⟨rfl, hb⟩
    have HF2 := Lib.hid (HF.out.below hb)
    obtain ⟨_, x0, x1, x2⟩ := HF2.out.x
    clear hb
    go_wp2_with fail
    go_ret
    exact ⟨by rw [HQ.out]; rfl, HF2.out.b⟩
end Go.Proofs.Ytdkpmaahinbhlaa
/- Forms on n coordinates (trees of numbers), their products with vectors and what vectors take out of them, their lengths; and the elimination that divides by the last pivot: all its divisions are exact, and its numbers are minors, no greater than the lengths of the rows allow (Hadamard's bound). Words on numbers. No condition. -/
namespace Go.Proofs.Ytdkpmaahinbhlaa

/-- Forms on n coordinates: a tree of depth n. -/
def Form : Nat → Type
  | 0 => Int
  | n + 1 => Form n × Form n
/-- x times a form and y times another. -/
def lin (x : Int) : (n : Nat) → Form n → Int → Form n → Form n
  | 0, a, y, b => (x * (show Int from a) + y * (show Int from b) : Int)
  | n + 1, (a, b), y, (c, d) => (lin x n a y c, lin x n b y d)
def oneW : (n : Nat) → Form n
  | 0 => (1 : Int)
  | n + 1 => (oneW n, lin 0 n (oneW n) 0 (oneW n))
/-- The coefficient at a path. -/
def co : (n : Nat) → List Bool → Form n → Int
  | 0, _, a => a
  | _ + 1, [], _ => 0
  | n + 1, false :: s, (a, _) => co n s a
  | n + 1, true :: s, (_, b) => co n s b
def wed (v : Nat → Int) : (n : Nat) → Form n → Form n
  | 0, _ => (0 : Int)
  | n + 1, (a, b) => (wed v n a, lin (v n) n a (-1) (wed v n b))
def ctr (v : Nat → Int) : (n : Nat) → Form n → Form n
  | 0, _ => (0 : Int)
  | n + 1, (a, b) => (lin 1 n (ctr v n a) (v n) b, lin (-1) n (ctr v n b) 0 b)
def dotW : (n : Nat) → Form n → Form n → Int
  | 0, a, b => (show Int from a) * (show Int from b)
  | n + 1, (a, b), (c, d) => dotW n a c + dotW n b d
def nrm (n : Nat) (a : Form n) : Int := dotW n a a
def dotV (u v : Nat → Int) : Nat → Int
  | 0 => 0
  | n + 1 => dotV u v n + u n * v n
theorem sq_pos (x : Int) : 0 ≤ x * x := by
  rcases Int.le_total 0 x with h | h
  · exact Int.mul_nonneg h h
  · exact Int.mul_nonneg_of_nonpos_of_nonpos h h
theorem co_lin (x y : Int) : ∀ (n : Nat) (s : List Bool) (a b : Form n), co n s (lin x n a y b) = x * co n s a + y * co n s b := by
  intro n
  induction n with
  | zero => intro s a b; rfl
  | succ n ih =>
    intro s a b
    obtain ⟨a1, a2⟩ := a; obtain ⟨b1, b2⟩ := b
    match s with
    | [] => simp [co]
    | false :: s => exact ih s a1 b1
    | true :: s => exact ih s a2 b2
theorem co_ext : ∀ (n : Nat) (a b : Form n), (∀ s, co n s a = co n s b) → a = b := by
  intro n
  induction n with
  | zero => intro a b h; exact h []
  | succ n ih =>
    intro a b h
    obtain ⟨a1, a2⟩ := a; obtain ⟨b1, b2⟩ := b
    have h1 := ih a1 b1 fun s => h (false :: s)
    have h2 := ih a2 b2 fun s => h (true :: s)
    rw [h1, h2]
theorem lin_cancel {x : Int} (hx : x ≠ 0) {n : Nat} {a b : Form n} (h : lin x n a 0 a = lin x n b 0 b) : a = b := by
  apply co_ext
  intro s
  have := congrArg (co n s) h
  rw [co_lin, co_lin] at this
  exact Int.eq_of_mul_eq_mul_left hx (by omega)
theorem wed_lin (v : Nat → Int) (x y : Int) : ∀ (n : Nat) (a b : Form n), wed v n (lin x n a y b) = lin x n (wed v n a) y (wed v n b) := by
  intro n
  induction n with
  | zero => intro a b; show (0 : Int) = x * 0 + y * 0; omega
  | succ n ih =>
    intro a b
    obtain ⟨a1, a2⟩ := a; obtain ⟨b1, b2⟩ := b
    show (wed v n (lin x n a1 y b1), lin (v n) n (lin x n a1 y b1) (-1) (wed v n (lin x n a2 y b2))) = (lin x n (wed v n a1) y (wed v n b1), lin x n (lin (v n) n a1 (-1) (wed v n a2)) y (lin (v n) n b1 (-1) (wed v n b2)))
    rw [ih, ih]
    congr 1
    apply co_ext; intro s; simp only [co_lin]; grind
theorem ctr_lin (v : Nat → Int) (x y : Int) : ∀ (n : Nat) (a b : Form n), ctr v n (lin x n a y b) = lin x n (ctr v n a) y (ctr v n b) := by
  intro n
  induction n with
  | zero => intro a b; show (0 : Int) = x * 0 + y * 0; omega
  | succ n ih =>
    intro a b
    obtain ⟨a1, a2⟩ := a; obtain ⟨b1, b2⟩ := b
    show (lin 1 n (ctr v n (lin x n a1 y b1)) (v n) (lin x n a2 y b2), lin (-1) n (ctr v n (lin x n a2 y b2)) 0 (lin x n a2 y b2)) = (lin x n (lin 1 n (ctr v n a1) (v n) a2) y (lin 1 n (ctr v n b1) (v n) b2), lin x n (lin (-1) n (ctr v n a2) 0 a2) y (lin (-1) n (ctr v n b2) 0 b2))
    rw [ih, ih]
    congr 1
    · apply co_ext; intro s; simp only [co_lin]; grind
    · apply co_ext; intro s; simp only [co_lin]; grind
theorem wed_vec (u v : Nat → Int) (x y : Int) : ∀ (n : Nat) (a : Form n), wed (fun j => x * u j + y * v j) n a = lin x n (wed u n a) y (wed v n a) := by
  intro n
  induction n with
  | zero => intro a; show (0 : Int) = x * 0 + y * 0; omega
  | succ n ih =>
    intro a
    obtain ⟨a1, a2⟩ := a
    show (wed _ n a1, lin _ n a1 (-1) (wed _ n a2)) = (lin x n (wed u n a1) y (wed v n a1), lin x n (lin (u n) n a1 (-1) (wed u n a2)) y (lin (v n) n a1 (-1) (wed v n a2)))
    rw [ih, ih]
    congr 1
    apply co_ext; intro s; simp only [co_lin]; grind
theorem wed_congr {u v : Nat → Int} : ∀ (n : Nat) (a : Form n), (∀ j, j < n → u j = v j) → wed u n a = wed v n a := by
  intro n
  induction n with
  | zero => intro a _; rfl
  | succ n ih =>
    intro a h
    obtain ⟨a1, a2⟩ := a
    show (wed u n a1, lin (u n) n a1 (-1) (wed u n a2)) = (wed v n a1, lin (v n) n a1 (-1) (wed v n a2))
    rw [ih a1 fun j hj => h j (by omega), ih a2 fun j hj => h j (by omega), h n (by omega)]
/-- What is taken out of a product. -/
theorem ctr_wed (u v : Nat → Int) : ∀ (n : Nat) (a : Form n), ctr v n (wed u n a) = lin (dotV u v n) n a (-1) (wed u n (ctr v n a)) := by
  intro n
  induction n with
  | zero => intro a; show (0 : Int) = 0 * (show Int from a) + -1 * 0; omega
  | succ n ih =>
    intro a
    obtain ⟨a1, a2⟩ := a
    show (lin 1 n (ctr v n (wed u n a1)) (v n) (lin (u n) n a1 (-1) (wed u n a2)), lin (-1) n (ctr v n (lin (u n) n a1 (-1) (wed u n a2))) 0 (lin (u n) n a1 (-1) (wed u n a2)))
      = (lin (dotV u v n + u n * v n) n a1 (-1) (wed u n (lin 1 n (ctr v n a1) (v n) a2)), lin (dotV u v n + u n * v n) n a2 (-1) (lin (u n) n (lin 1 n (ctr v n a1) (v n) a2) (-1) (wed u n (lin (-1) n (ctr v n a2) 0 a2))))
    rw [ctr_lin, ih, ih, wed_lin, wed_lin]
    congr 1
    · apply co_ext; intro s; simp only [co_lin]; grind
    · apply co_ext; intro s; simp only [co_lin]; grind
theorem wed_wed (u v : Nat → Int) : ∀ (n : Nat) (a : Form n), wed u n (wed v n a) = lin (-1) n (wed v n (wed u n a)) 0 a := by
  intro n
  induction n with
  | zero => intro a; show (0 : Int) = -1 * 0 + 0 * (show Int from a); omega
  | succ n ih =>
    intro a
    obtain ⟨a1, a2⟩ := a
    show (wed u n (wed v n a1), lin (u n) n (wed v n a1) (-1) (wed u n (lin (v n) n a1 (-1) (wed v n a2)))) = (lin (-1) n (wed v n (wed u n a1)) 0 a1, lin (-1) n (lin (v n) n (wed u n a1) (-1) (wed v n (lin (u n) n a1 (-1) (wed u n a2)))) 0 a2)
    rw [wed_lin, wed_lin, ih a1, ih a2]
    congr 1
    apply co_ext; intro s; simp only [co_lin]; grind
theorem dotW_lin (x y : Int) : ∀ (n : Nat) (a b c : Form n), dotW n (lin x n a y b) c = x * dotW n a c + y * dotW n b c := by
  intro n
  induction n with
  | zero => intro a b c; exact Int.add_mul .. |>.trans (by rw [Int.mul_assoc, Int.mul_assoc]; rfl)
  | succ n ih =>
    intro a b c
    obtain ⟨a1, a2⟩ := a; obtain ⟨b1, b2⟩ := b; obtain ⟨c1, c2⟩ := c
    show dotW n (lin x n a1 y b1) c1 + dotW n (lin x n a2 y b2) c2 = x * (dotW n a1 c1 + dotW n a2 c2) + y * (dotW n b1 c1 + dotW n b2 c2)
    rw [ih, ih]; grind
theorem dotW_comm : ∀ (n : Nat) (a b : Form n), dotW n a b = dotW n b a := by
  intro n
  induction n with
  | zero => intro a b; exact Int.mul_comm ..
  | succ n ih =>
    intro a b
    obtain ⟨a1, a2⟩ := a; obtain ⟨b1, b2⟩ := b
    show dotW n a1 b1 + dotW n a2 b2 = dotW n b1 a1 + dotW n b2 a2
    rw [ih, ih a2]
theorem nrm_pos : ∀ (n : Nat) (a : Form n), 0 ≤ nrm n a := by
  intro n
  induction n with
  | zero => intro a; show (0 : Int) ≤ (show Int from a) * (show Int from a); exact sq_pos _
  | succ n ih => intro a; exact Int.add_nonneg (ih a.1) (ih a.2)
theorem nrm_lin (x y : Int) (n : Nat) (a b : Form n) : nrm n (lin x n a y b) = x * x * nrm n a + 2 * (x * y) * dotW n a b + y * y * nrm n b := by
  unfold nrm
  rw [dotW_lin, dotW_comm n a, dotW_comm n b, dotW_lin, dotW_lin, dotW_comm n b a]; grind
theorem adj (v : Nat → Int) : ∀ (n : Nat) (a b : Form n), dotW n (wed v n b) a = dotW n b (ctr v n a) := by
  intro n
  induction n with
  | zero => intro a b; show (0 : Int) * (show Int from a) = (show Int from b) * 0; omega
  | succ n ih =>
    intro a b
    obtain ⟨a1, a2⟩ := a; obtain ⟨b1, b2⟩ := b
    show dotW n (wed v n b1) a1 + dotW n (lin (v n) n b1 (-1) (wed v n b2)) a2 = dotW n b1 (lin 1 n (ctr v n a1) (v n) a2) + dotW n b2 (lin (-1) n (ctr v n a2) 0 a2)
    rw [dotW_lin, dotW_comm n b1 (lin _ _ _ _ _), dotW_comm n b2 (lin _ _ _ _ _), dotW_lin, dotW_lin, ih, ih, dotW_comm n b1 a2, dotW_comm n b2 (ctr v n a2), dotW_comm n b1 (ctr v n a1)]
    grind
/-- How long a product and what is taken out are, together. -/
theorem nrm_both (v : Nat → Int) : ∀ (n : Nat) (a : Form n), nrm n (wed v n a) + nrm n (ctr v n a) = dotV v v n * nrm n a := by
  intro n
  induction n with
  | zero => intro a; show (0 : Int) * 0 + 0 * 0 = 0 * _; omega
  | succ n ih =>
    intro a
    obtain ⟨a1, a2⟩ := a
    show (nrm n (wed v n a1) + nrm n (lin (v n) n a1 (-1) (wed v n a2))) + (nrm n (lin 1 n (ctr v n a1) (v n) a2) + nrm n (lin (-1) n (ctr v n a2) 0 a2)) = (dotV v v n + v n * v n) * (nrm n a1 + nrm n a2)
    rw [nrm_lin, nrm_lin, nrm_lin]
    have h1 := ih a1; have h2 := ih a2
    have h3 := adj v n a1 a2
    rw [dotW_comm n a1 (wed v n a2), h3, dotW_comm n a2]
    grind
theorem nrm_one : ∀ n, nrm n (oneW n) = 1 := by
  intro n
  induction n with
  | zero => rfl
  | succ n ih =>
    show nrm n (oneW n) + nrm n (lin 0 n (oneW n) 0 (oneW n)) = 1
    rw [nrm_lin, ih]; omega
theorem ctr_one (v : Nat → Int) : ∀ n, ctr v n (oneW n) = lin 0 n (oneW n) 0 (oneW n) := by
  intro n
  induction n with
  | zero => rfl
  | succ n ih =>
    show (lin 1 n (ctr v n (oneW n)) (v n) (lin 0 n (oneW n) 0 (oneW n)), lin (-1) n (ctr v n (lin 0 n (oneW n) 0 (oneW n))) 0 (lin 0 n (oneW n) 0 (oneW n))) = (lin 0 n (oneW n) 0 (oneW n), lin 0 n (lin 0 n (oneW n) 0 (oneW n)) 0 (lin 0 n (oneW n) 0 (oneW n)))
    rw [ctr_lin, ih]
    congr 1
    · apply co_ext; intro s; simp only [co_lin]; grind
    · apply co_ext; intro s; simp only [co_lin]; grind
theorem nrm_wed_le (v : Nat → Int) (n : Nat) (a : Form n) : nrm n (wed v n a) ≤ dotV v v n * nrm n a := by
  have := nrm_both v n a; have := nrm_pos n (ctr v n a); omega
theorem nrm_ctr_le (v : Nat → Int) (n : Nat) (a : Form n) : nrm n (ctr v n a) ≤ dotV v v n * nrm n a := by
  have := nrm_both v n a; have := nrm_pos n (wed v n a); omega
theorem nrm_vec (v : Nat → Int) (n : Nat) : nrm n (wed v n (oneW n)) = dotV v v n := by
  have h := nrm_both v n (oneW n)
  rw [ctr_one, nrm_lin, nrm_one] at h; omega
theorem dotV_sq (v : Nat → Int) : ∀ n j, j < n → v j * v j ≤ dotV v v n ∧ 0 ≤ dotV v v n := by
  intro n
  induction n with
  | zero => intro j hj; omega
  | succ n ih =>
    intro j hj
    have hs : 0 ≤ v n * v n := sq_pos _
    have hp : 0 ≤ dotV v v n := by
      cases n with
      | zero => exact Int.le_refl 0
      | succ n => exact (ih 0 (by omega)).2
    show v j * v j ≤ dotV v v n + v n * v n ∧ 0 ≤ dotV v v n + v n * v n
    by_cases h : j = n
    · subst h; omega
    · have := ih j (by omega); omega
def unitV (c : Nat) : Nat → Int := fun j => if j = c then 1 else 0
theorem dotV_unit (u : Nat → Int) (c : Nat) : ∀ n, dotV u (unitV c) n = if c < n then u c else 0 := by
  intro n
  induction n with
  | zero => rfl
  | succ n ih =>
    show dotV u (unitV c) n + u n * unitV c n = _
    rw [ih]; unfold unitV
    by_cases h : c = n
    · subst h; simp
    · have h' : ¬ n = c := fun e => h e.symm
      rw [if_neg h', Int.mul_zero, Int.add_zero]
      by_cases h2 : c < n
      · rw [if_pos h2, if_pos (by omega)]
      · rw [if_neg h2, if_neg (by omega)]
/-- A form that is a multiple of a number, divided. -/
theorem div_one {D y : Int} (hD : D ≠ 0) : ∀ (n : Nat) (a : Form n), lin D n a 0 a = lin y n (oneW n) 0 (oneW n) → ∃ t, a = lin t n (oneW n) 0 (oneW n) ∧ D * t = y := by
  intro n
  induction n with
  | zero =>
    intro a h
    have key : ∀ b : Int, D * b + 0 * b = y * 1 + 0 * 1 → b = b * 1 + 0 * 1 ∧ D * b = y := fun b h => by omega
    exact ⟨a, (key a h).1, (key a h).2⟩
  | succ n ih =>
    intro a h
    obtain ⟨a1, a2⟩ := a
    have h1 : lin D n a1 0 a1 = lin y n (oneW n) 0 (oneW n) := congrArg Prod.fst h
    have h2 : lin D n a2 0 a2 = lin y n (lin 0 n (oneW n) 0 (oneW n)) 0 (lin 0 n (oneW n) 0 (oneW n)) := congrArg Prod.snd h
    obtain ⟨t, rfl, ht⟩ := ih a1 h1
    refine ⟨t, ?_, ht⟩
    have : a2 = lin 0 n (oneW n) 0 (oneW n) := by
      apply lin_cancel hD
      rw [h2]
      apply co_ext; intro s; simp only [co_lin]; omega
    show (_, a2) = (_, lin t n (lin 0 n (oneW n) 0 (oneW n)) 0 (lin 0 n (oneW n) 0 (oneW n)))
    rw [this]
    congr 1
    apply co_ext; intro s; simp only [co_lin]; grind
/-- A form that is a multiple of a vector, divided. -/
theorem div_vec {D : Int} (hD : D ≠ 0) (y : Nat → Int) : ∀ (n : Nat) (a : Form n), lin D n a 0 a = wed y n (oneW n) → ∃ x : Nat → Int, a = wed x n (oneW n) ∧ ∀ j, j < n → D * x j = y j := by
  intro n
  induction n with
  | zero =>
    intro a h
    have h' : D * (show Int from a) + 0 * (show Int from a) = 0 := h
    have ha : (show Int from a) = 0 := by
      have : D * (show Int from a) = 0 := by omega
      exact (Int.mul_eq_zero.1 this).resolve_left hD
    exact ⟨fun _ => 0, ha, fun j hj => by omega⟩
  | succ n ih =>
    intro a h
    obtain ⟨a1, a2⟩ := a
    have h1 : lin D n a1 0 a1 = wed y n (oneW n) := congrArg Prod.fst h
    have h2 : lin D n a2 0 a2 = lin (y n) n (oneW n) (-1) (wed y n (lin 0 n (oneW n) 0 (oneW n))) := congrArg Prod.snd h
    obtain ⟨x, rfl, hx⟩ := ih a1 h1
    obtain ⟨t, rfl, ht⟩ := div_one (y := y n) hD n a2 (by
      rw [h2, wed_lin]
      apply co_ext; intro s; simp only [co_lin]; grind)
    refine ⟨fun j => if j = n then t else x j, ?_, fun j hj => ?_⟩
    · show (_, _) = (wed _ n (oneW n), lin _ n (oneW n) (-1) (wed _ n (lin 0 n (oneW n) 0 (oneW n))))
      rw [wed_congr (u := fun j => if j = n then t else x j) (v := x) n (oneW n) (fun j hj => if_neg (by omega)), wed_lin]
      congr 1
      apply co_ext; intro s; simp only [co_lin, if_pos]; grind
    · by_cases e : j = n
      · subst e; simp only [if_pos]; exact ht
      · simp only [if_neg e]; exact hx j (by omega)
/-- What stands while rows are reduced: n columns, m rows, k of them with a pivot; R the numbers, D the last pivot. -/
structure BarS (n m k : Nat) (R : Nat → Nat → Int) (D : Int) : Prop where
  nz : D ≠ 0
  le : k ≤ m
  ops : ∃ (T : Form n → Form n) (S : Nat → Form n → Form n) (a : Nat → Nat → Int),
    (∀ x p y q, T (lin x n p y q) = lin x n (T p) y (T q)) ∧
    (∀ i, i < m → ∀ x p y q, S i (lin x n p y q) = lin x n (S i p) y (S i q)) ∧
    T (oneW n) = lin D n (oneW n) 0 (oneW n) ∧
    (∀ i, i < m → S i (oneW n) = wed (R i) n (oneW n)) ∧
    (∀ i, i < m → ∀ p, lin D n (S i p) 0 p = wed (R i) n (T p)) ∧
    (∀ i, k ≤ i → i < m → ∀ p, S i p = T (wed (a i) n p)) ∧
    (∀ i, i < m → dotV (a i) (a i) n ≤ 64) ∧
    (∀ p, nrm n (T p) ≤ 64 ^ k * nrm n p) ∧
    (∀ i, i < m → ∀ p, nrm n (S i p) ≤ 64 ^ (if i < k then k else k + 1) * nrm n p)
theorem lin_zero (x y : Int) (n : Nat) (p q : Form n) (h : x = y) : lin x n p 0 q = lin y n p 0 p := by
  subst h; apply co_ext; intro s; simp only [co_lin]; omega
theorem BarS.start {n m : Nat} {A : Nat → Nat → Int} (hA : ∀ i, i < m → dotV (A i) (A i) n ≤ 64) : BarS n m 0 A 1 where
  nz := by decide
  le := Nat.zero_le _
  ops := by
    refine ⟨id, fun i p => wed (A i) n p, A, fun _ _ _ _ => rfl, fun i _ x p y q => wed_lin .., ?_, fun i _ => rfl, ?_, fun i _ _ p => rfl, hA, ?_, ?_⟩
    · apply co_ext; intro s; simp only [co_lin, id]; omega
    · intro i _ p; apply co_ext; intro s; simp only [co_lin, id]; omega
    · intro p; simp only [id, Int.pow_zero, Int.one_mul]; exact Int.le_refl _
    · intro i hi p
      simp only [Nat.not_lt_zero, if_false, Nat.zero_add, Int.pow_one] 
      exact Int.le_trans (nrm_wed_le ..) (Int.mul_le_mul_of_nonneg_right (hA i hi) (nrm_pos ..))
/-- Two rows without a pivot exchanged. -/
theorem BarS.swap {n m k : Nat} {R : Nat → Nat → Int} {D : Int} (h : BarS n m k R D) {f : Nat} (hk : k ≤ f) (hf : f < m) : BarS n m k (fun i => if i = k then R f else if i = f then R k else R i) D := by
  obtain ⟨T, S, a, h1, h2, h3, h4, h5, h6, h7, h8, h9⟩ := h.ops
  have key : ∀ i, ∃ i', (i < m → i' < m) ∧ (k ≤ i → i < m → k ≤ i') ∧ ((if i < k then k else k + 1) = (if i' < k then k else k + 1)) ∧ i' = (if i = k then f else if i = f then k else i) := by
    intro i
    refine ⟨_, ?_, ?_, ?_, rfl⟩ <;> split <;> (try split) <;> (try split) <;> (try split) <;> omega
  have e : (fun i => if i = k then R f else if i = f then R k else R i) = fun i => R (if i = k then f else if i = f then k else i) := by
    funext i; split
    · rfl
    · split <;> rfl
  rw [e]
  refine ⟨h.nz, h.le, T, fun i => S (if i = k then f else if i = f then k else i), fun i => a (if i = k then f else if i = f then k else i), h1, ?_, h3, ?_, ?_, ?_, ?_, h8, ?_⟩
  all_goals intro i
  · intro hi; obtain ⟨i', g1, g2, g3, rfl⟩ := key i; exact h2 _ (g1 hi)
  · intro hi; obtain ⟨i', g1, g2, g3, rfl⟩ := key i; exact h4 _ (g1 hi)
  · intro hi; obtain ⟨i', g1, g2, g3, rfl⟩ := key i; exact h5 _ (g1 hi)
  · intro hk hi; obtain ⟨i', g1, g2, g3, rfl⟩ := key i; exact h6 _ (g2 hk hi) (g1 hi)
  · intro hi; obtain ⟨i', g1, g2, g3, rfl⟩ := key i; exact h7 _ (g1 hi)
  · intro hi p; obtain ⟨i', g1, g2, g3, rfl⟩ := key i; rw [g3]; exact h9 _ (g1 hi) p
/-- How great the numbers are. -/
theorem BarS.small {n m k : Nat} {R : Nat → Nat → Int} {D : Int} (h : BarS n m k R D) {i j : Nat} (hi : i < m) (hj : j < n) : R i j * R i j ≤ 64 ^ (if i < k then k else k + 1) := by
  obtain ⟨T, S, a, h1, h2, h3, h4, h5, h6, h7, h8, h9⟩ := h.ops
  have := h9 i hi (oneW n)
  rw [h4 i hi, nrm_vec, nrm_one, Int.mul_one] at this
  exact Int.le_trans (dotV_sq (R i) n j hj).1 this
theorem BarS.dsmall {n m k : Nat} {R : Nat → Nat → Int} {D : Int} (h : BarS n m k R D) : D * D ≤ 64 ^ k := by
  obtain ⟨T, S, a, h1, h2, h3, h4, h5, h6, h7, h8, h9⟩ := h.ops
  have := h8 (oneW n)
  rw [h3, nrm_lin, nrm_one] at this
  omega
/-- A pivot in column c. -/
theorem BarS.step {n m k : Nat} {R : Nat → Nat → Int} {D : Int} (h : BarS n m k R D) {c : Nat} (hc : c < n) (hk : k < m) (hp : R k c ≠ 0) :
    ∃ R' : Nat → Nat → Int, (R' k = R k) ∧ (∀ i, i < m → i ≠ k → ∀ j, j < n → D * R' i j = R i j * R k c - R k j * R i c) ∧ BarS n m (k + 1) R' (R k c) := by
  obtain ⟨T, S, a, h1, h2, h3, h4, h5, h6, h7, h8, h9⟩ := h.ops
  have hD := h.nz
  -- the rows, divided
  have row : ∀ i, ∃ x : Nat → Int, i < m → i ≠ k → lin (-1) n (ctr (unitV c) n (S i (wed (a k) n (oneW n)))) 0 (oneW n) = wed x n (oneW n) ∧ ∀ j, j < n → D * x j = R k c * R i j + (- R i c) * R k j := by
    intro i
    by_cases hi : i < m ∧ i ≠ k
    · have e : lin D n (lin (-1) n (ctr (unitV c) n (S i (wed (a k) n (oneW n)))) 0 (oneW n)) 0 (lin (-1) n (ctr (unitV c) n (S i (wed (a k) n (oneW n)))) 0 (oneW n)) = wed (fun j => R k c * R i j + (- R i c) * R k j) n (oneW n) := by
        have f1 := h5 i hi.1 (wed (a k) n (oneW n))
        rw [← h6 k (Nat.le_refl _) hk, h4 k hk] at f1
        have f2 := congrArg (ctr (unitV c) n) f1
        have e1 : ctr (unitV c) n (wed (R k) n (oneW n)) = lin (R k c) n (oneW n) (-1) (wed (R k) n (lin 0 n (oneW n) 0 (oneW n))) := by
          rw [ctr_wed, ctr_one, dotV_unit, if_pos hc]
        have e2 : ctr (unitV c) n (wed (R i) n (wed (R k) n (oneW n))) = lin (R i c) n (wed (R k) n (oneW n)) (-1) (wed (R i) n (ctr (unitV c) n (wed (R k) n (oneW n)))) := by
          rw [ctr_wed, dotV_unit, if_pos hc]
        rw [ctr_lin, e2, e1] at f2
        rw [wed_vec]
        apply co_ext; intro s
        have f3 := congrArg (co n s) f2
        simp only [co_lin, wed_lin] at f3 ⊢
        clear f1 f2 e1 e2 h1 h2 h3 h4 h5 h6 h7 h8 h9
        grind
      obtain ⟨x, hx, hx2⟩ := div_vec hD _ n _ e
      exact ⟨x, fun _ _ => ⟨hx, hx2⟩⟩
    · exact ⟨fun _ => 0, fun g1 g2 => absurd ⟨g1, g2⟩ hi⟩
  obtain ⟨X, hX⟩ := Classical.axiomOfChoice row
  refine ⟨fun i => if i = k then R k else X i, if_pos rfl, ?_, hp, hk, ?_⟩
  · intro i hi hne j hj
    show D * (if i = k then R k else X i) j = _
    rw [if_neg hne]
    have := (hX i hi hne).2 j hj
    rw [this]; clear h1 h2 h3 h4 h5 h6 h7 h8 h9 hX row; grind
  have u : ∀ i, i < m → i ≠ k → ∀ p, wed (fun j => R k c * R i j + (- R i c) * R k j) n p = lin D n (wed (X i) n p) 0 p := by
    intro i hi hne p
    have : lin D n (wed (X i) n p) 0 p = wed (fun j => D * X i j + 0 * X i j) n p := by
      rw [wed_vec]; apply co_ext; intro s; simp only [co_lin]; omega
    rw [this]
    exact wed_congr n p fun j hj => by rw [(hX i hi hne).2 j hj]; omega
  refine ⟨fun p => ctr (unitV c) n (S k p), fun i p => if i = k then S k p else lin (-1) n (ctr (unitV c) n (S i (wed (a k) n p))) 0 p, a, ?_, ?_, ?_, ?_, ?_, ?_, h7, ?_, ?_⟩
  · intro x p y q; simp only [h2 k hk, ctr_lin]
  · intro i hi x p y q
    by_cases e : i = k
    · subst e; simp only [if_pos]; exact h2 i hi ..
    · simp only [if_neg e]
      rw [wed_lin, h2 i hi, ctr_lin]
      apply co_ext; intro s; simp only [co_lin]; grind
  · show ctr (unitV c) n (S k (oneW n)) = _
    rw [h4 k hk, ctr_wed, ctr_one, dotV_unit, if_pos hc, wed_lin]
    apply co_ext; intro s; simp only [co_lin]; grind
  · intro i hi
    by_cases e : i = k
    · subst e; simp only [if_pos]; exact h4 i hi
    · simp only [if_neg e]; exact (hX i hi e).1
  · intro i hi p
    by_cases e : i = k
    · subst e; simp only [if_pos]
      -- p' S = R ∧ T'
      apply lin_cancel hD
      have f1 := h5 i hi p
      have f2 := congrArg (ctr (unitV c) n) f1
      rw [ctr_lin, ctr_wed, dotV_unit, if_pos hc] at f2
      have f3 := congrArg (wed (R i) n) f2
      rw [wed_lin, wed_lin] at f3
      have f4 := wed_wed (R i) (R i) n (ctr (unitV c) n (T p))
      apply co_ext; intro s
      have g1 := congrArg (co n s) f1
      have g3 := congrArg (co n s) f3
      have g4 := congrArg (co n s) f4
      simp only [co_lin] at g1 g3 g4 ⊢
      grind
    · simp only [if_neg e]
      apply lin_cancel hD
      apply lin_cancel hD
      have f1 := h5 i hi (wed (a k) n p)
      rw [← h6 k (Nat.le_refl _) hk] at f1
      -- f1 : D S_i (a_k p) = R_i S_k p
      have f0 := h5 k hk p
      have f2 := congrArg (ctr (unitV c) n) f1
      rw [ctr_lin] at f2
      -- D² S' = - ι R_i (D S_k p) = - ι R_i R_k T p
      have f3 := congrArg (fun q => ctr (unitV c) n (wed (R i) n q)) f0
      simp only [wed_lin, ctr_lin] at f3
      -- left side
      have f4 := congrArg (fun q => wed (X i) n (ctr (unitV c) n q)) f0
      simp only [wed_lin, ctr_lin] at f4
      have f5 := u i hi e (ctr (unitV c) n (wed (R k) n (T p)))
      rw [wed_vec] at f5
      -- R k c * R_i ι R_k T - R i c R_k ι R_k T
      have f6 : ctr (unitV c) n (wed (R i) n (wed (R k) n (T p))) = lin (R i c) n (wed (R k) n (T p)) (-1) (wed (R i) n (ctr (unitV c) n (wed (R k) n (T p)))) := by
        rw [ctr_wed, dotV_unit, if_pos hc]
      have f7 : ctr (unitV c) n (wed (R k) n (T p)) = lin (R k c) n (T p) (-1) (wed (R k) n (ctr (unitV c) n (T p))) := by
        rw [ctr_wed, dotV_unit, if_pos hc]
      have f8 : wed (R k) n (ctr (unitV c) n (wed (R k) n (T p))) = lin (R k c) n (wed (R k) n (T p)) 0 p := by
        rw [f7, wed_lin]
        have f9 := wed_wed (R k) (R k) n (ctr (unitV c) n (T p))
        apply co_ext; intro s
        have g9 := congrArg (co n s) f9
        simp only [co_lin] at g9 ⊢
        grind
      apply co_ext; intro s
      have g2 := congrArg (co n s) f2
      have g3 := congrArg (co n s) f3
      have g4 := congrArg (co n s) f4
      have g5 := congrArg (co n s) f5
      have g6 := congrArg (co n s) f6
      have g8 := congrArg (co n s) f8
      simp only [co_lin] at g2 g3 g4 g5 g6 g8 ⊢
      generalize co n s (wed (X i) n (ctr (unitV c) n (wed (R k) n (T p)))) = z1 at *
      generalize co n s (wed (X i) n (ctr (unitV c) n (S k p))) = z2 at *
      generalize co n s (ctr (unitV c) n (S i (wed (a k) n p))) = z3 at *
      generalize co n s (ctr (unitV c) n (wed (R i) n (S k p))) = z4 at *
      generalize co n s (ctr (unitV c) n (wed (R i) n (wed (R k) n (T p)))) = z5 at *
      generalize co n s (wed (R i) n (ctr (unitV c) n (wed (R k) n (T p)))) = z6 at *
      generalize co n s (wed (R k) n (ctr (unitV c) n (wed (R k) n (T p)))) = z7 at *
      generalize co n s (wed (R k) n (T p)) = z8 at *
      grind
  · intro i hik hi p
    have e : i ≠ k := by omega
    simp only [if_neg e]
    rw [h6 i (by omega) hi, h6 k (Nat.le_refl _) hk, wed_wed (a k) (a i)]
    rw [h1, ctr_lin]
    apply co_ext; intro s; simp only [co_lin]; grind
  · intro p
    show nrm n (ctr (unitV c) n (S k p)) ≤ _
    have b1 := nrm_ctr_le (unitV c) n (S k p)
    rw [dotV_unit, if_pos hc] at b1
    have b2 := h9 k hk p
    rw [if_neg (by omega)] at b2
    have : unitV c c = 1 := if_pos rfl
    rw [this] at b1
    omega
  · intro i hi p
    by_cases e : i = k
    · subst e; simp only [if_pos]
      have b2 := h9 i hi p
      rw [if_neg (by omega)] at b2
      rw [if_pos (by omega)]; exact b2
    · simp only [if_neg e]
      have b0 : nrm n (lin (-1) n (ctr (unitV c) n (S i (wed (a k) n p))) 0 p) = nrm n (ctr (unitV c) n (S i (wed (a k) n p))) := by
        rw [nrm_lin]; omega
      rw [b0]
      have b1 := nrm_ctr_le (unitV c) n (S i (wed (a k) n p))
      rw [dotV_unit, if_pos hc] at b1
      have : unitV c c = 1 := if_pos rfl
      rw [this, Int.one_mul] at b1
      have b2 := h9 i hi (wed (a k) n p)
      have b3 : nrm n (wed (a k) n p) ≤ 64 * nrm n p := Int.le_trans (nrm_wed_le ..) (Int.mul_le_mul_of_nonneg_right (h7 k hk) (nrm_pos ..))
      have b4 : (64 : Int) ^ (if i < k + 1 then k + 1 else k + 1 + 1) = 64 ^ (if i < k then k else k + 1) * 64 := by
        have : (if i < k + 1 then k + 1 else k + 1 + 1) = (if i < k then k else k + 1) + 1 := by
          split <;> split <;> omega
        rw [this, Int.pow_succ]
      rw [b4, Int.mul_assoc]
      have b5 : (0 : Int) ≤ 64 ^ (if i < k then k else k + 1) := Int.pow_nonneg (by decide)
      exact Int.le_trans b1 (Int.le_trans b2 (Int.mul_le_mul_of_nonneg_left b3 b5))
end Go.Proofs.Ytdkpmaahinbhlaa
/- Rows in lowest terms: rows that are multiples of each other have the same lowest terms. Words on numbers. No condition. -/
namespace Go.Proofs.Ytdkpmaahinbhlaa

/-- The greatest common divisor of the magnitudes of a row. -/
def gcdL : List Int → Nat
  | [] => 0
  | x :: v => Nat.gcd x.natAbs (gcdL v)
/-- The first number that is not 0; 0 if there is none. -/
def firstZ : List Int → Int
  | [] => 0
  | x :: v => if x = 0 then firstZ v else x
/-- What a row is divided by. -/
def divZ (v : List Int) : Int := if firstZ v < 0 then -(gcdL v : Int) else gcdL v
/-- A row in lowest terms. -/
def primV (v : List Int) : List Int := if gcdL v = 0 then v else v.map fun x => Int.tdiv x (divZ v)
theorem gcdL_dvd : ∀ {v : List Int} {x : Int}, x ∈ v → (gcdL v : Int) ∣ x := by
  intro v
  induction v with
  | nil => intro x h; cases h
  | cons y v ih =>
    intro x h
    rw [Int.ofNat_dvd_left]
    cases h with
    | head => exact Nat.gcd_dvd_left ..
    | tail _ h => exact Nat.dvd_trans (Nat.gcd_dvd_right ..) (Int.ofNat_dvd_left.1 (ih h))
theorem divZ_dvd {v : List Int} {x : Int} (h : x ∈ v) : divZ v ∣ x := by
  unfold divZ; split
  · exact Int.neg_dvd.2 (gcdL_dvd h)
  · exact gcdL_dvd h
theorem gcdL_zero : ∀ {v : List Int}, gcdL v = 0 ↔ ∀ x ∈ v, x = 0 := by
  intro v
  induction v with
  | nil => exact ⟨fun _ x h => (by cases h), fun _ => rfl⟩
  | cons y v ih =>
    show Nat.gcd y.natAbs (gcdL v) = 0 ↔ _
    rw [Nat.gcd_eq_zero_iff, ih]
    constructor
    · intro h x hx
      cases hx with
      | head => exact Int.natAbs_eq_zero.1 h.1
      | tail _ hx => exact h.2 x hx
    · intro h
      exact ⟨Int.natAbs_eq_zero.2 (h y (List.mem_cons_self ..)), fun x hx => h x (List.mem_cons_of_mem _ hx)⟩
theorem firstZ_zero : ∀ {v : List Int}, firstZ v = 0 ↔ ∀ x ∈ v, x = 0 := by
  intro v
  induction v with
  | nil => exact ⟨fun _ x h => (by cases h), fun _ => rfl⟩
  | cons y v ih =>
    show (if y = 0 then firstZ v else y) = 0 ↔ _
    by_cases e : y = 0
    · rw [if_pos e, ih]
      exact ⟨fun h x hx => by cases hx with
        | head => exact e
        | tail _ hx => exact h x hx, fun h x hx => h x (List.mem_cons_of_mem _ hx)⟩
    · rw [if_neg e]
      exact ⟨fun h => absurd h e, fun h => absurd (h y (List.mem_cons_self ..)) e⟩
theorem gcdL_mul (s : Int) : ∀ (v : List Int), gcdL (v.map (s * ·)) = s.natAbs * gcdL v := by
  intro v
  induction v with
  | nil => rfl
  | cons y v ih =>
    show Nat.gcd (s * y).natAbs (gcdL (v.map (s * ·))) = _
    rw [ih, Int.natAbs_mul, Nat.gcd_mul_left]; rfl
theorem firstZ_mul {s : Int} (hs : s ≠ 0) : ∀ (v : List Int), firstZ (v.map (s * ·)) = s * firstZ v := by
  intro v
  induction v with
  | nil => exact (Int.mul_zero s).symm
  | cons y v ih =>
    show (if s * y = 0 then firstZ (v.map (s * ·)) else s * y) = s * (if y = 0 then firstZ v else y)
    by_cases e : y = 0
    · rw [if_pos (by rw [e, Int.mul_zero]), if_pos e, ih]
    · rw [if_neg (by intro h; exact e ((Int.mul_eq_zero.1 h).resolve_left hs)), if_neg e]
theorem divZ_mul {s : Int} (hs : s ≠ 0) (v : List Int) (hg : gcdL v ≠ 0) : divZ (v.map (s * ·)) = s * divZ v := by
  unfold divZ
  rw [gcdL_mul, firstZ_mul hs]
  have hf : firstZ v ≠ 0 := fun h => hg (gcdL_zero.2 (firstZ_zero.1 h))
  rcases Int.lt_or_gt_of_ne hs with h | h
  · have e : ((s.natAbs * gcdL v : Nat) : Int) = -(s * gcdL v) := by
      rw [Int.natCast_mul]
      have : (s.natAbs : Int) = -s := by omega
      rw [this, Int.neg_mul]
    rw [e]
    rcases Int.lt_or_gt_of_ne hf with h2 | h2
    · have : 0 < s * firstZ v := Int.mul_pos_of_neg_of_neg h h2
      rw [if_neg (by omega), if_pos h2, Int.mul_neg]
    · have : s * firstZ v < 0 := Int.mul_neg_of_neg_of_pos h h2
      rw [if_pos this, if_neg (by omega), Int.neg_neg]
  · have e : ((s.natAbs * gcdL v : Nat) : Int) = s * gcdL v := by
      rw [Int.natCast_mul]
      have : (s.natAbs : Int) = s := by omega
      rw [this]
    rw [e]
    rcases Int.lt_or_gt_of_ne hf with h2 | h2
    · have : s * firstZ v < 0 := Int.mul_neg_of_pos_of_neg h h2
      rw [if_pos this, if_pos h2, Int.mul_neg]
    · have : 0 < s * firstZ v := Int.mul_pos h h2
      rw [if_neg (by omega), if_neg (by omega)]
theorem divZ_nz {v : List Int} (hg : gcdL v ≠ 0) : divZ v ≠ 0 := by
  unfold divZ; split <;> omega
theorem primV_mul {s : Int} (hs : s ≠ 0) (v : List Int) : primV (v.map (s * ·)) = primV v := by
  unfold primV
  by_cases hg : gcdL v = 0
  · have h0 : gcdL (v.map (s * ·)) = 0 := by rw [gcdL_mul, hg, Nat.mul_zero]
    rw [if_pos hg, if_pos h0]
    have := gcdL_zero.1 hg
    apply List.ext_getElem (by simp)
    intro i h1 h2
    rw [List.getElem_map, this _ (List.getElem_mem h2), Int.mul_zero]
  · have h0 : gcdL (v.map (s * ·)) ≠ 0 := by
      rw [gcdL_mul]; exact Nat.mul_ne_zero (by omega) hg
    rw [if_neg hg, if_neg h0, List.map_map, divZ_mul hs v hg]
    apply List.map_congr_left
    intro x hx
    obtain ⟨q, hq⟩ := divZ_dvd hx
    have hd := divZ_nz hg
    show Int.tdiv (s * x) (s * divZ v) = Int.tdiv x (divZ v)
    rw [hq, ← Int.mul_assoc, Int.mul_tdiv_cancel_left _ (Int.mul_ne_zero hs hd), Int.mul_tdiv_cancel_left _ hd]
theorem primV_len (v : List Int) : (primV v).length = v.length := by
  unfold primV; split
  · rfl
  · exact List.length_map ..
/-- A row is a multiple of its lowest terms. -/
theorem primV_eq (v : List Int) : ∃ s : Int, s ≠ 0 ∧ v = (primV v).map (s * ·) := by
  unfold primV
  by_cases hg : gcdL v = 0
  · refine ⟨1, by decide, ?_⟩
    rw [if_pos hg]
    exact (List.map_id'' (fun x => Int.one_mul x) v).symm
  · refine ⟨divZ v, divZ_nz hg, ?_⟩
    rw [if_neg hg, List.map_map]
    have e : v.map (fun x => x) = v.map (fun x => divZ v * Int.tdiv x (divZ v)) := by
      apply List.map_congr_left
      intro x hx
      obtain ⟨q, hq⟩ := divZ_dvd hx
      show x = divZ v * Int.tdiv x (divZ v)
      rw [hq, Int.mul_tdiv_cancel_left _ (divZ_nz hg)]
    rw [List.map_id'] at e
    exact e
theorem primV_prim (v : List Int) : primV (primV v) = primV v := by
  obtain ⟨s, hs, e⟩ := primV_eq v
  have := primV_mul hs (primV v)
  rw [← e] at this; exact this.symm
/-- Rows that are multiples of each other have the same lowest terms. -/
theorem primV_prop {a b : Int} (ha : a ≠ 0) (hb : b ≠ 0) {v w : List Int} (h : v.map (a * ·) = w.map (b * ·)) : primV v = primV w := by
  rw [← primV_mul ha v, h, primV_mul hb]
theorem gcdL_snoc (x : Int) : ∀ (v : List Int), gcdL (v ++ [x]) = Nat.gcd (gcdL v) x.natAbs := by
  intro v
  induction v with
  | nil => show Nat.gcd x.natAbs 0 = Nat.gcd 0 x.natAbs; rw [Nat.gcd_zero_right, Nat.gcd_zero_left]
  | cons y v ih =>
    show Nat.gcd y.natAbs (gcdL (v ++ [x])) = Nat.gcd (Nat.gcd y.natAbs (gcdL v)) x.natAbs
    rw [ih, Nat.gcd_assoc]
theorem firstZ_snoc (x : Int) : ∀ (v : List Int), firstZ (v ++ [x]) = if firstZ v = 0 then x else firstZ v := by
  intro v
  induction v with
  | nil => show (if x = 0 then 0 else x) = if (0 : Int) = 0 then x else 0; rw [if_pos rfl]; split <;> omega
  | cons y v ih =>
    show (if y = 0 then firstZ (v ++ [x]) else y) = if (if y = 0 then firstZ v else y) = 0 then x else (if y = 0 then firstZ v else y)
    by_cases e : y = 0
    · rw [if_pos e, if_pos e, ih]
    · rw [if_neg e, if_neg e, if_neg e]
/-- One round of the division algorithm. -/
theorem gcd_step (a b : Int) : Nat.gcd b.natAbs (Int.tmod a b).natAbs = Nat.gcd a.natAbs b.natAbs := by
  rw [Int.natAbs_tmod, Nat.gcd_comm a.natAbs, Nat.gcd_rec b.natAbs a.natAbs, Nat.gcd_comm]
end Go.Proofs.Ytdkpmaahinbhlaa
/- The reduction of rows column by column, as the program runs it, with the rows in lowest terms that the specification keeps. Words on numbers. No condition. -/
namespace Go.Proofs.Ytdkpmaahinbhlaa

theorem BarS.congr {n m k : Nat} {R R' : Nat → Nat → Int} {D : Int} (h : BarS n m k R D) (e : ∀ i, i < m → ∀ j, j < n → R i j = R' i j) : BarS n m k R' D := by
  obtain ⟨T, S, a, h1, h2, h3, h4, h5, h6, h7, h8, h9⟩ := h.ops
  refine ⟨h.nz, h.le, T, S, a, h1, h2, h3, fun i hi => ?_, fun i hi p => ?_, h6, h7, h8, h9⟩
  · rw [h4 i hi]; exact wed_congr n _ (e i hi)
  · rw [h5 i hi]; exact wed_congr n _ (e i hi)
theorem abs_of_sq {x b : Int} (hb : 0 ≤ b) (h : x * x ≤ b * b) : -b ≤ x ∧ x ≤ b := by
  constructor
  · apply Int.not_lt.1; intro hx
    have h1 : b < -x := by omega
    have h2 : b * b < (-x) * (-x) := Int.lt_of_le_of_lt (Int.mul_le_mul_of_nonneg_left (by omega) hb) (Int.mul_lt_mul_of_pos_right h1 (by omega))
    rw [Int.neg_mul_neg] at h2; omega
  · apply Int.not_lt.1; intro hx
    have h2 : b * b < x * x := Int.lt_of_le_of_lt (Int.mul_le_mul_of_nonneg_left (by omega) hb) (Int.mul_lt_mul_of_pos_right hx (by omega))
    omega
theorem pow64_le {k : Nat} (h : k ≤ 9) : (64 : Int) ^ k ≤ 134217728 * 134217728 := by
  have : k = 0 ∨ k = 1 ∨ k = 2 ∨ k = 3 ∨ k = 4 ∨ k = 5 ∨ k = 6 ∨ k = 7 ∨ k = 8 ∨ k = 9 := by omega
  rcases this with rfl | rfl | rfl | rfl | rfl | rfl | rfl | rfl | rfl | rfl <;> decide
theorem BarS.lim {n m k : Nat} {R : Nat → Nat → Int} {D : Int} (h : BarS n m k R D) (hm : m ≤ 9) {i j : Nat} (hi : i < m) (hj : j < n) : -134217728 ≤ R i j ∧ R i j ≤ 134217728 := by
  apply abs_of_sq (by decide)
  refine Int.le_trans (h.small hi hj) (pow64_le ?_)
  have := h.le
  split <;> omega
theorem BarS.dlim {n m k : Nat} {R : Nat → Nat → Int} {D : Int} (h : BarS n m k R D) (hm : m ≤ 9) : -134217728 ≤ D ∧ D ≤ 134217728 := by
  apply abs_of_sq (by decide)
  exact Int.le_trans h.dsmall (pow64_le (Nat.le_trans h.le hm))
/-- The first of t numbers from k on for which p holds; k + t if none. -/
def fstI (p : Nat → Bool) : Nat → Nat → Nat
  | 0, k => k
  | t + 1, k => if p k then k else fstI p t (k + 1)
theorem fstI_spec (p : Nat → Bool) : ∀ t k, k ≤ fstI p t k ∧ fstI p t k ≤ k + t ∧ (fstI p t k < k + t → p (fstI p t k) = true) ∧ (∀ i, k ≤ i → i < fstI p t k → p i = false) := by
  intro t
  induction t with
  | zero => intro k; exact ⟨Nat.le_refl _, Nat.le_refl _, fun h => absurd h (Nat.lt_irrefl _), fun i h1 h2 => absurd h2 (Nat.not_lt.2 h1)⟩
  | succ t ih =>
    intro k
    unfold fstI
    by_cases h : p k
    · rw [if_pos h]
      exact ⟨Nat.le_refl _, by omega, fun _ => h, fun i h1 h2 => absurd h2 (Nat.not_lt.2 h1)⟩
    · rw [if_neg h]
      obtain ⟨h1, h2, h3, h4⟩ := ih (k + 1)
      refine ⟨by omega, by omega, fun hh => h3 (by omega), fun i hi hi2 => ?_⟩
      by_cases e : i = k
      · subst e; exact Bool.eq_false_iff.2 h
      · exact h4 i (by omega) hi2
theorem fstI_uniq {p : Nat → Bool} {t k f : Nat} (h1 : k ≤ f) (h2 : f ≤ k + t) (h3 : f < k + t → p f = true) (h4 : ∀ i, k ≤ i → i < f → p i = false) : fstI p t k = f := by
  obtain ⟨g1, g2, g3, g4⟩ := fstI_spec p t k
  rcases Nat.lt_trichotomy (fstI p t k) f with h | h | h
  · have := h4 _ g1 h; rw [g3 (by omega)] at this; cases this
  · exact h
  · have := g4 _ h1 h; rw [h3 (by omega)] at this; cases this
/-- Two rows exchanged. -/
def barSwap (R : Nat → Nat → Int) (k f : Nat) : Nat → Nat → Int := fun i => if i = k then R f else if i = f then R k else R i
/-- All rows but the pivot's own are cleared in column c. -/
def barStep (R : Nat → Nat → Int) (k : Nat) (D : Int) (c : Nat) : Nat → Nat → Int := fun i j => if i = k then R k j else Int.tdiv (R i j * R k c - R k j * R i c) D
/-- Reduced rows: the numbers, the last pivot, the columns with pivots. -/
structure Red where
  R : Nat → Nat → Int
  D : Int
  pv : List Nat
def Red.first (m : Nat) (s : Red) (c : Nat) : Nat := fstI (fun i => s.R i c != 0) (m - s.pv.length) s.pv.length
def Red.take (m : Nat) (s : Red) (c : Nat) : Red :=
  if s.first m c < m then ⟨barStep (barSwap s.R s.pv.length (s.first m c)) s.pv.length s.D c, s.R (s.first m c) c, s.pv ++ [c]⟩ else s
def Red.run (m : Nat) (A : Nat → Nat → Int) : Nat → Red
  | 0 => ⟨A, 1, []⟩
  | c + 1 => (Red.run m A c).take m c
/-- What stands while columns are taken. -/
structure RedS (n m : Nat) (s : Red) (c : Nat) : Prop where
  bar : BarS n m s.pv.length s.R s.D
  asc : ∀ x ∈ s.pv, x < c
  own : ∀ t (h : t < s.pv.length), s.R t (s.pv[t]'h) = s.D
  zer : ∀ t (h : t < s.pv.length), ∀ i, i < m → i ≠ t → s.R i (s.pv[t]'h) = 0
theorem RedS.take {n m c : Nat} {s : Red} (h : RedS n m s c) (hc : c < n) : RedS n m (s.take m c) (c + 1) := by
  unfold Red.take
  by_cases hf : s.first m c < m
  · rw [if_pos hf]
    obtain ⟨g1, g2, g3, g4⟩ := fstI_spec (fun i => s.R i c != 0) (m - s.pv.length) s.pv.length
    have hle := h.bar.le
    have hnz : s.R (s.first m c) c ≠ 0 := by
      have := g3 (by show s.first m c < _; omega)
      exact fun e => by rw [show fstI _ _ _ = s.first m c from rfl] at this; simp [e] at this
    have hkf : s.pv.length ≤ s.first m c := g1
    generalize s.first m c = f at *
    have b1 := h.bar.swap hkf hf
    have b1' : BarS n m s.pv.length (barSwap s.R s.pv.length f) s.D := b1
    have hk : barSwap s.R s.pv.length f s.pv.length = s.R f := if_pos rfl
    obtain ⟨R', e1, e2, b2⟩ := b1'.step (c := c) hc (by omega) (by rw [hk]; exact hnz)
    have eq : ∀ i, i < m → ∀ j, j < n → R' i j = barStep (barSwap s.R s.pv.length f) s.pv.length s.D c i j := by
      intro i hi j hj
      unfold barStep
      by_cases e : i = s.pv.length
      · rw [if_pos e, e, e1]
      · rw [if_neg e, ← e2 i hi e j hj, Int.mul_tdiv_cancel_left _ h.bar.nz]
    refine ⟨?_, ?_, ?_, ?_⟩
    · rw [hk] at b2
      show BarS n m (s.pv ++ [c]).length _ _
      rw [List.length_append]
      exact b2.congr eq
    · intro x hx
      rcases List.mem_append.1 hx with hx | hx
      · have := h.asc x hx; omega
      · rw [List.mem_singleton.1 hx]; omega
    · intro t ht
      show barStep _ _ _ _ t ((s.pv ++ [c])[t]'ht) = s.R f c
      have ht' : t < s.pv.length + 1 := by simpa using ht
      by_cases e : t = s.pv.length
      · subst e
        rw [List.getElem_append_right (Nat.le_refl _)]
        simp only [Nat.sub_self, List.getElem_cons_zero]
        unfold barStep; rw [if_pos rfl, hk]
      · have htl : t < s.pv.length := by omega
        rw [List.getElem_append_left htl]
        unfold barStep; rw [if_neg e, hk]
        have z1 : barSwap s.R s.pv.length f t = s.R t := by unfold barSwap; rw [if_neg e, if_neg (by omega)]
        rw [z1, h.own t htl, h.zer t htl f hf (by omega), Int.zero_mul, Int.sub_zero, Int.mul_tdiv_cancel_left _ h.bar.nz]
    · intro t ht i hi hne
      show barStep _ _ _ _ i ((s.pv ++ [c])[t]'ht) = 0
      have ht' : t < s.pv.length + 1 := by simpa using ht
      by_cases e : t = s.pv.length
      · subst e
        rw [List.getElem_append_right (Nat.le_refl _)]
        simp only [Nat.sub_self, List.getElem_cons_zero]
        unfold barStep; rw [if_neg hne, Int.mul_comm, Int.sub_self, Int.zero_tdiv]
      · have htl : t < s.pv.length := by omega
        rw [List.getElem_append_left htl]
        have z2 : ∀ i', i' < m → i' ≠ t → s.R i' (s.pv[t]) = 0 := h.zer t htl
        unfold barStep
        by_cases e3 : i = s.pv.length
        · rw [if_pos e3, hk]; exact z2 f hf (by omega)
        · rw [if_neg e3, hk, z2 f hf (by omega)]
          have : barSwap s.R s.pv.length f i (s.pv[t]) = 0 := by
            unfold barSwap; rw [if_neg e3]; split
            · exact z2 _ (by omega) (by omega)
            · exact z2 _ hi hne
          rw [this, Int.zero_mul, Int.zero_mul, Int.sub_self, Int.zero_tdiv]
  · rw [if_neg hf]
    exact ⟨h.bar, fun x hx => by have := h.asc x hx; omega, h.own, h.zer⟩
theorem RedS.run {n m : Nat} {A : Nat → Nat → Int} (hA : ∀ i, i < m → dotV (A i) (A i) n ≤ 64) : ∀ c, c ≤ n → RedS n m (Red.run m A c) c := by
  intro c
  induction c with
  | zero => intro _; exact ⟨BarS.start hA, fun x hx => (by cases hx), fun t h => absurd h (Nat.not_lt_zero _), fun t h => absurd h (Nat.not_lt_zero _)⟩
  | succ c ih => intro hc; exact (ih (by omega)).take (by omega)
/-- All numbers are of at most 2 to the power of 27. -/
structure LimS (n m : Nat) (s : Red) : Prop where
  lim : ∀ {i j : Nat}, i < m → j < n → -134217728 ≤ s.R i j ∧ s.R i j ≤ 134217728
  dlim : -134217728 ≤ s.D ∧ s.D ≤ 134217728
theorem RedS.limS {n m c : Nat} {s : Red} (h : RedS n m s c) (hm : m ≤ 9) : LimS n m s := ⟨fun hi hj => h.bar.lim hm hi hj, h.bar.dlim hm⟩
theorem LimS.swap {n m : Nat} {s : Red} (h : LimS n m s) {a b : Nat} (ha : a < m) (hb : b < m) {i j : Nat} (hi : i < m) (hj : j < n) : -134217728 ≤ barSwap s.R a b i j ∧ barSwap s.R a b i j ≤ 134217728 := by
  unfold barSwap
  split
  · exact h.lim hb hj
  · split
    · exact h.lim ha hj
    · exact h.lim hi hj
/-- The division is exact. -/
theorem RedS.exact {n m c : Nat} {s : Red} (h : RedS n m s c) (hc : c < n) (hf : s.first m c < m) {i j : Nat} (hi : i < m) (hne : i ≠ s.pv.length) (hj : j < n) :
    s.D * (s.take m c).R i j = barSwap s.R s.pv.length (s.first m c) i j * s.R (s.first m c) c - s.R (s.first m c) j * barSwap s.R s.pv.length (s.first m c) i c := by
  have hle := h.bar.le
  obtain ⟨g1, g2, g3, g4⟩ := fstI_spec (fun i => s.R i c != 0) (m - s.pv.length) s.pv.length
  have hnz : s.R (s.first m c) c ≠ 0 := by
    have := g3 (by show s.first m c < _; omega)
    exact fun e => by rw [show fstI _ _ _ = s.first m c from rfl] at this; simp [e] at this
  have hkf : s.pv.length ≤ s.first m c := g1
  unfold Red.take
  rw [if_pos hf]
  generalize s.first m c = f at *
  have b1 : BarS n m s.pv.length (barSwap s.R s.pv.length f) s.D := h.bar.swap hkf hf
  have hk : barSwap s.R s.pv.length f s.pv.length = s.R f := if_pos rfl
  obtain ⟨R', e1, e2, b2⟩ := b1.step (c := c) hc (by omega) (by rw [hk]; exact hnz)
  have := e2 i hi hne j hj
  rw [hk] at this
  show s.D * barStep _ _ _ _ i j = _
  unfold barStep
  rw [if_neg hne, hk, ← this, Int.mul_tdiv_cancel_left _ h.bar.nz]
def rowF (n : Nat) (f : Nat → Int) : List Int := (List.range n).map f
theorem rowF_len (n : Nat) (f : Nat → Int) : (rowF n f).length = n := by unfold rowF; rw [List.length_map, List.length_range]
theorem rowF_get {n j : Nat} {f : Nat → Int} (h : j < (rowF n f).length) : (rowF n f)[j] = f j := by
  simp only [rowF, List.getElem_map, List.getElem_range]
theorem rowF_getD {n j : Nat} {f : Nat → Int} (h : j < n) : (rowF n f).getD j 0 = f j := by
  rw [List.getD_eq_getElem?_getD, List.getElem?_eq_getElem (by rw [rowF_len]; exact h), Option.getD_some, rowF_get]
theorem rowF_congr {n : Nat} {f g : Nat → Int} (h : ∀ j, j < n → f j = g j) : rowF n f = rowF n g := by
  unfold rowF
  exact List.map_congr_left fun j hj => h j (List.mem_range.1 hj)
theorem rowF_of (v : List Int) : rowF v.length (fun j => v.getD j 0) = v := by
  apply List.ext_getElem (rowF_len ..)
  intro i h1 h2
  rw [rowF_get h1, List.getD_eq_getElem?_getD, List.getElem?_eq_getElem h2, Option.getD_some]
/-- A row without a column, as the specification writes it. -/
def wOut (P Q : List Int) (c n : Nat) : List Int :=
  rowF n fun j => P.getD j 0 * Int.tdiv (Q.getD c 0) (Int.gcd (P.getD c 0) (Q.getD c 0)) - Q.getD j 0 * Int.tdiv (P.getD c 0) (Int.gcd (P.getD c 0) (Q.getD c 0))
theorem prim_prop {n : Nat} {f g : Nat → Int} {a b : Int} (ha : a ≠ 0) (hb : b ≠ 0) (h : ∀ j, j < n → a * f j = b * g j) : primV (rowF n f) = primV (rowF n g) := by
  apply primV_prop ha hb
  unfold rowF
  rw [List.map_map, List.map_map]
  exact List.map_congr_left fun j hj => h j (List.mem_range.1 hj)
theorem prim_getD (n : Nat) (f : Nat → Int) : ∃ s : Int, s ≠ 0 ∧ ∀ j, j < n → f j = s * (primV (rowF n f)).getD j 0 := by
  obtain ⟨s, hs, e⟩ := primV_eq (rowF n f)
  refine ⟨s, hs, fun j hj => ?_⟩
  have hl : j < (rowF n f).length := by rw [rowF_len]; exact hj
  have hl2 : j < (primV (rowF n f)).length := by rw [primV_len]; exact hl
  have h1 : (rowF n f)[j]? = ((primV (rowF n f)).map (s * ·))[j]? := by rw [← e]
  rw [List.getElem?_map, List.getElem?_eq_getElem hl, List.getElem?_eq_getElem hl2, rowF_get] at h1
  rw [List.getD_eq_getElem?_getD, List.getElem?_eq_getElem hl2, Option.getD_some]
  exact Option.some.inj h1
/-- One row's step, as both sides take it. -/
theorem prim_step {n c : Nat} {r q r' : Nat → Int} {D : Int} (hD : D ≠ 0) (hc : c < n) (hq : q c ≠ 0) (h : ∀ j, j < n → D * r' j = r j * q c - q j * r c) :
    primV (rowF n r') = if (primV (rowF n r)).getD c 0 = 0 then primV (rowF n r) else primV (wOut (primV (rowF n r)) (primV (rowF n q)) c n) := by
  obtain ⟨s, hs, hr⟩ := prim_getD n r
  obtain ⟨t, ht, hq2⟩ := prim_getD n q
  by_cases e : (primV (rowF n r)).getD c 0 = 0
  · rw [if_pos e]
    have : r c = 0 := by rw [hr c hc, e, Int.mul_zero]
    refine prim_prop hD hq fun j hj => ?_
    rw [h j hj, this, Int.mul_zero, Int.sub_zero, Int.mul_comm]
  · rw [if_neg e]
    unfold wOut
    generalize primV (rowF n r) = P at *
    generalize primV (rowF n q) = Q at *
    have hg : ((Int.gcd (P.getD c 0) (Q.getD c 0) : Nat) : Int) ≠ 0 := by
      intro h0
      have : Int.gcd (P.getD c 0) (Q.getD c 0) = 0 := by omega
      exact e (Int.gcd_eq_zero_iff.1 this).1
    obtain ⟨x, hx⟩ := Int.gcd_dvd_right (P.getD c 0) (Q.getD c 0)
    obtain ⟨y, hy⟩ := Int.gcd_dvd_left (P.getD c 0) (Q.getD c 0)
    generalize ((Int.gcd (P.getD c 0) (Q.getD c 0) : Nat) : Int) = g at *
    refine prim_prop hD (b := s * t * g) (Int.mul_ne_zero (Int.mul_ne_zero hs ht) hg) fun j hj => ?_
    rw [h j hj, hr j hj, hq2 c hc, hq2 j hj, hr c hc, hx, hy, Int.mul_tdiv_cancel_left _ hg, Int.mul_tdiv_cancel_left _ hg]
    clear h hr hq2 hx hy e hq
    generalize P.getD j 0 = p at *
    generalize Q.getD j 0 = u at *
    grind
end Go.Proofs.Ytdkpmaahinbhlaa
/- What a matrix of the document is, and its transposed one and its products, as words on lists. No condition. -/
namespace Go.Proofs.Ytdkpmaahinbhlaa

def atM (m : List (List Int)) (i j : Nat) : Int := (m.getD i []).getD j 0
def widM (m : List (List Int)) : Nat := (m.getD 0 []).length
/-- The squares of the first numbers of a row, added. -/
def sqsP (row : List Int) : Nat → Int
  | 0 => 0
  | j + 1 => sqsP row j + row.getD j 0 * row.getD j 0
def RngP (row : List Int) (k : Nat) : Prop := ∀ j, j < k → -8 ≤ row.getD j 0 ∧ row.getD j 0 ≤ 8
/-- The first k rows are rows of a matrix. -/
def RowsP1 (m : List (List Int)) (k : Nat) : Prop := ∀ i, i < k → (m.getD i []).length = widM m ∧ RngP (m.getD i []) (widM m)
structure MatP (m : List (List Int)) : Prop where
  h0 : 0 < m.length
  h9 : m.length ≤ 9
  w1 : 1 ≤ widM m
  w12 : widM m ≤ 12
  row : RowsP1 m m.length
  sq : ∀ i, i < m.length → sqsP (m.getD i []) (widM m) ≤ 64
noncomputable def isMatB (m : List (List Int)) : Bool := @decide (MatP m) (Classical.propDecidable _)
theorem isMatB_yes {m : List (List Int)} (h : MatP m) : isMatB m = true := by unfold isMatB; exact @decide_eq_true _ (Classical.propDecidable _) h
theorem isMatB_no {m : List (List Int)} (h : ¬ MatP m) : isMatB m = false := by unfold isMatB; exact @decide_eq_false _ (Classical.propDecidable _) h
theorem isMatB_iff {m : List (List Int)} : isMatB m = true ↔ MatP m :=
  ⟨fun h => Classical.byContradiction fun g => (by rw [isMatB_no g] at h; cases h), isMatB_yes⟩
theorem sqsP_pos (row : List Int) : ∀ k, 0 ≤ sqsP row k := by
  intro k
  induction k with
  | zero => exact Int.le_refl 0
  | succ k ih =>
    have := sq_pos (row.getD k 0)
    show 0 ≤ sqsP row k + _
    omega
theorem sqsP_le (row : List Int) {j k : Nat} (h : j ≤ k) : sqsP row j ≤ sqsP row k := by
  induction k with
  | zero => obtain rfl : j = 0 := by omega
            exact Int.le_refl _
  | succ k ih =>
    by_cases e : j = k + 1
    · subst e; exact Int.le_refl _
    · have h1 := ih (by omega)
      have h2 := sq_pos (row.getD k 0)
      show _ ≤ sqsP row k + _
      omega
theorem sq_bd {x : Int} (h : -8 ≤ x ∧ x ≤ 8) : x * x ≤ 64 := by
  have : x = -8 ∨ x = -7 ∨ x = -6 ∨ x = -5 ∨ x = -4 ∨ x = -3 ∨ x = -2 ∨ x = -1 ∨ x = 0 ∨ x = 1 ∨ x = 2 ∨ x = 3 ∨ x = 4 ∨ x = 5 ∨ x = 6 ∨ x = 7 ∨ x = 8 := by omega
  rcases this with rfl | rfl | rfl | rfl | rfl | rfl | rfl | rfl | rfl | rfl | rfl | rfl | rfl | rfl | rfl | rfl | rfl <;> decide
theorem sqsP_bd {row : List Int} {k : Nat} (h : RngP row k) : ∀ j, j ≤ k → sqsP row j ≤ 64 * (j : Int) := by
  intro j
  induction j with
  | zero => intro _; exact Int.le_refl 0
  | succ j ih =>
    intro hj
    have h1 := ih (by omega)
    have h2 := sq_bd (h j (by omega))
    show sqsP row j + row.getD j 0 * row.getD j 0 ≤ _
    omega
theorem sqsP_dot (row : List Int) : ∀ k, sqsP row k = dotV (fun j => row.getD j 0) (fun j => row.getD j 0) k := by
  intro k
  induction k with
  | zero => rfl
  | succ k ih => show sqsP row k + _ = dotV _ _ k + _; rw [ih]
/-- Rows that can be reduced: no number gets great on the way. -/
structure MatQ (m : List (List Int)) : Prop where
  h0 : 0 < m.length
  h9 : m.length ≤ 24
  w1 : 1 ≤ widM m
  w12 : widM m ≤ 12
  row : RowsP1 m m.length
  both : ∀ c, c ≤ widM m → RedS (widM m) m.length (Red.run m.length (atM m) c) c ∧ LimS (widM m) m.length (Red.run m.length (atM m) c)
theorem MatQ.red {m : List (List Int)} (h : MatQ m) {c : Nat} (hc : c ≤ widM m) : RedS (widM m) m.length (Red.run m.length (atM m) c) c := (h.both c hc).1
theorem MatQ.limS {m : List (List Int)} (h : MatQ m) {c : Nat} (hc : c ≤ widM m) : LimS (widM m) m.length (Red.run m.length (atM m) c) := (h.both c hc).2
theorem MatP.red {m : List (List Int)} (h : MatP m) {c : Nat} (hc : c ≤ widM m) : RedS (widM m) m.length (Red.run m.length (atM m) c) c :=
  RedS.run (fun i hi => by have := h.sq i hi; rw [sqsP_dot] at this; exact this) c hc
theorem MatP.q {m : List (List Int)} (h : MatP m) : MatQ m := ⟨h.h0, by have := h.h9; omega, h.w1, h.w12, h.row, fun _ hc => ⟨h.red hc, (h.red hc).limS h.h9⟩⟩
/-- Rows and columns exchanged. -/
def trL (m : List (List Int)) : List (List Int) := (List.range (widM m)).map fun j => rowF m.length fun i => atM m i j
noncomputable def trV (m : List (List Int)) : List (List Int) := if isMatB m = true then trL m else []
/-- A row times a vector, as ints wrap around. -/
def dotW64 (row v : List Int) : Nat → Int
  | 0 => 0
  | j + 1 => IntKind.i64.wrap (dotW64 row v j + IntKind.i64.wrap (row.getD j 0 * v.getD j 0))
def tmL (m : List (List Int)) (v : List Int) : List Int := rowF m.length fun i => dotW64 (m.getD i []) v v.length
noncomputable def tmV (m : List (List Int)) (v : List Int) : List Int := if isMatB m = true ∧ v.length = widM m then tmL m v else []
end Go.Proofs.Ytdkpmaahinbhlaa
/- The vectors that a reduced matrix takes to zero: the program's, by the last pivot, and the specification's, by the least common multiple, are the same in lowest terms; the rows that the specification keeps are the program's in lowest terms. Words on numbers. No condition. -/
namespace Go.Proofs.Ytdkpmaahinbhlaa

/-- A number of a reduced row in lowest terms. -/
def pcell (n : Nat) (s : Red) (i j : Nat) : Int := (primV (rowF n (s.R i))).getD j 0
/-- By how much row t asks the multiple to grow. -/
def nullQ (n : Nat) (s : Red) (free t : Nat) : Nat := (pcell n s t (s.pv.getD t 0)).natAbs / Nat.gcd (pcell n s t (s.pv.getD t 0)).natAbs (pcell n s t free).natAbs
/-- The least multiple that the first t rows allow. -/
def nullD (n : Nat) (s : Red) (free : Nat) : Nat → Nat
  | 0 => 1
  | t + 1 => Nat.lcm (nullD n s free t) (nullQ n s free t)
/-- The vector of a free column, as the program writes it. -/
def nullF (s : Red) (free : Nat) (t : Nat) : Nat → Int
  | j => if j = free then s.D else match t with
    | 0 => 0
    | t + 1 => if s.pv.getD t 0 = j then -s.R t free else nullF s free t j
/-- The same as the specification writes it. -/
def nullE (n : Nat) (s : Red) (free d : Nat) (t : Nat) : Nat → Int
  | j => if j = free then d else match t with
    | 0 => 0
    | t + 1 => if s.pv.getD t 0 = j then -(Int.tdiv (pcell n s t free * d) (pcell n s t (s.pv.getD t 0))) else nullE n s free d t j
def nullV (n : Nat) (s : Red) (free : Nat) : List Int := primV (rowF n (nullF s free s.pv.length))
theorem RedS.pv_lt {n m c : Nat} {s : Red} (h : RedS n m s c) {t : Nat} (ht : t < s.pv.length) : s.pv.getD t 0 < c ∧ s.R t (s.pv.getD t 0) = s.D := by
  rw [List.getD_eq_getElem?_getD, List.getElem?_eq_getElem ht, Option.getD_some]
  exact ⟨h.asc _ (List.getElem_mem ht), h.own t ht⟩
theorem RedS.pc {n m c : Nat} {s : Red} (h : RedS n m s c) (hc : c ≤ n) {free : Nat} (hf : free < n) {t : Nat} (ht : t < s.pv.length) :
    ∃ u : Int, u ≠ 0 ∧ s.D = u * pcell n s t (s.pv.getD t 0) ∧ s.R t free = u * pcell n s t free := by
  obtain ⟨u, hu, e⟩ := prim_getD n (s.R t)
  have := h.pv_lt ht
  exact ⟨u, hu, by rw [← this.2]; exact e _ (by omega), e _ hf⟩
theorem RedS.pnz {n m c : Nat} {s : Red} (h : RedS n m s c) (hc : c ≤ n) {t : Nat} (ht : t < s.pv.length) : pcell n s t (s.pv.getD t 0) ≠ 0 := by
  have h1 := h.pv_lt ht
  obtain ⟨u, hu, e1, e2⟩ := h.pc hc (free := s.pv.getD t 0) (by omega) ht
  intro e
  rw [e, Int.mul_zero] at e1
  exact h.bar.nz e1
theorem pcell_lim {n m c : Nat} {s : Red} (_h : RedS n m s c) (hm : LimS n m s) {i j : Nat} (hi : i < m) (hj : j < n) : -134217728 ≤ pcell n s i j ∧ pcell n s i j ≤ 134217728 := by
  obtain ⟨u, hu, e⟩ := prim_getD n (s.R i)
  have h1 := hm.lim hi hj
  rw [e j hj] at h1
  show -134217728 ≤ (primV (rowF n (s.R i))).getD j 0 ∧ (primV (rowF n (s.R i))).getD j 0 ≤ 134217728
  generalize (primV (rowF n (s.R i))).getD j 0 = x at *
  have ha : (u * x).natAbs ≤ 134217728 := by omega
  rw [Int.natAbs_mul] at ha
  have hb : 1 * x.natAbs ≤ u.natAbs * x.natAbs := Nat.mul_le_mul_right _ (by omega)
  omega
theorem RedS.nullQ_dvd {n m c : Nat} {s : Red} (h : RedS n m s c) (hc : c ≤ n) {free : Nat} (hf : free < n) {t : Nat} (ht : t < s.pv.length) : nullQ n s free t ∣ s.D.natAbs ∧ 0 < nullQ n s free t := by
  obtain ⟨u, hu, e1, e2⟩ := h.pc hc hf ht
  have hz := h.pnz hc ht
  unfold nullQ
  have hp : 0 < (pcell n s t (s.pv.getD t 0)).natAbs := by omega
  refine ⟨?_, Nat.div_pos (Nat.le_of_dvd hp (Nat.gcd_dvd_left ..)) (Nat.gcd_pos_of_pos_left _ hp)⟩
  rw [e1, Int.natAbs_mul]
  exact Nat.dvd_trans (Nat.div_dvd_of_dvd (Nat.gcd_dvd_left ..)) (Nat.dvd_mul_left ..)
theorem RedS.nullD_dvd {n m c : Nat} {s : Red} (h : RedS n m s c) (hc : c ≤ n) {free : Nat} (hf : free < n) : ∀ t, t ≤ s.pv.length → nullD n s free t ∣ s.D.natAbs ∧ 0 < nullD n s free t := by
  intro t
  induction t with
  | zero => intro _; exact ⟨Nat.one_dvd _, Nat.one_pos⟩
  | succ t ih =>
    intro ht
    obtain ⟨h1, h2⟩ := ih (by omega)
    obtain ⟨h3, h4⟩ := h.nullQ_dvd hc hf (t := t) (by omega)
    exact ⟨Nat.lcm_dvd h1 h3, Nat.lcm_pos h2 h4⟩
theorem nullQ_dvd_D (n : Nat) (s : Red) (free : Nat) : ∀ t u, u < t → nullQ n s free u ∣ nullD n s free t := by
  intro t
  induction t with
  | zero => intro u hu; omega
  | succ t ih =>
    intro u hu
    show _ ∣ Nat.lcm _ _
    by_cases e : u = t
    · subst e; exact Nat.dvd_lcm_right ..
    · exact Nat.dvd_trans (ih u (by omega)) (Nat.dvd_lcm_left ..)
/-- The quotient of the specification is exact, and the same multiple. -/
theorem RedS.nullX {n m c : Nat} {s : Red} (h : RedS n m s c) (hc : c ≤ n) {free : Nat} (hf : free < n) {t : Nat} (ht : t < s.pv.length) :
    s.D * Int.tdiv (pcell n s t free * (nullD n s free s.pv.length : Nat)) (pcell n s t (s.pv.getD t 0)) = (nullD n s free s.pv.length : Nat) * s.R t free := by
  obtain ⟨u, hu, e1, e2⟩ := h.pc hc hf ht
  have hz := h.pnz hc ht
  obtain ⟨y, hy⟩ := nullQ_dvd_D n s free s.pv.length t ht
  rw [e1, e2]
  unfold nullQ at hy
  generalize nullD n s free s.pv.length = d at *
  generalize pcell n s t (s.pv.getD t 0) = p at *
  generalize pcell n s t free = x at *
  have hd : p ∣ x * (d : Int) := by
    rw [← Int.natAbs_dvd_natAbs, Int.natAbs_mul, Int.natAbs_natCast, hy]
    obtain ⟨z, hz2⟩ := Nat.gcd_dvd_right p.natAbs x.natAbs
    have hg : p.natAbs / Nat.gcd p.natAbs x.natAbs * Nat.gcd p.natAbs x.natAbs = p.natAbs := Nat.div_mul_cancel (Nat.gcd_dvd_left ..)
    refine ⟨z * y, ?_⟩
    calc x.natAbs * (p.natAbs / Nat.gcd p.natAbs x.natAbs * y) = (Nat.gcd p.natAbs x.natAbs * z) * (p.natAbs / Nat.gcd p.natAbs x.natAbs * y) := by rw [← hz2]
      _ = (p.natAbs / Nat.gcd p.natAbs x.natAbs * Nat.gcd p.natAbs x.natAbs) * (z * y) := by
        generalize p.natAbs / Nat.gcd p.natAbs x.natAbs = k1
        generalize Nat.gcd p.natAbs x.natAbs = k2
        grind
      _ = p.natAbs * (z * y) := by rw [hg]
  obtain ⟨k, hk⟩ := hd
  rw [hk, Int.mul_tdiv_cancel_left _ hz]
  have : u * p * k = u * (p * k) := Int.mul_assoc ..
  rw [this, ← hk]
  grind
theorem RedS.null_eq {n m c : Nat} {s : Red} (h : RedS n m s c) (hc : c ≤ n) {free : Nat} (hf : free < n) :
    primV (rowF n (nullE n s free (nullD n s free s.pv.length) s.pv.length)) = nullV n s free := by
  have hd := (h.nullD_dvd hc hf s.pv.length (Nat.le_refl _)).2
  refine prim_prop h.bar.nz (b := (nullD n s free s.pv.length : Nat)) (by omega) fun j _ => ?_
  have key : ∀ t, t ≤ s.pv.length → s.D * nullE n s free (nullD n s free s.pv.length) t j = (nullD n s free s.pv.length : Nat) * nullF s free t j := by
    intro t
    induction t with
    | zero =>
      intro _
      unfold nullE nullF
      by_cases e : j = free
      · rw [if_pos e, if_pos e, Int.mul_comm]
      · rw [if_neg e, if_neg e]; dsimp only; omega
    | succ t ih =>
      intro ht
      unfold nullE nullF
      by_cases e : j = free
      · rw [if_pos e, if_pos e, Int.mul_comm]
      · rw [if_neg e, if_neg e]
        dsimp only
        by_cases e2 : s.pv.getD t 0 = j
        · rw [if_pos e2, if_pos e2, Int.mul_neg, h.nullX hc hf (by omega), Int.mul_neg]
        · rw [if_neg e2, if_neg e2]; exact ih (by omega)
  exact key _ (Nat.le_refl _)
/-- One round of the least common multiple, in numbers. -/
theorem lcm_round (d q : Nat) : Int.tdiv (d : Int) (Int.gcd (d : Int) (q : Int) : Nat) * (q : Int) = (Nat.lcm d q : Nat) := by
  have : Int.gcd (d : Int) (q : Int) = Nat.gcd d q := rfl
  rw [this, ← Int.ofNat_tdiv, ← Int.natCast_mul]
  congr 1
  rw [Nat.lcm, Nat.div_mul_right_comm (Nat.gcd_dvd_left ..)]
theorem prim_zero {n c : Nat} (hc : c < n) (f : Nat → Int) : (primV (rowF n f)).getD c 0 = 0 ↔ f c = 0 := by
  obtain ⟨u, hu, e⟩ := prim_getD n f
  rw [e c hc]
  constructor
  · intro h; rw [h, Int.mul_zero]
  · intro h; exact (Int.mul_eq_zero.1 h).resolve_left hu
theorem RedS.first_nz {n m c : Nat} {s : Red} (_h : RedS n m s c) (hf : s.first m c < m) : s.R (s.first m c) c ≠ 0 ∧ s.pv.length ≤ s.first m c ∧ s.pv.length < m := by
  obtain ⟨g1, g2, g3, g4⟩ := fstI_spec (fun i => s.R i c != 0) (m - s.pv.length) s.pv.length
  have g1' : s.pv.length ≤ s.first m c := g1
  have := g3 (by show s.first m c < _; omega)
  rw [show fstI _ _ _ = s.first m c from rfl] at this
  exact ⟨fun e => by simp [e] at this, g1', by omega⟩
/-- The rows of the specification behind a column, in lowest terms. -/
theorem RedS.spec_row {n m c : Nat} {s : Red} (h : RedS n m s c) (hc : c < n) (hf : s.first m c < m) {i : Nat} (hi : i < m) :
    primV (rowF n ((s.take m c).R i)) = if i = s.pv.length then primV (rowF n (s.R (s.first m c)))
      else if (primV (rowF n (barSwap s.R s.pv.length (s.first m c) i))).getD c 0 = 0 then primV (rowF n (barSwap s.R s.pv.length (s.first m c) i))
      else primV (wOut (primV (rowF n (barSwap s.R s.pv.length (s.first m c) i))) (primV (rowF n (s.R (s.first m c)))) c n) := by
  by_cases e : i = s.pv.length
  · rw [if_pos e]
    congr 1
    apply rowF_congr
    intro j _
    unfold Red.take
    rw [if_pos hf]
    show barStep _ _ _ _ i j = _
    unfold barStep barSwap
    rw [if_pos e, if_pos rfl]
  · rw [if_neg e]
    exact prim_step h.bar.nz hc (h.first_nz hf).1 fun j hj => h.exact hc hf hi e hj
theorem Red.take_pv {m c : Nat} {s : Red} (hf : s.first m c < m) : (s.take m c).pv = s.pv ++ [c] ∧ (s.take m c).D = s.R (s.first m c) c := by
  unfold Red.take; rw [if_pos hf]; exact ⟨rfl, rfl⟩
theorem Red.take_no {m c : Nat} {s : Red} (hf : ¬ s.first m c < m) : s.take m c = s := by
  unfold Red.take; rw [if_neg hf]
end Go.Proofs.Ytdkpmaahinbhlaa
/- The rigidity matrix of a framework, as words on lists, and that its rank is at most 9, so that no number gets great while it is reduced: the motions of the plane leave two columns and one more without a pivot. No condition. -/
namespace Go.Proofs.Ytdkpmaahinbhlaa
open Go.RowKit

theorem dotV_comb {D x y : Int} {u' u v : Nat → Int} (g : Nat → Int) : ∀ n, (∀ j, j < n → D * u' j = u j * x - v j * y) → D * dotV u' g n = dotV u g n * x - dotV v g n * y := by
  intro n
  induction n with
  | zero => intro _; show D * 0 = 0 * x - 0 * y; omega
  | succ n ih =>
    intro h
    have h1 := ih fun j hj => h j (by omega)
    have h2 := h n (by omega)
    show D * (dotV u' g n + u' n * g n) = (dotV u g n + u n * g n) * x - (dotV v g n + v n * g n) * y
    grind
theorem dotV_one {u g : Nat → Int} {t : Nat} {z : Int} : ∀ n, (∀ j, j < n → u j * g j = if j = t then z else 0) → dotV u g n = if t < n then z else 0 := by
  intro n
  induction n with
  | zero => intro _; rfl
  | succ n ih =>
    intro h
    show dotV u g n + u n * g n = _
    rw [ih fun j hj => h j (by omega), h n (by omega)]
    by_cases e : n = t
    · subst e; rw [if_neg (by omega), if_pos rfl, if_pos (by omega), Int.zero_add]
    · rw [if_neg e, Int.add_zero]
      by_cases e2 : t < n
      · rw [if_pos e2, if_pos (by omega)]
      · rw [if_neg e2, if_neg (by omega)]
theorem dotV_nil {u g : Nat → Int} (n : Nat) (h : ∀ j, j < n → u j * g j = 0) : dotV u g n = 0 := by
  induction n with
  | zero => rfl
  | succ n ih =>
    show dotV u g n + u n * g n = 0
    rw [ih fun j hj => h j (by omega), h n (by omega)]; rfl
/-- What every row takes to zero, every row of the reduction takes to zero. -/
theorem RedS.kill {n m c : Nat} {s : Red} (h : RedS n m s c) (hc : c < n) {g : Nat → Int} (hg : ∀ i, i < m → dotV (s.R i) g n = 0) : ∀ i, i < m → dotV ((s.take m c).R i) g n = 0 := by
  intro i hi
  by_cases hf : s.first m c < m
  · by_cases e : i = s.pv.length
    · have : (s.take m c).R i = s.R (s.first m c) := by
        unfold Red.take; rw [if_pos hf]
        show barStep _ _ _ _ i = _
        funext j
        unfold barStep barSwap
        rw [if_pos e, if_pos rfl]
      rw [this]; exact hg _ hf
    · have h1 := dotV_comb g n fun j hj => h.exact hc hf hi e hj
      have h2 : dotV (barSwap s.R s.pv.length (s.first m c) i) g n = 0 := by
        unfold barSwap
        rw [if_neg e]
        split
        · exact hg _ (h.first_nz hf).2.2
        · exact hg _ hi
      rw [h2, hg _ hf, Int.zero_mul, Int.zero_mul, Int.sub_self] at h1
      exact (Int.mul_eq_zero.1 h1).resolve_left h.bar.nz
  · rw [Red.take_no hf]; exact hg i hi
/-- The rows without a pivot are zero in the columns behind. -/
def Ech (m : Nat) (s : Red) (c : Nat) : Prop := ∀ i, s.pv.length ≤ i → i < m → ∀ j, j < c → s.R i j = 0
theorem first_no {m : Nat} {s : Red} {c : Nat} (hf : ¬ s.first m c < m) {i : Nat} (h1 : s.pv.length ≤ i) (h2 : i < m) : s.R i c = 0 := by
  obtain ⟨g1, g2, g3, g4⟩ := fstI_spec (fun i => s.R i c != 0) (m - s.pv.length) s.pv.length
  have := g4 i h1 (by show i < s.first m c; omega)
  simpa using this
theorem first_none {m : Nat} {s : Red} {c : Nat} (h : ∀ i, s.pv.length ≤ i → i < m → s.R i c = 0) : ¬ s.first m c < m := by
  intro hf
  obtain ⟨g1, g2, g3, g4⟩ := fstI_spec (fun i => s.R i c != 0) (m - s.pv.length) s.pv.length
  have g1' : s.pv.length ≤ s.first m c := g1
  have := g3 (by show s.first m c < _; omega)
  rw [show fstI _ _ _ = s.first m c from rfl] at this
  rw [h _ g1' hf] at this
  simp at this
theorem Ech.take {n m c : Nat} {s : Red} (h : RedS n m s c) (hE : Ech m s c) (hc : c < n) : Ech m (s.take m c) (c + 1) := by
  by_cases hf : s.first m c < m
  · intro i h1 h2 j hj
    rw [(Red.take_pv hf).1, List.length_append] at h1
    have h1' : s.pv.length + 1 ≤ i := h1
    have hx := h.exact hc hf h2 (by omega) (j := j) (by omega)
    have hfz := h.first_nz hf
    by_cases e : j = c
    · subst e
      rw [Int.mul_comm (s.R _ _) (barSwap _ _ _ _ _), Int.sub_self] at hx
      exact (Int.mul_eq_zero.1 hx).resolve_left h.bar.nz
    · have z1 : s.R (s.first m c) j = 0 := hE _ hfz.2.1 hf j (by omega)
      have z2 : barSwap s.R s.pv.length (s.first m c) i j = 0 := by
        unfold barSwap
        rw [if_neg (by omega)]
        split
        · exact hE _ (Nat.le_refl _) hfz.2.2 j (by omega)
        · exact hE _ (by omega) h2 j (by omega)
      rw [z1, z2, Int.zero_mul, Int.zero_mul, Int.sub_self] at hx
      exact (Int.mul_eq_zero.1 hx).resolve_left h.bar.nz
  · rw [Red.take_no hf]
    intro i h1 h2 j hj
    by_cases e : j = c
    · subst e; exact first_no hf h1 h2
    · exact hE i h1 h2 j (by omega)
/-- All that stands while the columns are taken. -/
theorem Red.run_all {n m : Nat} {A : Nat → Nat → Int} (hA : ∀ i, i < m → dotV (A i) (A i) n ≤ 64) : ∀ c, c ≤ n → RedS n m (Red.run m A c) c ∧ Ech m (Red.run m A c) c ∧ (∀ g, (∀ i, i < m → dotV (A i) g n = 0) → ∀ i, i < m → dotV ((Red.run m A c).R i) g n = 0) := by
  intro c
  induction c with
  | zero => intro _; exact ⟨RedS.run hA 0 (Nat.zero_le _), fun _ _ _ j hj => absurd hj (Nat.not_lt_zero _), fun _ h => h⟩
  | succ c ih =>
    intro hc
    obtain ⟨h1, h2, h3⟩ := ih (by omega)
    exact ⟨h1.take (by omega), h2.take h1 (by omega), fun g hg => h1.kill (by omega) (h3 g hg)⟩
theorem Red.take_le (m : Nat) (s : Red) (c : Nat) : s.pv.length ≤ (s.take m c).pv.length ∧ (s.take m c).pv.length ≤ s.pv.length + 1 ∧ ((s.take m c).pv.length = s.pv.length → s.take m c = s) := by
  by_cases hf : s.first m c < m
  · rw [(Red.take_pv hf).1, List.length_append]
    refine ⟨by simp, by simp, fun h => ?_⟩
    simp at h
  · rw [Red.take_no hf]
    exact ⟨Nat.le_refl _, Nat.le_succ _, fun _ => rfl⟩
theorem Red.run_le (m : Nat) (A : Nat → Nat → Int) (c : Nat) : ∀ d, (Red.run m A c).pv.length ≤ (Red.run m A (c + d)).pv.length ∧ ((Red.run m A (c + d)).pv.length = (Red.run m A c).pv.length → Red.run m A (c + d) = Red.run m A c) := by
  intro d
  induction d with
  | zero => exact ⟨Nat.le_refl _, fun _ => rfl⟩
  | succ d ih =>
    have h1 := Red.take_le m (Red.run m A (c + d)) (c + d)
    have e : Red.run m A (c + (d + 1)) = (Red.run m A (c + d)).take m (c + d) := rfl
    rw [e]
    refine ⟨by omega, fun h => ?_⟩
    rw [h1.2.2 (by omega)]
    exact ih.2 (by omega)
theorem Red.run_len (m : Nat) (A : Nat → Nat → Int) : ∀ c, (Red.run m A c).pv.length ≤ c ∧ ((Red.run m A c).pv.length = c → (Red.run m A c).pv = List.range c) := by
  intro c
  induction c with
  | zero => exact ⟨Nat.le_refl _, fun _ => rfl⟩
  | succ c ih =>
    have e : Red.run m A (c + 1) = (Red.run m A c).take m c := rfl
    rw [e]
    have h1 := Red.take_le m (Red.run m A c) c
    refine ⟨by omega, fun h => ?_⟩
    by_cases hf : (Red.run m A c).first m c < m
    · have h2 := (Red.take_pv hf).1
      rw [h2, List.length_append] at h
      have h3 : (Red.run m A c).pv.length = c := by simp at h; omega
      rw [h2, ih.2 h3, List.range_succ]
    · rw [Red.take_no hf] at h
      omega
/-- Where at most nine rows have pivots, no number is great. -/
theorem lim_run {n m : Nat} {A : Nat → Nat → Int} (hA : ∀ i, i < m → dotV (A i) (A i) n ≤ 64) (hk : (Red.run m A n).pv.length ≤ 9) {c : Nat} (hc : c ≤ n) : LimS n m (Red.run m A c) := by
  have h := (Red.run_all hA c hc).1
  obtain ⟨d, rfl⟩ : ∃ d, n = c + d := ⟨n - c, by omega⟩
  have hl := Red.run_le m A c d
  refine ⟨fun {i j} hi hj => ?_, ?_⟩
  · by_cases hz : (Red.run m A c).pv.length = 9 ∧ (Red.run m A c).pv.length ≤ i
    · have e := hl.2 (by omega)
      have hE := (Red.run_all hA (c + d) (Nat.le_refl _)).2.1
      rw [e] at hE
      rw [hE i hz.2 hi j hj]
      decide
    · apply abs_of_sq (by decide)
      refine Int.le_trans (h.bar.small hi hj) (pow64_le ?_)
      split <;> omega
  · apply abs_of_sq (by decide)
    exact Int.le_trans h.bar.dsmall (pow64_le (by omega))
/-- The motions of the plane along X and Y. -/
def txF : Nat → Int := fun j => if j % 2 = 0 then 1 else 0
def tyF : Nat → Int := fun j => if j % 2 = 0 then 0 else 1
/-- The last two columns have no pivot. -/
theorem run_two {k m : Nat} {A : Nat → Nat → Int} (hA : ∀ i, i < m → dotV (A i) (A i) (2 * k + 2) ≤ 64) (hx : ∀ i, i < m → dotV (A i) txF (2 * k + 2) = 0) (hy : ∀ i, i < m → dotV (A i) tyF (2 * k + 2) = 0) :
    Red.run m A (2 * k + 2) = Red.run m A (2 * k) := by
  have e1 : Red.run m A (2 * k + 1) = Red.run m A (2 * k) := by
    refine Red.take_no (first_none fun i h1 h2 => ?_)
    obtain ⟨r1, r2, r3⟩ := Red.run_all hA (2 * k) (by omega)
    have h3 := r3 txF hx i h2
    have h4 : dotV ((Red.run m A (2 * k)).R i) txF (2 * k) = 0 := dotV_nil _ fun j hj => by rw [r2 i h1 h2 j hj, Int.zero_mul]
    have h5 : dotV ((Red.run m A (2 * k)).R i) txF (2 * k) + (Red.run m A (2 * k)).R i (2 * k) * txF (2 * k) + (Red.run m A (2 * k)).R i (2 * k + 1) * txF (2 * k + 1) = 0 := h3
    have t1 : txF (2 * k) = 1 := if_pos (by omega)
    have t2 : txF (2 * k + 1) = 0 := if_neg (by omega)
    rw [h4, t1, t2, Int.mul_zero, Int.mul_one] at h5
    omega
  have e2 : Red.run m A (2 * k + 2) = Red.run m A (2 * k + 1) := by
    refine Red.take_no (first_none fun i h1 h2 => ?_)
    obtain ⟨r1, r2, r3⟩ := Red.run_all hA (2 * k + 1) (by omega)
    have h3 := r3 tyF hy i h2
    have h4 : dotV ((Red.run m A (2 * k + 1)).R i) tyF (2 * k + 1) = 0 := dotV_nil _ fun j hj => by rw [r2 i h1 h2 j hj, Int.zero_mul]
    have h5 : dotV ((Red.run m A (2 * k + 1)).R i) tyF (2 * k + 1) + (Red.run m A (2 * k + 1)).R i (2 * k + 1) * tyF (2 * k + 1) = 0 := h3
    have t2 : tyF (2 * k + 1) = 1 := if_neg (by omega)
    rw [h4, t2, Int.mul_one] at h5
    omega
  rw [e2, e1]

/-- A row of the rigidity matrix: bar from joint a to joint b, with the offset dx, dy. -/
def rigF (dx dy : Int) (a b : Nat) : Nat → Int := fun j => if j = 2 * a then dx else if j = 2 * a + 1 then dy else if j = 2 * b then -dx else if j = 2 * b + 1 then -dy else 0
theorem rigF_dot (dx dy : Int) (a b : Nat) (hab : a ≠ b) (g : Nat → Int) : ∀ k, dotV (rigF dx dy a b) g (2 * k) = (if a < k then dx * g (2 * a) + dy * g (2 * a + 1) else 0) + (if b < k then -(dx * g (2 * b) + dy * g (2 * b + 1)) else 0) := by
  intro k
  induction k with
  | zero => rfl
  | succ k ih =>
    show dotV (rigF dx dy a b) g (2 * k) + rigF dx dy a b (2 * k) * g (2 * k) + rigF dx dy a b (2 * k + 1) * g (2 * k + 1) = _
    rw [ih]
    unfold rigF
    by_cases e1 : k = a
    · subst e1
      rw [if_pos (show 2 * k = 2 * k from rfl), if_neg (show ¬ 2 * k + 1 = 2 * k by omega), if_pos (show 2 * k + 1 = 2 * k + 1 from rfl), if_neg (Nat.lt_irrefl k), if_pos (Nat.lt_succ_self k)]
      by_cases e3 : b < k
      · rw [if_pos e3, if_pos (by omega)]; omega
      · rw [if_neg e3, if_neg (by omega)]; omega
    · rw [if_neg (show ¬ 2 * k = 2 * a by omega), if_neg (show ¬ 2 * k = 2 * a + 1 by omega), if_neg (show ¬ 2 * k + 1 = 2 * a by omega), if_neg (show ¬ 2 * k + 1 = 2 * a + 1 by omega)]
      have ea : (if a < k + 1 then dx * g (2 * a) + dy * g (2 * a + 1) else 0) = (if a < k then dx * g (2 * a) + dy * g (2 * a + 1) else 0) := by
        by_cases e3 : a < k
        · rw [if_pos e3, if_pos (by omega)]
        · rw [if_neg e3, if_neg (by omega)]
      rw [ea]
      by_cases e2 : k = b
      · subst e2
        rw [if_pos (show 2 * k = 2 * k from rfl), if_neg (show ¬ 2 * k + 1 = 2 * k by omega), if_pos (show 2 * k + 1 = 2 * k + 1 from rfl), if_neg (Nat.lt_irrefl k), if_pos (Nat.lt_succ_self k), Int.neg_mul, Int.neg_mul]; omega
      · rw [if_neg (show ¬ 2 * k = 2 * b by omega), if_neg (show ¬ 2 * k = 2 * b + 1 by omega), if_neg (show ¬ 2 * k + 1 = 2 * b by omega), if_neg (show ¬ 2 * k + 1 = 2 * b + 1 by omega)]
        have eb : (if b < k + 1 then -(dx * g (2 * b) + dy * g (2 * b + 1)) else 0) = (if b < k then -(dx * g (2 * b) + dy * g (2 * b + 1)) else 0) := by
          by_cases e3 : b < k
          · rw [if_pos e3, if_pos (by omega)]
          · rw [if_neg e3, if_neg (by omega)]
        rw [eb]; omega
theorem sq4 {x : Int} (h : -4 ≤ x ∧ x ≤ 4) : x * x ≤ 16 := by
  have : x = -4 ∨ x = -3 ∨ x = -2 ∨ x = -1 ∨ x = 0 ∨ x = 1 ∨ x = 2 ∨ x = 3 ∨ x = 4 := by omega
  rcases this with rfl | rfl | rfl | rfl | rfl | rfl | rfl | rfl | rfl <;> decide
def dxB (m : List (Int × Int)) (x : Int × Int) : Int := (plc m x.1).1 - (plc m x.2).1
def dyB (m : List (Int × Int)) (x : Int × Int) : Int := (plc m x.1).2 - (plc m x.2).2
def rigR (m : List (Int × Int)) (n : Nat) (x : Int × Int) : List Int := rowF n (rigF (dxB m x) (dyB m x) x.1.toNat x.2.toNat)
def rigL (p : Int) (l m : List (Int × Int)) : List (List Int) := l.map (rigR m (2 * p.toNat))
/-- What RigidityMatrix answers. -/
noncomputable def rigV (p : Int) (l m : List (Int × Int)) : List (List Int) := if isFB p l m = true then rigL p l m else []
theorem rigV_yes {p : Int} {l m : List (Int × Int)} (h : isFB p l m = true) : rigV p l m = rigL p l m := if_pos h
theorem rigV_no {p : Int} {l m : List (Int × Int)} (h : isFB p l m = false) : rigV p l m = [] := if_neg (by rw [h]; simp)
theorem rigL_len (p : Int) (l m : List (Int × Int)) : (rigL p l m).length = l.length := List.length_map ..
theorem rigL_get {p : Int} {l m : List (Int × Int)} {i : Nat} (h : i < l.length) : (rigL p l m).getD i [] = rigR m (2 * p.toNat) (l.getD i (0, 0)) := by
  unfold rigL
  rw [List.getD_eq_getElem?_getD, List.getElem?_map, List.getElem?_eq_getElem h, List.getD_eq_getElem?_getD, List.getElem?_eq_getElem h]; rfl
theorem rigL_wid {p : Int} {l m : List (Int × Int)} (h : 0 < l.length) : widM (rigL p l m) = 2 * p.toNat := by
  unfold widM; rw [rigL_get h]; exact rowF_len ..
theorem rigL_at {p : Int} {l m : List (Int × Int)} {i j : Nat} (h : i < l.length) (hj : j < 2 * p.toNat) : atM (rigL p l m) i j = rigF (dxB m (l.getD i (0, 0))) (dyB m (l.getD i (0, 0))) (l.getD i (0, 0)).1.toNat (l.getD i (0, 0)).2.toNat j := by
  unfold atM; rw [rigL_get h]; exact rowF_getD hj
theorem dotV_congr {u u' g g' : Nat → Int} : ∀ n, (∀ j, j < n → u j = u' j ∧ g j = g' j) → dotV u g n = dotV u' g' n := by
  intro n
  induction n with
  | zero => intro _; rfl
  | succ n ih =>
    intro h
    show dotV u g n + u n * g n = dotV u' g' n + u' n * g' n
    rw [ih fun j hj => h j (by omega), (h n (by omega)).1, (h n (by omega)).2]
/-- What a vector does at a bar. -/
theorem rig_dot {p : Int} {l m : List (Int × Int)} (h : IsF p l m) (g : Nat → Int) {i : Nat} (hi : i < l.length) :
    dotV (atM (rigL p l m) i) g (2 * p.toNat) = dxB m (l.getD i (0, 0)) * (g (2 * (l.getD i (0, 0)).1.toNat) - g (2 * (l.getD i (0, 0)).2.toNat)) + dyB m (l.getD i (0, 0)) * (g (2 * (l.getD i (0, 0)).1.toNat + 1) - g (2 * (l.getD i (0, 0)).2.toNat + 1)) := by
  have he := h.ends hi
  rw [dotV_congr (g' := g) _ fun j hj => ⟨rigL_at hi hj, rfl⟩, rigF_dot _ _ _ _ (by omega), if_pos (by omega), if_pos (by omega), Int.mul_sub, Int.mul_sub]
  omega
theorem rig_off {p : Int} {l m : List (Int × Int)} (h : IsF p l m) {i : Nat} (hi : i < l.length) : (-4 ≤ dxB m (l.getD i (0, 0)) ∧ dxB m (l.getD i (0, 0)) ≤ 4) ∧ -4 ≤ dyB m (l.getD i (0, 0)) ∧ dyB m (l.getD i (0, 0)) ≤ 4 := by
  have he := h.ends hi
  have h1 := h.on he.1 (by omega)
  have h2 := h.on (v := (l.getD i (0, 0)).2) (by omega) (by omega)
  unfold OnG at h1 h2
  unfold dxB dyB
  omega
theorem rig_sq {p : Int} {l m : List (Int × Int)} (h : IsF p l m) {i : Nat} (hi : i < l.length) : dotV (atM (rigL p l m) i) (atM (rigL p l m) i) (2 * p.toNat) ≤ 64 := by
  have he := h.ends hi
  rw [rig_dot h _ hi, rigL_at hi (by omega), rigL_at hi (by omega), rigL_at hi (by omega), rigL_at hi (by omega)]
  unfold rigF
  rw [if_pos rfl, if_neg (by omega), if_neg (by omega), if_pos rfl, if_neg (by omega), if_pos rfl, if_neg (by omega), if_neg (by omega), if_neg (by omega), if_pos rfl]
  have ho := rig_off h hi
  have b1 := sq4 ho.1
  have b2 := sq4 ho.2
  grind
/-- The turn of the plane about a joint. -/
def turnF (m : List (Int × Int)) (c : Int × Int) : Nat → Int := fun j => if j % 2 = 0 then -((m.getD (j / 2) (0, 0)).2 - c.2) else (m.getD (j / 2) (0, 0)).1 - c.1
theorem turnF_x (m : List (Int × Int)) (c : Int × Int) (v : Nat) : turnF m c (2 * v) = -((m.getD v (0, 0)).2 - c.2) := by
  unfold turnF; rw [if_pos (by omega), show 2 * v / 2 = v by omega]
theorem turnF_y (m : List (Int × Int)) (c : Int × Int) (v : Nat) : turnF m c (2 * v + 1) = (m.getD v (0, 0)).1 - c.1 := by
  unfold turnF; rw [if_neg (by omega), show (2 * v + 1) / 2 = v by omega]
theorem rig_turn {p : Int} {l m : List (Int × Int)} (h : IsF p l m) (c : Int × Int) {i : Nat} (hi : i < l.length) : dotV (atM (rigL p l m) i) (turnF m c) (2 * p.toNat) = 0 := by
  rw [rig_dot h _ hi, turnF_x, turnF_x, turnF_y, turnF_y]
  unfold dxB dyB plc
  generalize m.getD (l.getD i (0, 0)).1.toNat (0, 0) = a
  generalize m.getD (l.getD i (0, 0)).2.toNat (0, 0) = b
  grind
theorem rig_tx {p : Int} {l m : List (Int × Int)} (h : IsF p l m) {i : Nat} (hi : i < l.length) : dotV (atM (rigL p l m) i) txF (2 * p.toNat) = 0 := by
  rw [rig_dot h _ hi]
  unfold txF
  rw [if_pos (by omega), if_pos (by omega), if_neg (by omega), if_neg (by omega)]; simp
theorem rig_ty {p : Int} {l m : List (Int × Int)} (h : IsF p l m) {i : Nat} (hi : i < l.length) : dotV (atM (rigL p l m) i) tyF (2 * p.toNat) = 0 := by
  rw [rig_dot h _ hi]
  unfold tyF
  rw [if_pos (by omega), if_pos (by omega), if_neg (by omega), if_neg (by omega)]; simp
/-- At most nine rows have pivots. -/
theorem rig_nine {p : Int} {l m : List (Int × Int)} (h : IsF p l m) (h0 : 0 < l.length) : (Red.run l.length (atM (rigL p l m)) (2 * p.toNat)).pv.length ≤ 9 := by
  have he := h.ends h0
  have h6 := h.six
  have hS : ∀ i, i < l.length → dotV (atM (rigL p l m) i) (atM (rigL p l m) i) (2 * p.toNat) ≤ 64 := fun i hi => rig_sq h hi
  have hX : ∀ i, i < l.length → dotV (atM (rigL p l m) i) txF (2 * p.toNat) = 0 := fun i hi => rig_tx h hi
  have hY : ∀ i, i < l.length → dotV (atM (rigL p l m) i) tyF (2 * p.toNat) = 0 := fun i hi => rig_ty h hi
  have hT : ∀ c, ∀ i, i < l.length → dotV (atM (rigL p l m) i) (turnF m c) (2 * p.toNat) = 0 := fun c i hi => rig_turn h c hi
  obtain ⟨k, hk⟩ : ∃ k, 2 * p.toNat = 2 * k + 2 := ⟨p.toNat - 1, by omega⟩
  rw [hk] at hS hX hY hT ⊢
  have e := run_two hS hX hY
  have hl := Red.run_len l.length (atM (rigL p l m)) (2 * k)
  by_cases h9 : (Red.run l.length (atM (rigL p l m)) (2 * k + 2)).pv.length ≤ 9
  · exact h9
  · exfalso
    obtain rfl : k = 5 := by rw [e] at h9; omega
    have hp : p = 6 := by omega
    have hpv : (Red.run l.length (atM (rigL p l m)) (2 * 5 + 2)).pv = List.range 10 := by rw [e] at h9 ⊢; exact hl.2 (by omega)
    obtain ⟨r1, r2, r3⟩ := Red.run_all hS (2 * 5 + 2) (Nat.le_refl _)
    have hz := r3 _ (hT (m.getD 5 (0, 0)))
    generalize Red.run l.length (atM (rigL p l m)) (2 * 5 + 2) = s at *
    have hlen : s.pv.length = 10 := by rw [hpv]; rfl
    have hget : ∀ t (ht : t < s.pv.length), s.pv[t] = t := fun t ht => by simp [hpv]
    have hle := r1.bar.le
    have g0 : ∀ t, t < 10 → turnF m (m.getD 5 (0, 0)) t = 0 := by
      intro t ht
      have h1 := dotV_one (u := s.R t) (g := turnF m (m.getD 5 (0, 0))) (t := t) (z := s.D * turnF m (m.getD 5 (0, 0)) t) (2 * 5 + 2) (fun j hj => by
        by_cases h10 : j < 10
        · by_cases ej : j = t
          · subst ej
            have := r1.own j (by omega)
            rw [hget] at this
            rw [if_pos rfl, this]
          · have := r1.zer j (by omega) t (by omega) (fun x => ej x.symm)
            rw [hget] at this
            rw [if_neg ej, this, Int.zero_mul]
        · have : j = 10 ∨ j = 11 := by omega
          rw [if_neg (by omega)]
          rcases this with rfl | rfl
          · rw [show 10 = 2 * 5 from rfl, turnF_x, Int.sub_self]; simp
          · rw [show 11 = 2 * 5 + 1 from rfl, turnF_y, Int.sub_self]; simp)
      rw [hz t (by omega), if_pos (by omega)] at h1
      exact (Int.mul_eq_zero.1 h1.symm).resolve_left r1.bar.nz
    have same : ∀ v : Nat, v < 6 → m.getD v (0, 0) = m.getD 5 (0, 0) := by
      intro v hv
      by_cases e5 : v = 5
      · rw [e5]
      · have h1 := g0 (2 * v) (by omega)
        have h2 := g0 (2 * v + 1) (by omega)
        rw [turnF_x] at h1
        rw [turnF_y] at h2
        exact Prod.ext (by omega) (by omega)
    apply (h.ok 0 h0).1
    unfold plc
    exact (same _ (by omega)).trans (same _ (by omega)).symm
theorem rig_q {p : Int} {l m : List (Int × Int)} (h : IsF p l m) (h0 : 0 < l.length) : MatQ (rigL p l m) := by
  have he := h.ends h0
  have h6 := h.six
  have hb := h.bars
  have hw := rigL_wid (p := p) (m := m) h0
  refine ⟨by rw [rigL_len]; exact h0, by rw [rigL_len]; omega, by omega, by omega, fun i hi => ?_, fun c hc => ?_⟩
  · rw [rigL_len] at hi
    rw [rigL_get hi, hw]
    refine ⟨rowF_len .., fun j hj => ?_⟩
    unfold rigR
    rw [rowF_getD hj]
    have := rig_off h hi
    unfold rigF
    split
    · omega
    · split
      · omega
      · split
        · omega
        · split <;> omega
  · rw [hw] at hc
    rw [hw, rigL_len]
    exact ⟨(Red.run_all (fun i hi => rig_sq h hi) c hc).1, lim_run (fun i hi => rig_sq h hi) (rig_nine h h0) hc⟩
/-- The columns with a pivot. -/
noncomputable def rigP (p : Int) (l m : List (Int × Int)) : Nat := (Red.run (rigL p l m).length (atM (rigL p l m)) (widM (rigL p l m))).pv.length
/-- What FrameworkRank answers. -/
noncomputable def frkV (p : Int) (l m : List (Int × Int)) : Int := if isFB p l m = true then (rigP p l m : Int) else -1
theorem frkV_yes {p : Int} {l m : List (Int × Int)} (h : isFB p l m = true) : frkV p l m = (rigP p l m : Int) := if_pos h
theorem frkV_no {p : Int} {l m : List (Int × Int)} (h : isFB p l m = false) : frkV p l m = -1 := if_neg (by rw [h]; simp)
theorem rigP_le {p : Int} {l m : List (Int × Int)} (h : IsF p l m) : rigP p l m ≤ 9 := by
  by_cases h0 : 0 < l.length
  · have := rig_nine h h0
    unfold rigP
    rw [rigL_len, rigL_wid h0]; exact this
  · obtain rfl : l = [] := List.length_eq_zero_iff.1 (by omega)
    exact Nat.zero_le _
theorem rigP_nil (p : Int) (m : List (Int × Int)) : rigP p [] m = 0 := rfl
open Classical in
/-- By how many motions the plane moves the joints. -/
noncomputable def triV (m : List (Int × Int)) : Int := if ∃ i, i < m.length ∧ m.getD i (0, 0) ≠ m.getD 0 (0, 0) then 3 else 2
theorem triV_two {m : List (Int × Int)} (h : ∀ i, i < m.length → m.getD i (0, 0) = m.getD 0 (0, 0)) : triV m = 2 := by
  unfold triV
  rw [if_neg]
  rintro ⟨i, h1, h2⟩
  exact h2 (h i h1)
theorem triV_three {m : List (Int × Int)} {i : Nat} (h : i < m.length) (h2 : m.getD i (0, 0) ≠ m.getD 0 (0, 0)) : triV m = 3 := by
  unfold triV
  rw [if_pos ⟨i, h, h2⟩]
theorem triV_or (m : List (Int × Int)) : triV m = 2 ∨ triV m = 3 := by
  unfold triV
  split
  · exact .inr rfl
  · exact .inl rfl
theorem triV_bd (m : List (Int × Int)) : 2 ≤ triV m ∧ triV m ≤ 3 := by
  rcases triV_or m with h | h <;> omega
/-- Whether all joints are at one place. -/
noncomputable def oneB (m : List (Int × Int)) : Bool := triV m == 2
/-- What FrameworkFreedom answers. -/
noncomputable def ffrV (p : Int) (l m : List (Int × Int)) : Int := if isFB p l m = true then 2 * p - triV m - frkV p l m else -1
theorem ffrV_yes {p : Int} {l m : List (Int × Int)} (h : isFB p l m = true) : ffrV p l m = 2 * p - triV m - frkV p l m := if_pos h
theorem ffrV_no {p : Int} {l m : List (Int × Int)} (h : isFB p l m = false) : ffrV p l m = -1 := if_neg (by rw [h]; simp)
noncomputable def stfB (p : Int) (l m : List (Int × Int)) : Bool := ffrV p l m == 0
noncomputable def idfB (p : Int) (l m : List (Int × Int)) : Bool := isFB p l m && (frkV p l m == (l.length : Int))
end Go.Proofs.Ytdkpmaahinbhlaa
/- Rows of ints, as the laws copy, compare and mark them. No condition. -/
namespace Go.Proofs.Ytdkpmaahinbhlaa
open Go.RowKit

set_option maxHeartbeats 1000000 in
set_option maxRecDepth 100000 in
theorem eqInts_c (zs : List Int) (A A' : Option Addr) (cap cap' : Nat) (lo hi lo' hi' : Nat) (w : World) (hl : IntsIn w lo hi A zs) (hl' : IntsIn w lo' hi' A' zs) (hn : zs.length ≤ 1048576) :
    Calls Try.prog 178 #[.slice A zs.length cap, .slice A' zs.length cap'] w fun e w' => e = .returned (.bool true) ∧ Below w.heap.size w w' := by
  have HL := Lib.hid hl
  have HL' := Lib.hid hl'
  clear hl hl'
  go_enter Try.func178, Try.ntmps178
  go_wp2_with fail
  go_loopw [5] (fun i wr => ∃ k : Nat, k ≤ zs.length ∧ i = .int .i64 k ∧ ∃ m, wr = w.drewN m) (fun i _ => zs.length - (intOf i).toNat)
  case atStart => exact ⟨0, by omega, rfl, 0, rfl⟩
  case round =>
    obtain ⟨k, hk, rfl, m, rfl⟩ := hrel
    by_cases hlt : k < zs.length
    · have hi : (k : Int) < (zs.length : Int) := by omega
      obtain ⟨b, off, rfl, _, _, hcell⟩ := HL.out.2 (by omega)
      obtain ⟨b', off', rfl, _, _, hcell'⟩ := HL'.out.2 (by omega)
      have hc1 := hcell k hlt
      have hc2 := hcell' k hlt
      clear hcell hcell'
      obtain ⟨x, hx⟩ : ∃ x, zs.getD k 0 = x := ⟨_, rfl⟩
      rw [hx] at hc1 hc2
      clear hx
      go_wp2_with fail
      go_quiet (fail)
      go_wp2_with fail
      go_roundw
      case rel => exact ⟨k + 1, by omega, by go_num, m + nq, rfl⟩
      case measure => simp [intOf]; omega
    · go_wp2_with fail
      go_ret
      exact ⟨rfl, below_drewN _ _ _⟩

/-- The ints that the marks from k on make. -/
def marksI (k : Int) (n : Nat) : List Int := (List.range n).map fun (i : Nat) => k + (i : Int)
theorem marksI_len (k : Int) (n : Nat) : (marksI k n).length = n := by simp [marksI]
theorem marksI_get (k : Int) (n i : Nat) (h : i < n) : (marksI k n).getD i 0 = k + (i : Int) := by simp [marksI, List.getD, h]
theorem marksI_step (k : Int) (zs : List Int) (i : Nat) (h : i < zs.length) : (intCells (marksI k i ++ zs.drop i)).set i (.int .i64 (k + (i : Int))) = intCells (marksI k (i + 1) ++ zs.drop (i + 1)) := by
  unfold intCells
  rw [← List.map_set, List.set_append_right _ _ (by rw [marksI_len]; exact Nat.le_refl _), marksI_len, Nat.sub_self, List.drop_eq_getElem_cons h, List.set_cons_zero]
  simp [marksI, List.range_succ]

set_option maxHeartbeats 1000000 in
set_option maxRecDepth 100000 in
theorem markInts_c (g : Nat) (zs : List Int) (cap : Nat) (k : Int) (base : Nat) (w : World) (hown : w.ownsRow base 3 1 (.slice (some ⟨g, 0, none⟩) zs.length cap) zs.length (intCells zs)) (hn : zs.length ≤ 1048576) (hk0 : 0 ≤ k) (hk1 : k ≤ 10000000) :
    Calls Try.prog 181 #[.slice (some ⟨g, 0, none⟩) zs.length cap, .int .i64 k] w fun e w' => e = .returned (.int .i64 (k + (zs.length : Int))) ∧ w'.ownsRow base 3 1 (.slice (some ⟨g, 0, none⟩) zs.length cap) zs.length (intCells (marksI k zs.length)) ∧ w.grownBy w' (some g) := by
  have HO := Lib.hid hown
  clear hown
  go_enter Try.func181, Try.ntmps181
  go_wp2_with fail
  go_loopw [1, 5] (fun m i wr => ∃ j : Nat, j ≤ zs.length ∧ i = .int .i64 j ∧ m = .int .i64 (k + (j : Int)) ∧ wr.ownsRow base 3 1 (.slice (some ⟨g, 0, none⟩) zs.length cap) zs.length (intCells (marksI k j ++ zs.drop j)) ∧ w.grownBy wr (some g)) (fun _ i _ => zs.length - (intOf i).toNat)
  case atStart => exact ⟨0, by omega, rfl, by simp, HO.out, World.grownBy.refl _ _⟩
  case round =>
    obtain ⟨j, hj, rfl, rfl, hown, hg⟩ := hrel
    have HG := Lib.hid hg
    clear hg
    by_cases hlt : j < zs.length
    · have hi : (j : Int) < (zs.length : Int) := by omega
      have hlen : (marksI k j ++ zs.drop j).length = zs.length := by rw [List.length_append, marksI_len, List.length_drop]; omega
      have hd1 := (hown.cellAt j (by omega)).trans (intCells_get _ j (by omega))
      have hf1 := hown.frozenAt j
      have hst1 := hown.stored j (.int .i64 (k + (j : Int)))
      have HG2 := Lib.hid (HG.out.trans_ hst1.2)
      have hst3 := hst1.1
      rw [marksI_step k zs j hlt] at hst3
      have HST := Lib.hid hst3
      clear hst1 hst3 hown hlen
      go_wp2_with fail
      go_roundw
      case rel => exact ⟨j + 1, by omega, by go_num, by go_num, HST.out, HG2.out⟩
      case measure => simp [intOf]; omega
    · obtain rfl : j = zs.length := by omega
      rw [List.drop_length, List.append_nil] at hown
      go_wp2_with fail
      go_ret
      exact ⟨rfl, hown, HG.out⟩
theorem markInts_nil (A : Option Addr) (cap : Nat) (k : Int) (w : World) :
    Calls Try.prog 181 #[.slice A 0 cap, .int .i64 k] w fun e w' => e = .returned (.int .i64 k) ∧ w = w' := by
  go_enter Try.func181, Try.ntmps181
  go_wp2_with fail
  refine wp_loop_rounds 1 ?_
  rw [rounds_succ]
  go_wp2_with fail
  go_ret
  exact ⟨rfl, rfl⟩
theorem markInts_o (A : Option Addr) (cap : Nat) (zs : List Int) (k : Int) (lo hi : Nat) (w : World) (h : OwnInts w lo hi A cap zs) (hn : zs.length ≤ 1048576) (hk0 : 0 ≤ k) (hk1 : k ≤ 10000000) :
    Calls Try.prog 181 #[.slice A zs.length cap, .int .i64 k] w fun e w' => e = .returned (.int .i64 (k + (zs.length : Int))) ∧ Within lo hi w w' ∧ OwnInts w' lo hi A cap (marksI k zs.length) := by
  have hhi := h.1
  rcases h.2 with h2 | ⟨g, rfl, h1, h2, ho⟩
  · subst h2
    refine (markInts_nil A cap k w).mono ?_
    rintro e w1 ⟨rfl, rfl⟩
    exact ⟨by simp, ⟨rfl, rfl, rfl, Nat.le_refl _, fun _ _ _ => rfl⟩, hhi, .inl rfl⟩
  · refine (markInts_c g zs cap k lo w ho hn hk0 hk1).mono ?_
    rintro e w1 ⟨rfl, ho1, hg1⟩
    refine ⟨rfl, ⟨hg1.os, hg1.tape, hg1.output, hg1.size, fun j hj hd => hg1.block j hj (by simp; omega)⟩, Nat.le_trans hhi hg1.size, .inr ⟨g, rfl, h1, h2, ?_⟩⟩
    have := marksI_len k zs.length
    rw [this]
    exact ho1

set_option maxHeartbeats 1000000 in
set_option maxRecDepth 100000 in
theorem heldInts_c (n : Nat) (A : Option Addr) (cap : Nat) (k : Int) (lo hi : Nat) (w : World) (hl : IntsIn w lo hi A (marksI k n)) (hn : n ≤ 1048576) (hk0 : 0 ≤ k) (hk1 : k ≤ 10000000) :
    Calls Try.prog 182 #[.slice A n cap, .int .i64 k] w fun e w' => e = .returned (.int .i64 (k + (n : Int))) ∧ Below w.heap.size w w' := by
  have HL := Lib.hid hl
  clear hl
  go_enter Try.func182, Try.ntmps182
  go_wp2_with fail
  go_loop [1, 5] (fun m i => ∃ j : Nat, j ≤ n ∧ i = .int .i64 j ∧ m = .int .i64 (k + (j : Int))) (fun _ i => n - (intOf i).toNat)
  case atStart => exact ⟨0, by omega, rfl, by simp⟩
  case round =>
    obtain ⟨j, hj, rfl, rfl⟩ := hrel
    by_cases hlt : j < n
    · have hi : (j : Int) < (n : Int) := by omega
      obtain ⟨b, off, rfl, _, _, hcell⟩ := HL.out.2 (by rw [marksI_len]; omega)
      have hc := hcell j (by rw [marksI_len]; exact hlt)
      rw [marksI_get k n j hlt] at hc
      clear hcell
      go_wp2_with fail
      go_round
      case rel => exact ⟨j + 1, by omega, by go_num, by go_num⟩
      case measure => simp [intOf]; omega
    · obtain rfl : j = n := by omega
      go_wp2_with fail
      go_ret
      exact ⟨rfl, Below.refl _ _⟩
end Go.Proofs.Ytdkpmaahinbhlaa
