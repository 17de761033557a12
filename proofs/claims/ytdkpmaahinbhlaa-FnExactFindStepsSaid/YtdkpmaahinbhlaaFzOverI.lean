/- What the program's OvercountedSet answers: the same as the specification's. No condition. -/
import Derived.Test.YtdkpmaahinbhlaaFzB2
import Derived.Test.YtdkpmaahinbhlaaFzB1
import Derived.RangeFuncFrom
import Derived.RangeFuncBound
import Derived.RangeFuncCalls
import Derived.RangeFuncLeaves
import Derived.RangeFuncNested
import Derived.Shelf.Abstract
import Derived.Shelf.RegionOpen
import Derived.OwnWalkIn
import Derived.TacticsInMore
import Derived.LoopNIn
import Derived.LoopIn
namespace Go.Proofs.Ytdkpmaahinbhlaa
open Go.RowKit Go.Shelf
attribute [local go_sem] Oper.semAt_some

/-- The sets from 0 on, as many as have come. -/
def setsTo (N k : Nat) : List (Fin N) := (List.finRange N).take k
theorem setsTo_succ {N k : Nat} (h : k < N) : setsTo N (k + 1) = setsTo N k ++ [⟨k, h⟩] := by
  unfold setsTo
  rw [List.take_succ_eq_append_getElem (by simpa using h)]
  simp
theorem setsTo_all (N : Nat) : setsTo N N = List.finRange N := by
  unfold setsTo
  exact List.take_of_length_le (by simp)
theorem setsTo_len {N k : Nat} (h : k ≤ N) : (setsTo N k).length = k := by simp [setsTo]; omega
theorem pre_last {N : Nat} {pre : List (Fin N)} {m : Fin N} (h : pre ++ [m] <+: List.finRange N) : ∀ i (hi : i < m.1), (⟨i, Nat.lt_trans hi m.2⟩ : Fin N) ∈ pre := by
  have hlen := h.length_le
  simp at hlen
  have at_ : ∀ j (hj : j < (pre ++ [m]).length), (pre ++ [m])[j] = ⟨j, by simp at hj; omega⟩ := fun j hj => by
    rw [h.getElem hj]
    simp
  have hm : m.1 = pre.length := by
    have := at_ pre.length (by simp)
    simp at this
    rw [this]
  intro i hi
  have hi' : i < pre.length := by omega
  have := at_ i (by simp; omega)
  rw [List.getElem_append_left hi'] at this
  rw [← this]
  exact List.getElem_mem hi'

set_option maxHeartbeats 2000000 in
set_option maxRecDepth 100000 in
theorem sets_stops (n : Nat) (hn : 1 ≤ n) (P N b : Nat) (w : World) (hP : P ≤ 8) (hN : N = 2 ^ P) (hb0 : w.cell? ⟨b, 0, none⟩ = some (.int .i64 (P : Int))) (hlt : b < w.heap.size) :
    SeqStopsK Fence.wide n Try.prog 254 #[.pointer (some ⟨b, 0, none⟩)] (fun m : Fin N => #[Value.int .u64 (m.1 : Int)]) (fun _ _ => True) (fun xs => xs = List.finRange N) (fun pre => pre <+: List.finRange N) N w := fun l J Jx W hW hJ hJx hY h0 => by
  have hc := (hW.cell (p := ⟨b, 0, none⟩) hlt).trans hb0
  have h256 : N ≤ 256 := by rw [hN]; exact (Nat.pow_le_pow_right (by decide) hP : 2 ^ P ≤ 2 ^ 8)
  have hpw : IntKind.u64.wrap ((2 : Int) ^ P) = (N : Int) := by
    have h2 : ((2 : Int) ^ P) = ((2 ^ P : Nat) : Int) := by simp
    rw [h2, ← hN]
    exact IntWalk.u64_in (N : Int) (by omega)
  clear hN
  refine callsIn_of_wp Try.func254 rfl trivial ?_ rfl
  simp only [Try.ntmps254, List.size_toArray, List.length_cons, List.length_nil, Nat.reduceAdd, Nat.reduceSub, Array.replicate_succ, Array.replicate_zero, List.push_toArray, List.append_toArray, List.nil_append, List.cons_append]
  gi_wp2
  gi_loopw [7] (fun i wr => ∃ k : Nat, k ≤ N ∧ i = .int .u64 k ∧ J (setsTo N k) wr) (fun i _ => N - (intOf i).toNat)
  case atStart => exact ⟨0, by omega, rfl, h0⟩
  case round =>
    obtain ⟨k, hk, rfl, hJs⟩ := hrel
    by_cases hlt : k < N
    · have hik : (k : Int) < (N : Int) := by omega
      have hs := setsTo_succ hlt
      obtain ⟨fn, tmps, assign, body, hy, hR⟩ := hY (setsTo N k) ⟨k, hlt⟩ wr hJs (by rw [setsTo_len hk]; exact hlt)
      dsimp only at hy
      gi_wp2
      refine hR.mono ?_
      rintro e W3 (⟨rfl, hJ3, _⟩ | ⟨rfl, hJx3⟩)
      · gi_wp2
        go_roundw
        case rel => exact ⟨k + 1, by omega, by go_num, by rw [hs]; exact hJ3⟩
        case measure => simp [intOf]; omega
      · gi_wp2
        refine bodyPost_ret (results_none rfl _ _ _) rfl ?_
        exact ⟨⟨_, rfl⟩, .inr ⟨setsTo N (k + 1), List.take_prefix _ _, by rw [hs]; exact hJx3⟩⟩
    · obtain rfl : k = N := by omega
      gi_wp2
      go_end0
      exact ⟨⟨_, rfl⟩, .inl ⟨setsTo k k, setsTo_all k, hJs⟩⟩

theorem makeSets (P : Int) (gv : Value) (w : World) : Calls Try.prog 249 #[.agg #[.int .i64 P, gv]] w fun e w' => e = .returned (.func (.func 254) #[] #[.pointer (some ⟨w.heap.size, 0, none⟩)]) ∧ w' = w.alloc (.cells #[.int .i64 P, gv] 26) := by
  go_enter Try.func249, Try.ntmps249
  go_wp2
  go_ret
  exact ⟨rfl, rfl⟩

theorem below_others {W W' : World} (h : Below W.heap.size W W') : KeepsOthers W W' := ⟨h.size, fun k _ hk _ => (h.block k (Array.getElem?_eq_some_iff.1 hk).1).trans hk⟩

theorem cell_new1 (W : World) (v : Value) (t : TypeId) : (W.alloc (.cells #[v] t)).cell? ⟨W.heap.size, 0, none⟩ = some v ∧ (W.alloc (.cells #[v] t)).frozen? ⟨W.heap.size, 0, none⟩ = false :=
  ⟨by rw [World.cell?_alloc_at _ _ _ _ rfl]; rfl, World.frozen?_alloc_at _ _ _ _ rfl⟩
theorem cell_al {W : World} {a : Addr} {v : Value} (o : Obj) (h : W.cell? a = some v) : (W.alloc o).cell? a = some v := cell_kept h (World.grownBy_alloc W o none) (fun r e => by cases e)
theorem froz_al {W : World} {a : Addr} {v : Value} (o : Obj) (h : W.cell? a = some v) (hf : W.frozen? a = false) : (W.alloc o).frozen? a = false := (frozen_kept h (World.grownBy_alloc W o none) (fun r e => by cases e)).trans hf
/-- What stands while the sets are tried: the arguments' boxes, and the results' cells. -/
structure OverSt (w W : World) (P : Int) (k c : Int) (gv r0 : Value) (r1 : Bool) : Prop where
  g0 : W.cell? ⟨w.heap.size, 0, none⟩ = some (.int .i64 P)
  g1 : W.cell? ⟨w.heap.size, 1, none⟩ = some gv
  bk : W.cell? ⟨w.heap.size + 1, 0, none⟩ = some (.int .i64 k)
  bc : W.cell? ⟨w.heap.size + 1 + 1, 0, none⟩ = some (.int .i64 c)
  c0 : W.cell? ⟨w.heap.size + 1 + 1 + 1, 0, none⟩ = some r0
  f0 : W.frozen? ⟨w.heap.size + 1 + 1 + 1, 0, none⟩ = false
  c1 : W.cell? ⟨w.heap.size + 1 + 1 + 1 + 1, 0, none⟩ = some (.bool r1)
  f1 : W.frozen? ⟨w.heap.size + 1 + 1 + 1 + 1, 0, none⟩ = false
theorem OverSt.kept {w W W' : World} {P : Int} {k c : Int} {gv r0 : Value} {r1 : Bool} (h : OverSt w W P k c gv r0 r1) (hb : Below W.heap.size W W') : OverSt w W' P k c gv r0 r1 := by
  have lt : ∀ {a : Addr} {v : Value}, W.cell? a = some v → a.block < W.heap.size := fun {a v} e => World.block_lt_of_cell? W a e
  exact ⟨(hb.cell (lt h.g0)).trans h.g0, (hb.cell (lt h.g1)).trans h.g1, (hb.cell (lt h.bk)).trans h.bk, (hb.cell (lt h.bc)).trans h.bc, (hb.cell (lt h.c0)).trans h.c0, (hb.frozen (lt h.c0)).trans h.f0, (hb.cell (lt h.c1)).trans h.c1, (hb.frozen (lt h.c1)).trans h.f1⟩
theorem OverSt.own {w W W' : World} {P : Int} {k c : Int} {gv r0 : Value} {r1 : Bool} {row : Option Nat} (h : OverSt w W P k c gv r0 r1) (hg : W.grownBy W' row) (hr : ∀ r, row = some r → ∃ o : Obj, W.heap[r]? = some o ∧ o.isCells = false) : OverSt w W' P k c gv r0 r1 :=
  ⟨cell_kept h.g0 hg hr, cell_kept h.g1 hg hr, cell_kept h.bk hg hr, cell_kept h.bc hg hr, cell_kept h.c0 hg hr, (frozen_kept h.c0 hg hr).trans h.f0, cell_kept h.c1 hg hr, (frozen_kept h.c1 hg hr).trans h.f1⟩
theorem OwnInts.own {W W' : World} {lo hi : Nat} {A : Option Addr} {cap : Nat} {zs : List Int} {row : Option Nat} (h : OwnInts W lo hi A cap zs) (hg : W.grownBy W' row) (hr : ∀ r, row = some r → ∃ o : Obj, W.heap[r]? = some o ∧ o.isCells = false) : OwnInts W' lo hi A cap zs :=
  ⟨Nat.le_trans h.1 hg.size, by
    rcases h.2 with h2 | ⟨g, e, h1, h2, ho⟩
    · exact .inl h2
    · refine .inr ⟨g, e, h1, h2, own_block ho (hg.block g (Nat.lt_of_lt_of_le h2 h.1) fun e => ?_)⟩
      obtain ⟨o, ho1, ho2⟩ := hr g e.symm
      rcases ho.2 with ⟨h4, _⟩ | ⟨g', cap', cur, h4, h5, h6, h7⟩
      · cases h4
      · cases h4
        rw [h6] at ho1
        cases ho1
        cases ho2⟩

theorem OwnInts.set {W : World} {lo hi : Nat} {A : Option Addr} {cap : Nat} {zs : List Int} (h : OwnInts W lo hi A cap zs) (b j : Nat) (u : Value) (hb : b < lo ∨ hi ≤ b) : OwnInts (W.setCell ⟨b, j, none⟩ u) lo hi A cap zs :=
  ⟨by simpa using h.1, by
    rcases h.2 with h2 | ⟨g, e, h1, h2, ho⟩
    · exact .inl h2
    · exact .inr ⟨g, e, h1, h2, own_block ho ((grownBy_set W b j u).block g (Nat.lt_of_lt_of_le h2 h.1) (fun e => by simp at e; omega))⟩⟩
theorem OverSt.stored {w W : World} {P : Int} {k c : Int} {gv r0 : Value} {r1 : Bool} (h : OverSt w W P k c gv r0 r1) (v : Value) (b : Bool) :
    OverSt w ((W.setCell ⟨w.heap.size + 1 + 1 + 1, 0, none⟩ v).setCell ⟨w.heap.size + 1 + 1 + 1 + 1, 0, none⟩ (.bool b)) P k c gv v b := by
  have oth : ∀ (W : World) (a b : Addr) (u v : Value), W.cell? a = some v → a.block ≠ b.block → (W.setCell b u).cell? a = some v := fun W a b u v e hne => by
    rw [World.cell?_setCell_other _ _ _ _ (by intro e; exact hne (by rw [e]))]
    exact e
  constructor
  · exact oth _ _ _ _ _ (oth _ _ _ _ _ h.g0 (by simp; omega)) (by simp; omega)
  · exact oth _ _ _ _ _ (oth _ _ _ _ _ h.g1 (by simp; omega)) (by simp; omega)
  · exact oth _ _ _ _ _ (oth _ _ _ _ _ h.bk (by simp)) (by simp)
  · exact oth _ _ _ _ _ (oth _ _ _ _ _ h.bc (by simp)) (by simp)
  · exact oth _ _ _ _ _ (World.cell?_setCell_same _ _ _ h.c0) (by simp)
  · rw [World.frozen?_setCell, World.frozen?_setCell]; exact h.f0
  · exact World.cell?_setCell_same _ _ _ (oth _ _ _ _ _ h.c1 (by simp))
  · rw [World.frozen?_setCell, World.frozen?_setCell]; exact h.f1

theorem OverSt.start (w : World) (p k c : Int) (gv : Value) : Below w.heap.size w (((((w.alloc (.cells #[.int .i64 p, gv] 26)).alloc (.cells #[.int .i64 k] 3)).alloc (.cells #[.int .i64 c] 3)).alloc (.cells #[.slice none 0 0] 29)).alloc (.cells #[.bool false] 4)) ∧
    OverSt w (((((w.alloc (.cells #[.int .i64 p, gv] 26)).alloc (.cells #[.int .i64 k] 3)).alloc (.cells #[.int .i64 c] 3)).alloc (.cells #[.slice none 0 0] 29)).alloc (.cells #[.bool false] 4)) p k c gv (.slice none 0 0) false := by
  refine ⟨(((((Below.refl _ w).alloc (Nat.le_refl _) _).alloc (by simp) _).alloc (by simp; omega) _).alloc (by simp; omega) _).alloc (by simp; omega) _, ?_⟩
  have e0 := box_new w p gv 26
  have e1 := cell_new1 (w.alloc (.cells #[.int .i64 p, gv] 26)) (.int .i64 k) 3
  have e2 := cell_new1 ((w.alloc (.cells #[.int .i64 p, gv] 26)).alloc (.cells #[.int .i64 k] 3)) (.int .i64 c) 3
  have e3 := cell_new1 (((w.alloc (.cells #[.int .i64 p, gv] 26)).alloc (.cells #[.int .i64 k] 3)).alloc (.cells #[.int .i64 c] 3)) (.slice none 0 0) 29
  have e4 := cell_new1 ((((w.alloc (.cells #[.int .i64 p, gv] 26)).alloc (.cells #[.int .i64 k] 3)).alloc (.cells #[.int .i64 c] 3)).alloc (.cells #[.slice none 0 0] 29)) (.bool false) 4
  simp only [World.size_alloc] at e1 e2 e3 e4
  exact ⟨cell_al _ (cell_al _ (cell_al _ (cell_al _ e0.2.1))), cell_al _ (cell_al _ (cell_al _ (cell_al _ e0.2.2))), cell_al _ (cell_al _ (cell_al _ e1.1)), cell_al _ (cell_al _ e2.1), cell_al _ e3.1, froz_al _ e3.1 e3.2, e4.1, e4.2⟩

set_option maxHeartbeats 4000000 in
set_option maxRecDepth 100000 in
theorem implOver_yes (P N : Nat) (k c : Int) (l : List (Int × Int)) (A : Option Addr) (cap : Nat) (w : World) (hl : BarsAt w w.heap.size A l) (hG : isGB (P : Int) l = true) (hr : rangeB k c = true) (hP : P ≤ 8) (hN : N = 2 ^ P) (hn : l.length ≤ 24) (hE : okE P l) :
    Calls Try.prog 243 #[.agg #[.int .i64 (P : Int), .slice A l.length cap], .int .i64 k, .int .i64 c] w (IntsOB w (overL (P : Int) l k c) (overB (P : Int) l k c)) := by
  obtain ⟨w5, hw5⟩ : ∃ x, x = (((((w.alloc (.cells #[.int .i64 (P : Int), .slice A l.length cap] 26)).alloc (.cells #[.int .i64 k] 3)).alloc (.cells #[.int .i64 c] 3)).alloc (.cells #[.slice none 0 0] 29)).alloc (.cells #[.bool false] 4)) := ⟨_, rfl⟩
  have hst5 := OverSt.start w (P : Int) k c (.slice A l.length cap)
  rw [← hw5] at hst5
  have hB5 := hst5.1
  have HST5 := Lib.hid hst5.2
  have HB5 := Lib.hid hB5
  have HL5 := Lib.hid (hl.on hB5)
  have HISG : Calls Try.prog 130 #[.agg #[.int .i64 (P : Int), .slice A l.length cap]] w5 fun e w' => e = .returned (.bool true) ∧ Below w5.heap.size w5 w' := by
    have := implIsGraph (P : Int) l A cap w5 HL5.out (by omega)
    rw [hG] at this
    exact this
  have hrr : ∀ W, Calls Try.prog 108 #[.int .i64 k, .int .i64 c] W fun e w' => e = .returned (.bool true) ∧ W = w' := fun W => by
    have := implRange k c W
    rw [hr] at this
    exact this
  have hms := makeSets (P : Int) (.slice A l.length cap)
  refine (callsIn_wide (n := 3)).1 ?_
  refine callsIn_of_wp_marks Try.func243 rfl trivial ?_ rfl
  simp only [Try.ntmps243, List.size_toArray, List.length_cons, List.length_nil, Nat.reduceAdd, Nat.reduceSub, Array.replicate_succ, Array.replicate_zero, List.push_toArray, List.append_toArray, List.nil_append, List.cons_append]
  gi_wp2_with (first | (refine ⟨trivial, ?_⟩; gi_at_call 130; rw [← hw5]; refine (callsIn_wide.2 HISG).mono ?_; rintro e w6 ⟨rfl, hb⟩; have HB6 := Lib.hid (below_on HB5.out hb HB5.out.size); have HST6 := Lib.hid (HST5.out.kept hb); have HL6 := Lib.hid (HL5.out.on hb); obtain ⟨q0, q1, q2, q3, q4, q5, q6, q7⟩ := HST6.out; clear hb HISG) | (refine ⟨trivial, ?_⟩; gi_at_call 108; refine (callsIn_wide.2 (hrr _)).mono ?_; rintro e w7 ⟨rfl, rfl⟩; clear hrr) | (refine ⟨trivial, ?_⟩; gi_at_call 249; refine (callsIn_wide.2 (hms _)).mono ?_; rintro e w8 ⟨rfl, rfl⟩; clear hms))
  have hbx := box_new w6 (P : Int) (.slice A l.length cap) 26
  have hB8 := Lib.hid (HB6.out.trans ((new_below w6 (.cells #[.int .i64 (P : Int), .slice A l.length cap] 26)).mono HB6.out.size))
  have HST8 := Lib.hid (HST6.out.kept (new_below w6 (.cells #[.int .i64 (P : Int), .slice A l.length cap] 26)))
  have hsz8 : (w6.alloc (.cells #[.int .i64 (P : Int), .slice A l.length cap] 26)).heap.size = w6.heap.size + 1 := by simp
  clear q0 q1 q2 q3 q4 q5 q6 q7
  generalize (w6.alloc (.cells #[.int .i64 (P : Int), .slice A l.length cap] 26)) = w8 at *
  have hs8 := hB8.out.size
  refine wpIn_rangeFunc_ownF rfl (by omega) (gf := 254) (lb := #[.pointer (some ⟨w6.heap.size, 0, none⟩)]) rfl trivial (enters_of Try.func254 (by kernel_rfl) rfl)
    (sets_stops _ (by omega) P N w6.heap.size w8 hP hN hbx.2.1 hbx.1) (fun _ _ => trivial) (fun _ _ _ _ _ _ _ _ => trivial) (Below.refl _ _) (fun _ => rfl)
    (fun pre W => ((∀ x ∈ pre, badS l k c P x.1 = false) ∧ OverSt w W P k c (.slice A l.length cap) (.slice none 0 0) false) ∧ Below w.heap.size w W)
    (fun j pre W => (j = .ret ∧ ∃ (pre' : List (Fin N)) (m : Fin N) (hi : Nat) (A' : Option Addr) (c' : Nat), pre = pre' ++ [m] ∧ (∀ x ∈ pre', badS l k c P x.1 = false) ∧ badS l k c P m.1 = true ∧ OwnInts W w.heap.size hi A' c' (setL P m.1) ∧ OverSt w W P k c (.slice A l.length cap) (.slice A' (setL P m.1).length c') true) ∧ Below w.heap.size w W)
    (OwnFrom.and (Own.from (fun s A B row hs hg hr => ⟨hs.1, hs.2.own hg hr⟩) _) (ownFrom_below (Nat.le_refl _) hs8))
    (fun j => OwnFrom.and (Own.from (fun s A B row hs hg hr => by
      obtain ⟨hj, pre', m, hi, A', c', h1, h2, h3, h4, h5⟩ := hs
      exact ⟨hj, pre', m, hi, A', c', h1, h2, h3, h4.own hg hr, h5.own hg hr⟩) _) (ownFrom_below (Nat.le_refl _) hs8))
    ⟨⟨by simp, HST8.out⟩, hB8.out⟩
    (fun x => { tmps := #[.agg #[.int .i64 (P : Int), .slice A l.length cap], .int .i64 k, .int .i64 c, .pointer (some ⟨w.heap.size, 0, none⟩), .pointer (some ⟨w.heap.size + 1, 0, none⟩), .pointer (some ⟨w.heap.size + 1 + 1, 0, none⟩), .pointer (some ⟨w.heap.size + 1 + 1 + 1, 0, none⟩), .pointer (some ⟨w.heap.size + 1 + 1 + 1 + 1, 0, none⟩), .int .u64 (x.1 : Int), .agg #[.int .i64 (P : Int), .slice A l.length cap], .bool true, .bool false, .bool false, .int .i64 k, .int .i64 c, .bool true, .bool false, .bool false, .agg #[.int .i64 (P : Int), .slice A l.length cap], .func (.func 254) #[] #[.pointer (some ⟨w6.heap.size, 0, none⟩)], .int .u64 (x.1 : Int), undef, undef, undef, undef, undef, undef, undef, undef], defers := [] }) ?assign ?body ?done ?stop
  case assign =>
    intro l x W K hK
    gi_wp2
    exact hK
  case body =>
    rintro lp pre x W ⟨⟨hall, hst⟩, hB⟩ _
    have hx : x.1 < 2 ^ P := hN ▸ x.2
    have hx8 : x.1 < 256 := Nat.lt_of_lt_of_le hx (Nat.pow_le_pow_right (by decide) hP : 2 ^ P ≤ 2 ^ 8)
    have HSTW := Lib.hid hst
    have HBW := Lib.hid hB
    have HALL := Lib.hid hall
    have hI1 := implOverOne P x.1 k c l A cap W (hl.on hB) hn hP hx hE hr
    obtain ⟨q0, q1, q2, q3, q4, q5, q6, q7⟩ := hst
    clear hB hall
    rcases hbd : badS l k c P x.1 with _ | _
    · rw [hbd] at hI1
      gi_wp2_with (refine ⟨trivial, ?_⟩; gi_at_call 250; refine (CallsIn.inRound lp (callsIn_wide.2 hI1)).mono ?_; rintro e w9 ⟨rfl, hb⟩; have HB9 := Lib.hid hb; clear hb hI1)
      exact ⟨below_others HB9.out, trivial, ⟨fun y hy => (List.mem_append.1 hy).elim (HALL.out y) (fun e => by simp at e; rw [e]; exact hbd), HSTW.out.kept HB9.out⟩, HBW.out.trans (HB9.out.mono HBW.out.size)⟩
    · rw [hbd] at hI1
      have hI2 := fun W' => implList P x.1 (.slice A l.length cap) W' hP hx8
      gi_wp2_with (first | (refine ⟨trivial, ?_⟩; gi_at_call 250; refine (CallsIn.inRound lp (callsIn_wide.2 hI1)).mono ?_; rintro e w9 ⟨rfl, hb⟩; have HB9 := Lib.hid hb; have HST9 := Lib.hid (HSTW.out.kept hb); obtain ⟨t0, t1, t2, t3, t4, t5, t6, t7⟩ := HST9.out; clear hb hI1 q0 q1 q2 q3 q4 q5 q6 q7) | (refine ⟨trivial, ?_⟩; gi_at_call 251; refine (CallsIn.inRound lp (callsIn_wide.2 (hI2 _))).mono ?_; rintro e w10 ⟨A', c', rfl, ho, hb⟩; have HB10 := Lib.hid hb; have HST10 := Lib.hid (HST9.out.kept hb); have HO := Lib.hid ho; obtain ⟨u0, u1, u2, u3, u4, u5, u6, u7⟩ := HST10.out; clear hb hI2 ho t0 t1 t2 t3 t4 t5 t6 t7))
      have h9 := HB9.out.size
      have hlt : w.heap.size + 1 + 1 + 1 + 1 < W.heap.size := World.block_lt_of_cell? W _ HSTW.out.c1
      have hBW := HBW.out
      refine ⟨(below_others HB9.out).trans ((below_others HB10.out).trans ((KeepsOthers.setCell _ _ _).trans (KeepsOthers.setCell _ _ _))), ⟨rfl, pre, x, w10.heap.size, A', c', rfl, HALL.out, hbd, ?_, HST10.out.stored _ _⟩, ?_⟩
      · exact ((HO.out.set _ _ _ (.inl (by omega))).set _ _ _ (.inl (by omega))).widen (by have := hBW.size; omega) (Nat.le_refl _) (by simp)
      · exact ((hBW.trans (HB9.out.mono hBW.size)).trans (HB10.out.mono (Nat.le_trans hBW.size h9))).setCell (p := ⟨w.heap.size + 1 + 1 + 1, 0, none⟩) (by show w.heap.size ≤ w.heap.size + 1 + 1 + 1; omega) _ |>.setCell (p := ⟨w.heap.size + 1 + 1 + 1 + 1, 0, none⟩) (by show w.heap.size ≤ w.heap.size + 1 + 1 + 1 + 1; omega) _
  case done =>
    rintro D xs W hD rfl ⟨⟨hall, hst⟩, hB⟩ hK
    have HR := Lib.hid (over_none (P := P) (k := k) (c := c) (l := l) fun u hu => hall ⟨u, by omega⟩ (List.mem_finRange _))
    have HSTW := Lib.hid hst
    obtain ⟨q0, q1, q2, q3, q4, q5, q6, q7⟩ := hst
    clear hall
    gi_wp2
    have hS := HSTW.out.stored (.slice none 0 0) false
    have hK' := ((KeepsOthers.setCell W ⟨w.heap.size + 1 + 1 + 1, 0, none⟩ (.slice none 0 0)).trans (KeepsOthers.setCell _ ⟨w.heap.size + 1 + 1 + 1 + 1, 0, none⟩ (.bool false))).same D _ hK rfl
    refine ⟨by simp, .inl ⟨_, _, rfl, run_takeDeferred hK', ?_⟩⟩
    have hS2 := hS.own (grownBy_putObj' _ D (.deferred none)) (fun r e => by cases e; exact ⟨_, hK', rfl⟩)
    have s0 := hS2.c0
    have s1 := hS2.c1
    refine ⟨.tuple #[.slice none 0 0, .bool false], ?_, intsOB_nil ?_ HR.out⟩
    · simp [results, Try.f243, go_sem, s0, s1]
    · exact ((hB.setCell (p := ⟨w.heap.size + 1 + 1 + 1, 0, none⟩) (by show w.heap.size ≤ w.heap.size + 1 + 1 + 1; omega) _).setCell (p := ⟨w.heap.size + 1 + 1 + 1 + 1, 0, none⟩) (by show w.heap.size ≤ w.heap.size + 1 + 1 + 1 + 1; omega) _).trans (belowK_b (w := w) (Nat.le_refl _) _ D _ _ (by omega) hK' rfl rfl)
  case stop =>
    rintro D j pre W hD hpre ⟨⟨rfl, pre', m, hi, A', c', rfl, hall, hbad, hown, hst⟩, hB⟩ hK
    have HR := Lib.hid (over_some hG hr (fun i hi => hall _ (pre_last hpre i hi)) (hN ▸ m.2) hbad)
    have hS2 := hst.own (grownBy_putObj' _ D (.deferred none)) (fun r e => by cases e; exact ⟨_, hK, rfl⟩)
    have hO2 := hown.own (grownBy_putObj' _ D (.deferred none)) (fun r e => by cases e; exact ⟨_, hK, rfl⟩)
    gi_wp2
    refine ⟨by simp, .inl ⟨_, _, rfl, run_takeDeferred hK, ?_⟩⟩
    have s0 := hS2.c0
    have s1 := hS2.c1
    refine ⟨.tuple #[.slice A' (setL P m.1).length c', .bool true], ?_, ?_⟩
    · simp [results, Try.f243, go_sem, s0, s1]
    · rw [HR.out.1, HR.out.2]
      exact ⟨A', c', rfl, hO2.widen (Nat.le_refl _) hO2.1 (Nat.le_refl _), hB.trans (belowK_b (w := w) (Nat.le_refl _) W D _ _ (by omega) hK rfl rfl)⟩

set_option maxHeartbeats 4000000 in
set_option maxRecDepth 100000 in
theorem implOver (p k c : Int) (l : List (Int × Int)) (A : Option Addr) (cap : Nat) (w : World) (hl : BarsAt w w.heap.size A l) (hn : l.length ≤ 1048576) :
    Calls Try.prog 243 #[.agg #[.int .i64 p, .slice A l.length cap], .int .i64 k, .int .i64 c] w (IntsOB w (overL p l k c) (overB p l k c)) := by
  obtain ⟨w5, hw5⟩ : ∃ x, x = (((((w.alloc (.cells #[.int .i64 p, .slice A l.length cap] 26)).alloc (.cells #[.int .i64 k] 3)).alloc (.cells #[.int .i64 c] 3)).alloc (.cells #[.slice none 0 0] 29)).alloc (.cells #[.bool false] 4)) := ⟨_, rfl⟩
  have hst5 := OverSt.start w p k c (.slice A l.length cap)
  rw [← hw5] at hst5
  have HB5 := Lib.hid hst5.1
  have HST5 := Lib.hid hst5.2
  clear hst5
  have HISG := implIsGraph p l A cap w5 (hl.on HB5.out) hn
  have hrr := implRange k c
  rcases hg : isGB p l with _ | _
  · rw [hg] at HISG
    have HR := Lib.hid (over_no (k := k) (c := c) (.inl hg))
    clear hrr hl
    go_enter Try.func243, Try.ntmps243
    go_wp2_with (go_at_call 130; rw [← hw5]; refine HISG.mono ?_; rintro e w6 ⟨rfl, hb⟩; have HB6 := Lib.hid (below_on HB5.out hb HB5.out.size); have HST6 := Lib.hid (HST5.out.kept hb); obtain ⟨q0, q1, q2, q3, q4, q5, q6, q7⟩ := HST6.out; clear hb HISG)
    have hS := HST6.out.stored (.slice none 0 0) false
    have s0 := hS.c0
    have s1 := hS.c1
    refine bodyPost_ret (v := .tuple #[.slice none 0 0, .bool false]) ?_ rfl (intsOB_nil ((HB6.out.setCell (p := ⟨w.heap.size + 1 + 1 + 1, 0, none⟩) (by show w.heap.size ≤ w.heap.size + 1 + 1 + 1; omega) _).setCell (p := ⟨w.heap.size + 1 + 1 + 1 + 1, 0, none⟩) (by show w.heap.size ≤ w.heap.size + 1 + 1 + 1 + 1; omega) _) HR.out)
    simp [results, Try.f243, go_sem, s0, s1]
  · rw [hg] at HISG
    rcases hq : rangeB k c with _ | _
    · rw [hq] at hrr
      have HR := Lib.hid (over_no (p := p) (l := l) (.inr hq))
      clear hl
      go_enter Try.func243, Try.ntmps243
      go_wp2_with (first | (go_at_call 130; rw [← hw5]; refine HISG.mono ?_; rintro e w6 ⟨rfl, hb⟩; have HB6 := Lib.hid (below_on HB5.out hb HB5.out.size); have HST6 := Lib.hid (HST5.out.kept hb); obtain ⟨q0, q1, q2, q3, q4, q5, q6, q7⟩ := HST6.out; clear hb HISG) | (go_at_call 108; refine (hrr _).mono ?_; rintro e w7 ⟨rfl, rfl⟩; clear hrr))
      have hS := HST6.out.stored (.slice none 0 0) false
      have s0 := hS.c0
      have s1 := hS.c1
      refine bodyPost_ret (v := .tuple #[.slice none 0 0, .bool false]) ?_ rfl (intsOB_nil ((HB6.out.setCell (p := ⟨w.heap.size + 1 + 1 + 1, 0, none⟩) (by show w.heap.size ≤ w.heap.size + 1 + 1 + 1; omega) _).setCell (p := ⟨w.heap.size + 1 + 1 + 1 + 1, 0, none⟩) (by show w.heap.size ≤ w.heap.size + 1 + 1 + 1 + 1; omega) _) HR.out)
      simp [results, Try.f243, go_sem, s0, s1]
    · have hG : IsG p l := Classical.byContradiction fun g => by rw [isGB_no g] at hg; cases hg
      obtain ⟨P, rfl⟩ : ∃ P : Nat, p = (P : Int) := ⟨p.toNat, by have := hG.1; omega⟩
      exact implOver_yes P (2 ^ P) k c l A cap w hl hg hq (by have := hG.1; omega) rfl hG.2.1 fun i hi => isG_bar hG i hi
end Go.Proofs.Ytdkpmaahinbhlaa
