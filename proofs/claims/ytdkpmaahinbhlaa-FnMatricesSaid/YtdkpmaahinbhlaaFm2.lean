/- Several texts in one, in the order in which they build on each other: what stands on the way to the laws; each names its own matter. No condition. -/
import Derived.Test.YtdkpmaahinbhlaaFm1
import Derived.Deep.RegionLaw
import Derived.Lib.MinMax
import Derived.Deep.QuietTactic
import Derived.BigQuiet
import Derived.Deep.RegionHeld3
import Derived.OrdersHeld
import Derived.StillTailTactics
/- Rows of rows of the call's own while they grow. No condition. -/
namespace Go.Proofs.Ytdkpmaahinbhlaa
open Go.RowKit

/-- The rows rs of the call's own: their row lies in a block from lo to hi, each of them in a range of its own; all lie from B to T. -/
structure RowsG (W : World) (B T lo hi : Nat) (A : Option Addr) (cap : Nat) (rs : List (List Int)) : Prop where
  top : T ≤ W.heap.size
  out : B ≤ lo ∧ lo ≤ T ∧ hi ≤ T
  rows : ∃ (zs : List Value) (r : Nat → Nat × Nat) (S : Nat → Option Addr × Nat), zs.length = rs.length ∧ OwnS W lo hi A cap zs ∧ (∀ j k, j < k → k < rs.length → Dis (r j) (r k)) ∧
    ∀ k, k < rs.length → zs.getD k (.slice none 0 0) = .slice (S k).1 (rs.getD k []).length (S k).2 ∧ OwnInts W (r k).1 (r k).2 (S k).1 (S k).2 (rs.getD k []) ∧ B ≤ (r k).1 ∧ (r k).2 ≤ T ∧ Dis (lo, hi) (r k)
theorem RowsG.below {W W' : World} {B T lo hi : Nat} {A : Option Addr} {cap : Nat} {rs : List (List Int)} (h : RowsG W B T lo hi A cap rs) (hb : Below W.heap.size W W') : RowsG W' B T lo hi A cap rs := by
  obtain ⟨ht, ho, zs, r, S, h1, h2, h3, h4⟩ := h
  refine ⟨Nat.le_trans ht hb.size, ho, zs, r, S, h1, h2.within (within_of hb) (.inr (Nat.zero_le _)), h3, fun k hk => ?_⟩
  obtain ⟨c1, c2, c3, c4, c5⟩ := h4 k hk
  exact ⟨c1, c2.within (within_of hb) (.inr (Nat.zero_le _)), c3, c4, c5⟩
/-- What lies below B may change. -/
theorem RowsG.far {W W' : World} {B T lo hi : Nat} {A : Option Addr} {cap : Nat} {rs : List (List Int)} (h : RowsG W B T lo hi A cap rs) {a b : Nat} (hw : Within a b W W') (hab : b ≤ B) : RowsG W' B T lo hi A cap rs := by
  obtain ⟨ht, ho, zs, r, S, h1, h2, h3, h4⟩ := h
  refine ⟨Nat.le_trans ht hw.size, ho, zs, r, S, h1, h2.within hw (.inr (by omega)), h3, fun k hk => ?_⟩
  obtain ⟨c1, c2, c3, c4, c5⟩ := h4 k hk
  exact ⟨c1, c2.within hw (.inr (by omega)), c3, c4, c5⟩
theorem RowsG.nil (W : World) : RowsG W W.heap.size W.heap.size W.heap.size W.heap.size none 0 [] :=
  ⟨Nat.le_refl _, ⟨Nat.le_refl _, Nat.le_refl _, Nat.le_refl _⟩, [], fun _ => (0, 0), fun _ => (none, 0), rfl, ⟨Nat.le_refl _, .inl ⟨rfl, rfl, rfl⟩⟩, fun _ _ _ hk => absurd hk (by simp), fun _ hk => absurd hk (by simp)⟩
theorem RowsG.made (W : World) : RowsG (W.alloc (.cells #[] 29)) W.heap.size (W.heap.size + 1) W.heap.size (W.heap.size + 1) (some ⟨W.heap.size, 0, none⟩) 0 [] := by
  have hm := World.ownsRow_made (base := W.heap.size) (e := 29) (size := 1) W #[] 0 (Nat.le_refl _) (by unfold maxLen; omega) (by simp)
  exact ⟨by simp, ⟨Nat.le_refl _, by omega, Nat.le_refl _⟩, [], fun _ => (0, 0), fun _ => (none, 0), rfl, ⟨by simp, .inr ⟨W.heap.size, rfl, Nat.le_refl _, Nat.lt_succ_self _, hm⟩⟩, fun _ _ _ hk => absurd hk (by simp), fun _ hk => absurd hk (by simp)⟩
theorem getD_old {α : Type} {rs : List α} {x z : α} {k : Nat} (h : k < rs.length) : (rs ++ [x]).getD k z = rs.getD k z := by
  simp [List.getD, List.getElem?_append_left h]
theorem getD_new {α : Type} {rs : List α} {x z : α} : (rs ++ [x]).getD rs.length z = x := by
  simp [List.getD]
/-- The values zs are the rows rs, each in a range of its own. -/
def RowsP (W : World) (B T lo hi : Nat) (zs : List Value) (rs : List (List Int)) : Prop :=
  ∃ (r : Nat → Nat × Nat) (S : Nat → Option Addr × Nat), (∀ j k, j < k → k < rs.length → Dis (r j) (r k)) ∧ ∀ k, k < rs.length → zs.getD k (.slice none 0 0) = .slice (S k).1 (rs.getD k []).length (S k).2 ∧ OwnInts W (r k).1 (r k).2 (S k).1 (S k).2 (rs.getD k []) ∧ B ≤ (r k).1 ∧ (r k).2 ≤ T ∧ Dis (lo, hi) (r k)
/-- One row more, whose ints lie from q.1 to q.2. -/
theorem RowsG.push {W W' : World} {B T lo hi lo' hi' : Nat} {A A' : Option Addr} {cap c' : Nat} {rs : List (List Int)} (h : RowsG W B T lo hi A cap rs) {q : Nat × Nat} {Ax : Option Addr} {cx : Nat} {x : List Int} (hx : OwnInts W q.1 q.2 Ax cx x) (hq : T ≤ q.1)
    {zs : List Value} (_hz : zs.length = rs.length) (hzs : RowsP W B T lo hi zs rs)
    (ho : OwnS W' lo' hi' A' c' (zs ++ [.slice Ax x.length cx])) (hd : (lo' = lo ∧ hi' = hi) ∨ (W.heap.size ≤ lo' ∧ lo' ≤ W'.heap.size ∧ hi' ≤ W'.heap.size)) (hw : Within lo hi W W') : RowsG W' B W'.heap.size lo' hi' A' c' (rs ++ [x]) := by
  obtain ⟨r, S, h3, h4⟩ := hzs
  have ht := h.top
  have hoB := h.out
  have hs := hw.size
  have hx1 := hx.1
  refine ⟨Nat.le_refl _, by omega, zs ++ [.slice Ax x.length cx], fun k => if k < rs.length then r k else q, fun k => if k < rs.length then S k else (Ax, cx), by simp [_hz], ho, fun j k hjk hk => ?_, fun k hk => ?_⟩
  · have hk' : k < rs.length + 1 := by simpa using hk
    by_cases e : k < rs.length
    · have e' : j < rs.length := by omega
      simp only [e, e', if_true]
      exact h3 j k hjk e
    · have e' : j < rs.length := by omega
      simp only [e, e', if_true, if_false]
      have := (h4 j e').2.2.2.1
      exact .inl (by omega)
  · have hk' : k < rs.length + 1 := by simpa using hk
    by_cases e : k < rs.length
    · simp only [e, if_true]
      obtain ⟨c1, c2, c3, c4, c5⟩ := h4 k e
      rw [getD_old (by omega), getD_old e]
      refine ⟨c1, c2.within hw ?_, c3, by omega, ?_⟩
      · unfold Dis at c5
        omega
      · unfold Dis at c5 ⊢
        dsimp only at c5 ⊢
        omega
    · obtain rfl : k = rs.length := by omega
      simp only [Nat.lt_irrefl, if_false]
      rw [← _hz, getD_new, _hz, getD_new]
      refine ⟨rfl, hx.within hw (by omega), by omega, by omega, ?_⟩
      unfold Dis
      dsimp only
      omega
theorem RowsG.cells {W : World} {B T lo hi : Nat} {A : Option Addr} {cap : Nat} {rs : List (List Int)} (h : RowsG W B T lo hi A cap rs) : RowsOwn W B T A rs := by
  obtain ⟨ht, hoB, zs, r, S, h1, h2, h3, h4⟩ := h
  refine ⟨ht, fun hl => ?_⟩
  rcases h2.2 with ⟨_, _, e⟩ | ⟨g, rfl, g1, g2, hown⟩
  · rw [e] at h1
    simp at h1
    omega
  · refine ⟨g, r, S, rfl, by omega, by omega, h3, fun k hk => ?_⟩
    obtain ⟨c1, c2, c3, c4, c5⟩ := h4 k hk
    refine ⟨?_, c2, c3, c4, ?_⟩
    · rw [← c1, World.ownsRow.cellAt hown k (by omega)]
      simp [List.getD, List.getElem?_eq_getElem (show k < zs.length by omega)]
    · unfold Dis at c5
      dsimp only at c5
      omega
end Go.Proofs.Ytdkpmaahinbhlaa
/- An append of one number, in a region that draws its order. No condition. -/
namespace Go.Proofs.Ytdkpmaahinbhlaa
open Go.RowKit

/-- An append of one number, in a region that draws its order. -/
theorem step_pushZ (w : World) {ops : Array Oper} {o : Oper} {a : Act} {K : Act → World → Prop} {Q : Exit → Act → World → Prop} {E : Prop} (hgd : o.guard = none) (s x : Operand)
    (ho : o.op = .call { callee := .builtin .append, args := #[s, x], argTypes := #[29, 29] }) (lo hi : Nat) (A : Option Addr) (cap : Nat) (zs : List Int) (y : Int) (hs : a.eval s = .slice A zs.length cap) (hr : OwnR w lo hi A cap zs)
    (tb : TypeId) (hx : a.eval x = .slice (some ⟨w.heap.size, 0, none⟩) 1 1) (hn : zs.length ≤ 1048576) (hlo : lo ≤ w.heap.size)
    (h : ∀ A' c' w' lo' hi', OwnR w' lo' hi' A' c' (zs ++ [y]) → ((lo' = lo ∧ hi' = hi) ∨ (w.heap.size ≤ lo' ∧ lo' ≤ w'.heap.size ∧ hi' ≤ w'.heap.size)) → Within lo hi w w' → K (a.put o.dst (.slice A' (zs.length + 1) c')) w') : if Region.wanted o (yielded ops a.tmps) = true then Oper.wp Try.prog o a (w.alloc (.cells #[.int .i64 y] tb)) K Q else E := by
  have hwt : Region.wanted o (yielded ops a.tmps) = true := by simp [Region.wanted, hgd]
  rw [if_pos hwt]
  have hlen : (zs ++ [y]).length = zs.length + 1 := by simp
  have hcells : intCells (zs ++ [y]) = intCells zs ++ [.int .i64 y] := by simp [intCells]
  obtain ⟨i, hi0, hz0, hz1, hz2⟩ := info_parts infoInt
  obtain ⟨v', w', hrun, hown, hg, _, hat⟩ := run_append_own_at (P := Try.prog) (w.alloc (.cells #[.int .i64 y] tb)) lo 29 o.type 3 i (.int .i64 0) 1 8 Try.underlying29 hi0 hz0 hz1 hz2 rfl (by decide) _ zs.length (intCells zs) (hr.row.alloc _) ⟨w.heap.size, 0, none⟩ 1 1 [.int .i64 y] rfl (cell_one_new w _ _) (by simp [Value.oneCell']) (by unfold maxLen; omega) (by omega) (by simp; omega)
  unfold Oper.wp execOp
  simp only [ho, resolve, invoke, builtin, Sem.run_bind, Sem.run_pure, Result.andThen_ok, List.map_toArray, List.map_cons, List.map_nil, hs, hx, hrun]
  obtain ⟨A', c', rfl⟩ := own_shape hown
  rw [← hcells, ← hlen] at hown
  rw [← hlen] at hat ⊢
  have hg := (World.grownBy_alloc w (.cells #[.int .i64 y] tb) (Value.slice A zs.length cap).ownBlock).trans_ hg
  have hw : Within lo hi w w' := ⟨hg.os, hg.tape, hg.output, hg.size, fun k hk hd => hg.block k hk fun e => by
    rcases hr.2 with ⟨rfl, rfl, rfl⟩ | ⟨g, rfl, g1, g2, _⟩
    · cases e
    · have : k = g := by simpa [Value.ownBlock] using e
      omega⟩
  rcases hown.2 with ⟨_, e0⟩ | ⟨g', cap', cur, e1, _⟩
  · rw [hlen] at e0; omega
  · injection e1 with q1 q2 q3
    subst q1
    have hlt := hown.lt g' rfl
    have hat : (Value.slice (some ⟨g', 0, none⟩) (zs ++ [y]).length c').ownBlock = (Value.slice A zs.length cap).ownBlock ∨ (Value.slice (some ⟨g', 0, none⟩) (zs ++ [y]).length c').ownBlock = some (w.heap.size + 1) := by simpa using hat
    rcases hat with e | e
    · rcases hr.2 with ⟨rfl, rfl, rfl⟩ | ⟨g, rfl, g1, g2, _⟩
      · cases e
      · have : g' = g := by simpa [Value.ownBlock] using e
        subst this
        have := h _ c' w' lo hi ⟨Nat.le_trans hr.1 hg.size, .inr ⟨g', rfl, g1, g2, hown⟩⟩ (.inl ⟨rfl, rfl⟩) hw
        rwa [← hlen] at this
    · have : g' = w.heap.size + 1 := by simpa [Value.ownBlock] using e
      have := h _ c' w' g' (g' + 1) ⟨hlt.2, .inr ⟨g', rfl, Nat.le_refl _, by omega, own_rebase hown (Nat.le_refl _)⟩⟩ (.inr ⟨by omega, by omega, hlt.2⟩) hw
      rwa [← hlen] at this
end Go.Proofs.Ytdkpmaahinbhlaa
/- What spec.l9Vector draws: a row of small numbers of the call's own. No condition. -/
namespace Go.Proofs.Ytdkpmaahinbhlaa
open Go.RowKit

theorem gb_within {w a b : World} {g lo hi : Nat} (h : w.grownBy a (some g)) (hw : Within lo hi a b) (hlo : w.heap.size ≤ lo) : w.grownBy b (some g) :=
  ⟨hw.os.trans h.os, hw.tape.trans h.tape, hw.output.trans h.output, Nat.le_trans h.size hw.size, fun k hk hr => (hw.block k (Nat.lt_of_lt_of_le hk h.size) (.inl (by omega))).trans (h.block k hk hr)⟩
theorem gb_below {w a b : World} {g : Nat} (h : w.grownBy a (some g)) (hb : Below a.heap.size a b) : w.grownBy b (some g) := grown_then_below' h hb
where grown_then_below' {w a b : World} {g : Nat} (h : w.grownBy a (some g)) (hb : Below a.heap.size a b) : w.grownBy b (some g) :=
  ⟨hb.os.trans h.os, hb.tape.trans h.tape, hb.output.trans h.output, Nat.le_trans h.size hb.size, fun k hk hr => (hb.block k (Nat.lt_of_lt_of_le hk h.size)).trans (h.block k hk hr)⟩
theorem wi_gb {a b : World} {g : Nat} (h : a.grownBy b (some g)) : Within g (g + 1) a b :=
  ⟨h.os, h.tape, h.output, h.size, fun k hk hd => h.block k hk (fun e => by injection e with e; omega)⟩
theorem cur_within {a b : World} {B g lo hi : Nat} {A : Option Addr} {len cap : Nat} (h : CurIs a B g A len cap) (hw : Within lo hi a b) (hg : g < lo ∨ hi ≤ g) : CurIs b B g A len cap := by
  have hlt := h.lt
  obtain ⟨hB, i, hh, hc, h1⟩ := h
  exact ⟨hB, i, hh, (hw.block g hlt hg).trans hc, h1⟩
theorem gb_refl (w : World) (g : Nat) : w.grownBy w (some g) := ⟨rfl, rfl, rfl, Nat.le_refl _, fun _ _ _ => rfl⟩
/-- Numbers from -6 on to 6. -/
def SmV (v : List Int) : Prop := ∀ x ∈ v, -6 ≤ x ∧ x ≤ 6
theorem SmV_nil : SmV [] := fun x hx => by cases hx
theorem SmV.snoc {v : List Int} (h : SmV v) {x : Int} (hx : -6 ≤ x ∧ x ≤ 6) : SmV (v ++ [x]) := fun y hy => by
  rcases List.mem_append.1 hy with k | k
  · exact h y k
  · rw [List.mem_singleton.1 k]; exact hx

set_option maxHeartbeats 2000000 in
set_option maxRecDepth 100000 in
theorem vec_c (n : Nat) (w : World) (B g : Nat) (A : Option Addr) (len cap : Nat) (zs : Nat → Int) (hc : CodeIs w B A len zs) (hu : CurIs w B g A len cap) (hlen : len ≤ 140737488351232) (hBw : B ≤ w.heap.size) (hn : n ≤ 1000) :
    Calls Try.prog 160 #[.pointer (some ⟨g, 0, none⟩), .int .i64 (n : Int)] w fun e w' => ∃ A' c' v lo hi, e = .returned (.slice A' v.length c') ∧ v.length = n ∧ SmV v ∧ OwnR w' lo hi A' c' v ∧ w.heap.size ≤ lo ∧ CurIs w' B g A len cap ∧ w.grownBy w' (some g) := by
  have HC := Lib.hid (fun (W : World) (h : w.grownBy W (some g)) => hc.kept (grown_cur hu.1 hBw h))
  have hgw := hu.lt
  have hBg := hu.1
  have hal := new_below w (.cells #[] 3)
  have HOE := Lib.hid (ownR_empty w)
  have HU := Lib.hid (hu.below hal hgw)
  have HG := Lib.hid (gb_below (gb_refl w g) hal)
  have HSZ := Lib.hid (show (w.alloc (.cells #[] 3)).heap.size = w.heap.size + 1 by simp)
  clear hc hu hal
  go_enter Try.func160, Try.ntmps160
  go_wp2_with fail
  generalize w.alloc (.cells #[] 3) = w1 at *
  go_loopw [5, 6] (fun o i wr => ∃ (k : Nat) (v : List Int) (A' : Option Addr) (c' lo hi : Nat), k ≤ n ∧ i = .int .i64 k ∧ o = .slice A' v.length c' ∧ v.length = k ∧ SmV v ∧ OwnR wr lo hi A' c' v ∧ w.heap.size ≤ lo ∧ lo ≤ wr.heap.size ∧ CurIs wr B g A len cap ∧ w.grownBy wr (some g)) (fun _ i _ => n - (intOf i).toNat)
  case atStart => exact ⟨0, [], _, _, _, _, Nat.zero_le _, rfl, rfl, rfl, SmV_nil, HOE.out, Nat.le_refl _, by have := HSZ.out; omega, HU.out, HG.out⟩
  case round =>
    clear HOE HU HG
    obtain ⟨k, v, A2, c2, lo, hi, hk, rfl, rfl, hvl, hsm, ho, hlo, hlt, hu, hg⟩ := hrel
    have HVL := Lib.hid hvl
    have hvk : v.length ≤ 1000 := by omega
    clear hvl
    have HO := Lib.hid ho
    have HU := Lib.hid hu
    have HG := Lib.hid hg
    have HSM := Lib.hid hsm
    clear ho hu hg hsm
    by_cases hkn : k < n
    · have hki : (k : Int) < (n : Int) := by omega
      have hsz := HG.out.size
      have HD := Lib.hid (below_any 13 wr B g A len cap zs (HC.out _ HG.out) HU.out hlen (by omega) (by omega))
      go_wp2_with fail
      refine HD.out.mono ?_
      rintro e w3 ⟨x, ⟨hx0, hx1⟩, rfl, hu3, hg3⟩
      have HU3 := Lib.hid hu3
      have HG3 := Lib.hid (HG.out.trans_ hg3)
      have HO3 := Lib.hid (HO.out.within (wi_gb hg3) (.inr (by omega)))
      have hs3 := hg3.size
      have HX := Lib.hid (show -6 ≤ x - 6 ∧ x - 6 ≤ 6 by omega)
      clear hu3 hg3
      go_wp2_with (at_builtin; refine wpList_pushR _ rfl _ _ rfl lo hi A2 c2 v (x - 6) rfl HO3.out _ (by first | rfl | (simp only [World.size_setCell]; rfl)) (by omega) (by omega) ?_; intro A6 c6 w6 lo6 hi6 hr6 hor6 hw6; have HR6 := Lib.hid hr6; have HOR6 := Lib.hid hor6; have HW6 := Lib.hid hw6; clear hr6 hor6 hw6)
      have HU6 := Lib.hid (cur_within HU3.out HW6.out (.inl (by omega)))
      have HG6 := Lib.hid (gb_within HG3.out HW6.out hlo)
      have hs6 := HW6.out.size
      go_roundw
      case rel => exact ⟨k + 1, v ++ [x - 6], A6, c6, lo6, hi6, by omega, by go_num, by rw [List.length_append]; rfl, by rw [List.length_append, HVL.out]; rfl, HSM.out.snoc HX.out, HR6.out, by have := HOR6.out; omega, by have := HOR6.out; omega, HU6.out, HG6.out⟩
      case measure => simp [intOf]; omega
    · obtain rfl : k = n := by omega
      go_wp2_with fail
      go_ret
      exact ⟨A2, c2, v, lo, hi, rfl, HVL.out, HSM.out, HO.out, hlo, HU.out, HG.out⟩
end Go.Proofs.Ytdkpmaahinbhlaa
/- Forms on n coordinates (trees of numbers), their products with vectors and what vectors take out of them, their lengths; and the elimination that divides by the last pivot: all its divisions are exact, and its numbers are minors, no greater than the lengths of the rows allow (Hadamard's bound). Words on numbers. No condition. -/
namespace Go.Proofs.Ytdkpmaahinbhlaa

/-- Forms on n coordinates: a tree of depth n. -/
def Form : Nat → Type
  | 0 => Int
  | n + 1 => Form n × Form n
/-- x times a form and y times another. -/
def lin (x : Int) : (n : Nat) → Form n → Int → Form n → Form n
  | 0, a, y, b => (x * (show Int from a) + y * (show Int from b) : Int)
  | n + 1, (a, b), y, (c, d) => (lin x n a y c, lin x n b y d)
def oneW : (n : Nat) → Form n
  | 0 => (1 : Int)
  | n + 1 => (oneW n, lin 0 n (oneW n) 0 (oneW n))
/-- The coefficient at a path. -/
def co : (n : Nat) → List Bool → Form n → Int
  | 0, _, a => a
  | _ + 1, [], _ => 0
  | n + 1, false :: s, (a, _) => co n s a
  | n + 1, true :: s, (_, b) => co n s b
def wed (v : Nat → Int) : (n : Nat) → Form n → Form n
  | 0, _ => (0 : Int)
  | n + 1, (a, b) => (wed v n a, lin (v n) n a (-1) (wed v n b))
def ctr (v : Nat → Int) : (n : Nat) → Form n → Form n
  | 0, _ => (0 : Int)
  | n + 1, (a, b) => (lin 1 n (ctr v n a) (v n) b, lin (-1) n (ctr v n b) 0 b)
def dotW : (n : Nat) → Form n → Form n → Int
  | 0, a, b => (show Int from a) * (show Int from b)
  | n + 1, (a, b), (c, d) => dotW n a c + dotW n b d
def nrm (n : Nat) (a : Form n) : Int := dotW n a a
def dotV (u v : Nat → Int) : Nat → Int
  | 0 => 0
  | n + 1 => dotV u v n + u n * v n
theorem sq_pos (x : Int) : 0 ≤ x * x := by
  rcases Int.le_total 0 x with h | h
  · exact Int.mul_nonneg h h
  · exact Int.mul_nonneg_of_nonpos_of_nonpos h h
theorem co_lin (x y : Int) : ∀ (n : Nat) (s : List Bool) (a b : Form n), co n s (lin x n a y b) = x * co n s a + y * co n s b := by
  intro n
  induction n with
  | zero => intro s a b; rfl
  | succ n ih =>
    intro s a b
    obtain ⟨a1, a2⟩ := a; obtain ⟨b1, b2⟩ := b
    match s with
    | [] => simp [co]
    | false :: s => exact ih s a1 b1
    | true :: s => exact ih s a2 b2
theorem co_ext : ∀ (n : Nat) (a b : Form n), (∀ s, co n s a = co n s b) → a = b := by
  intro n
  induction n with
  | zero => intro a b h; exact h []
  | succ n ih =>
    intro a b h
    obtain ⟨a1, a2⟩ := a; obtain ⟨b1, b2⟩ := b
    have h1 := ih a1 b1 fun s => h (false :: s)
    have h2 := ih a2 b2 fun s => h (true :: s)
    rw [h1, h2]
theorem lin_cancel {x : Int} (hx : x ≠ 0) {n : Nat} {a b : Form n} (h : lin x n a 0 a = lin x n b 0 b) : a = b := by
  apply co_ext
  intro s
  have := congrArg (co n s) h
  rw [co_lin, co_lin] at this
  exact Int.eq_of_mul_eq_mul_left hx (by omega)
theorem wed_lin (v : Nat → Int) (x y : Int) : ∀ (n : Nat) (a b : Form n), wed v n (lin x n a y b) = lin x n (wed v n a) y (wed v n b) := by
  intro n
  induction n with
  | zero => intro a b; show (0 : Int) = x * 0 + y * 0; omega
  | succ n ih =>
    intro a b
    obtain ⟨a1, a2⟩ := a; obtain ⟨b1, b2⟩ := b
    show (wed v n (lin x n a1 y b1), lin (v n) n (lin x n a1 y b1) (-1) (wed v n (lin x n a2 y b2))) = (lin x n (wed v n a1) y (wed v n b1), lin x n (lin (v n) n a1 (-1) (wed v n a2)) y (lin (v n) n b1 (-1) (wed v n b2)))
    rw [ih, ih]
    congr 1
    apply co_ext; intro s; simp only [co_lin]; grind
theorem ctr_lin (v : Nat → Int) (x y : Int) : ∀ (n : Nat) (a b : Form n), ctr v n (lin x n a y b) = lin x n (ctr v n a) y (ctr v n b) := by
  intro n
  induction n with
  | zero => intro a b; show (0 : Int) = x * 0 + y * 0; omega
  | succ n ih =>
    intro a b
    obtain ⟨a1, a2⟩ := a; obtain ⟨b1, b2⟩ := b
    show (lin 1 n (ctr v n (lin x n a1 y b1)) (v n) (lin x n a2 y b2), lin (-1) n (ctr v n (lin x n a2 y b2)) 0 (lin x n a2 y b2)) = (lin x n (lin 1 n (ctr v n a1) (v n) a2) y (lin 1 n (ctr v n b1) (v n) b2), lin x n (lin (-1) n (ctr v n a2) 0 a2) y (lin (-1) n (ctr v n b2) 0 b2))
    rw [ih, ih]
    congr 1
    · apply co_ext; intro s; simp only [co_lin]; grind
    · apply co_ext; intro s; simp only [co_lin]; grind
theorem wed_vec (u v : Nat → Int) (x y : Int) : ∀ (n : Nat) (a : Form n), wed (fun j => x * u j + y * v j) n a = lin x n (wed u n a) y (wed v n a) := by
  intro n
  induction n with
  | zero => intro a; show (0 : Int) = x * 0 + y * 0; omega
  | succ n ih =>
    intro a
    obtain ⟨a1, a2⟩ := a
    show (wed _ n a1, lin _ n a1 (-1) (wed _ n a2)) = (lin x n (wed u n a1) y (wed v n a1), lin x n (lin (u n) n a1 (-1) (wed u n a2)) y (lin (v n) n a1 (-1) (wed v n a2)))
    rw [ih, ih]
    congr 1
    apply co_ext; intro s; simp only [co_lin]; grind
theorem wed_congr {u v : Nat → Int} : ∀ (n : Nat) (a : Form n), (∀ j, j < n → u j = v j) → wed u n a = wed v n a := by
  intro n
  induction n with
  | zero => intro a _; rfl
  | succ n ih =>
    intro a h
    obtain ⟨a1, a2⟩ := a
    show (wed u n a1, lin (u n) n a1 (-1) (wed u n a2)) = (wed v n a1, lin (v n) n a1 (-1) (wed v n a2))
    rw [ih a1 fun j hj => h j (by omega), ih a2 fun j hj => h j (by omega), h n (by omega)]
/-- What is taken out of a product. -/
theorem ctr_wed (u v : Nat → Int) : ∀ (n : Nat) (a : Form n), ctr v n (wed u n a) = lin (dotV u v n) n a (-1) (wed u n (ctr v n a)) := by
  intro n
  induction n with
  | zero => intro a; show (0 : Int) = 0 * (show Int from a) + -1 * 0; omega
  | succ n ih =>
    intro a
    obtain ⟨a1, a2⟩ := a
    show (lin 1 n (ctr v n (wed u n a1)) (v n) (lin (u n) n a1 (-1) (wed u n a2)), lin (-1) n (ctr v n (lin (u n) n a1 (-1) (wed u n a2))) 0 (lin (u n) n a1 (-1) (wed u n a2)))
      = (lin (dotV u v n + u n * v n) n a1 (-1) (wed u n (lin 1 n (ctr v n a1) (v n) a2)), lin (dotV u v n + u n * v n) n a2 (-1) (lin (u n) n (lin 1 n (ctr v n a1) (v n) a2) (-1) (wed u n (lin (-1) n (ctr v n a2) 0 a2))))
    rw [ctr_lin, ih, ih, wed_lin, wed_lin]
    congr 1
    · apply co_ext; intro s; simp only [co_lin]; grind
    · apply co_ext; intro s; simp only [co_lin]; grind
theorem wed_wed (u v : Nat → Int) : ∀ (n : Nat) (a : Form n), wed u n (wed v n a) = lin (-1) n (wed v n (wed u n a)) 0 a := by
  intro n
  induction n with
  | zero => intro a; show (0 : Int) = -1 * 0 + 0 * (show Int from a); omega
  | succ n ih =>
    intro a
    obtain ⟨a1, a2⟩ := a
    show (wed u n (wed v n a1), lin (u n) n (wed v n a1) (-1) (wed u n (lin (v n) n a1 (-1) (wed v n a2)))) = (lin (-1) n (wed v n (wed u n a1)) 0 a1, lin (-1) n (lin (v n) n (wed u n a1) (-1) (wed v n (lin (u n) n a1 (-1) (wed u n a2)))) 0 a2)
    rw [wed_lin, wed_lin, ih a1, ih a2]
    congr 1
    apply co_ext; intro s; simp only [co_lin]; grind
theorem dotW_lin (x y : Int) : ∀ (n : Nat) (a b c : Form n), dotW n (lin x n a y b) c = x * dotW n a c + y * dotW n b c := by
  intro n
  induction n with
  | zero => intro a b c; exact Int.add_mul .. |>.trans (by rw [Int.mul_assoc, Int.mul_assoc]; rfl)
  | succ n ih =>
    intro a b c
    obtain ⟨a1, a2⟩ := a; obtain ⟨b1, b2⟩ := b; obtain ⟨c1, c2⟩ := c
    show dotW n (lin x n a1 y b1) c1 + dotW n (lin x n a2 y b2) c2 = x * (dotW n a1 c1 + dotW n a2 c2) + y * (dotW n b1 c1 + dotW n b2 c2)
    rw [ih, ih]; grind
theorem dotW_comm : ∀ (n : Nat) (a b : Form n), dotW n a b = dotW n b a := by
  intro n
  induction n with
  | zero => intro a b; exact Int.mul_comm ..
  | succ n ih =>
    intro a b
    obtain ⟨a1, a2⟩ := a; obtain ⟨b1, b2⟩ := b
    show dotW n a1 b1 + dotW n a2 b2 = dotW n b1 a1 + dotW n b2 a2
    rw [ih, ih a2]
theorem nrm_pos : ∀ (n : Nat) (a : Form n), 0 ≤ nrm n a := by
  intro n
  induction n with
  | zero => intro a; show (0 : Int) ≤ (show Int from a) * (show Int from a); exact sq_pos _
  | succ n ih => intro a; exact Int.add_nonneg (ih a.1) (ih a.2)
theorem nrm_lin (x y : Int) (n : Nat) (a b : Form n) : nrm n (lin x n a y b) = x * x * nrm n a + 2 * (x * y) * dotW n a b + y * y * nrm n b := by
  unfold nrm
  rw [dotW_lin, dotW_comm n a, dotW_comm n b, dotW_lin, dotW_lin, dotW_comm n b a]; grind
theorem adj (v : Nat → Int) : ∀ (n : Nat) (a b : Form n), dotW n (wed v n b) a = dotW n b (ctr v n a) := by
  intro n
  induction n with
  | zero => intro a b; show (0 : Int) * (show Int from a) = (show Int from b) * 0; omega
  | succ n ih =>
    intro a b
    obtain ⟨a1, a2⟩ := a; obtain ⟨b1, b2⟩ := b
    show dotW n (wed v n b1) a1 + dotW n (lin (v n) n b1 (-1) (wed v n b2)) a2 = dotW n b1 (lin 1 n (ctr v n a1) (v n) a2) + dotW n b2 (lin (-1) n (ctr v n a2) 0 a2)
    rw [dotW_lin, dotW_comm n b1 (lin _ _ _ _ _), dotW_comm n b2 (lin _ _ _ _ _), dotW_lin, dotW_lin, ih, ih, dotW_comm n b1 a2, dotW_comm n b2 (ctr v n a2), dotW_comm n b1 (ctr v n a1)]
    grind
/-- How long a product and what is taken out are, together. -/
theorem nrm_both (v : Nat → Int) : ∀ (n : Nat) (a : Form n), nrm n (wed v n a) + nrm n (ctr v n a) = dotV v v n * nrm n a := by
  intro n
  induction n with
  | zero => intro a; show (0 : Int) * 0 + 0 * 0 = 0 * _; omega
  | succ n ih =>
    intro a
    obtain ⟨a1, a2⟩ := a
    show (nrm n (wed v n a1) + nrm n (lin (v n) n a1 (-1) (wed v n a2))) + (nrm n (lin 1 n (ctr v n a1) (v n) a2) + nrm n (lin (-1) n (ctr v n a2) 0 a2)) = (dotV v v n + v n * v n) * (nrm n a1 + nrm n a2)
    rw [nrm_lin, nrm_lin, nrm_lin]
    have h1 := ih a1; have h2 := ih a2
    have h3 := adj v n a1 a2
    rw [dotW_comm n a1 (wed v n a2), h3, dotW_comm n a2]
    grind
theorem nrm_one : ∀ n, nrm n (oneW n) = 1 := by
  intro n
  induction n with
  | zero => rfl
  | succ n ih =>
    show nrm n (oneW n) + nrm n (lin 0 n (oneW n) 0 (oneW n)) = 1
    rw [nrm_lin, ih]; omega
theorem ctr_one (v : Nat → Int) : ∀ n, ctr v n (oneW n) = lin 0 n (oneW n) 0 (oneW n) := by
  intro n
  induction n with
  | zero => rfl
  | succ n ih =>
    show (lin 1 n (ctr v n (oneW n)) (v n) (lin 0 n (oneW n) 0 (oneW n)), lin (-1) n (ctr v n (lin 0 n (oneW n) 0 (oneW n))) 0 (lin 0 n (oneW n) 0 (oneW n))) = (lin 0 n (oneW n) 0 (oneW n), lin 0 n (lin 0 n (oneW n) 0 (oneW n)) 0 (lin 0 n (oneW n) 0 (oneW n)))
    rw [ctr_lin, ih]
    congr 1
    · apply co_ext; intro s; simp only [co_lin]; grind
    · apply co_ext; intro s; simp only [co_lin]; grind
theorem nrm_wed_le (v : Nat → Int) (n : Nat) (a : Form n) : nrm n (wed v n a) ≤ dotV v v n * nrm n a := by
  have := nrm_both v n a; have := nrm_pos n (ctr v n a); omega
theorem nrm_ctr_le (v : Nat → Int) (n : Nat) (a : Form n) : nrm n (ctr v n a) ≤ dotV v v n * nrm n a := by
  have := nrm_both v n a; have := nrm_pos n (wed v n a); omega
theorem nrm_vec (v : Nat → Int) (n : Nat) : nrm n (wed v n (oneW n)) = dotV v v n := by
  have h := nrm_both v n (oneW n)
  rw [ctr_one, nrm_lin, nrm_one] at h; omega
theorem dotV_sq (v : Nat → Int) : ∀ n j, j < n → v j * v j ≤ dotV v v n ∧ 0 ≤ dotV v v n := by
  intro n
  induction n with
  | zero => intro j hj; omega
  | succ n ih =>
    intro j hj
    have hs : 0 ≤ v n * v n := sq_pos _
    have hp : 0 ≤ dotV v v n := by
      cases n with
      | zero => exact Int.le_refl 0
      | succ n => exact (ih 0 (by omega)).2
    show v j * v j ≤ dotV v v n + v n * v n ∧ 0 ≤ dotV v v n + v n * v n
    by_cases h : j = n
    · subst h; omega
    · have := ih j (by omega); omega
def unitV (c : Nat) : Nat → Int := fun j => if j = c then 1 else 0
theorem dotV_unit (u : Nat → Int) (c : Nat) : ∀ n, dotV u (unitV c) n = if c < n then u c else 0 := by
  intro n
  induction n with
  | zero => rfl
  | succ n ih =>
    show dotV u (unitV c) n + u n * unitV c n = _
    rw [ih]; unfold unitV
    by_cases h : c = n
    · subst h; simp
    · have h' : ¬ n = c := fun e => h e.symm
      rw [if_neg h', Int.mul_zero, Int.add_zero]
      by_cases h2 : c < n
      · rw [if_pos h2, if_pos (by omega)]
      · rw [if_neg h2, if_neg (by omega)]
/-- A form that is a multiple of a number, divided. -/
theorem div_one {D y : Int} (hD : D ≠ 0) : ∀ (n : Nat) (a : Form n), lin D n a 0 a = lin y n (oneW n) 0 (oneW n) → ∃ t, a = lin t n (oneW n) 0 (oneW n) ∧ D * t = y := by
  intro n
  induction n with
  | zero =>
    intro a h
    have key : ∀ b : Int, D * b + 0 * b = y * 1 + 0 * 1 → b = b * 1 + 0 * 1 ∧ D * b = y := fun b h => by omega
    exact ⟨a, (key a h).1, (key a h).2⟩
  | succ n ih =>
    intro a h
    obtain ⟨a1, a2⟩ := a
    have h1 : lin D n a1 0 a1 = lin y n (oneW n) 0 (oneW n) := congrArg Prod.fst h
    have h2 : lin D n a2 0 a2 = lin y n (lin 0 n (oneW n) 0 (oneW n)) 0 (lin 0 n (oneW n) 0 (oneW n)) := congrArg Prod.snd h
    obtain ⟨t, rfl, ht⟩ := ih a1 h1
    refine ⟨t, ?_, ht⟩
    have : a2 = lin 0 n (oneW n) 0 (oneW n) := by
      apply lin_cancel hD
      rw [h2]
      apply co_ext; intro s; simp only [co_lin]; omega
    show (_, a2) = (_, lin t n (lin 0 n (oneW n) 0 (oneW n)) 0 (lin 0 n (oneW n) 0 (oneW n)))
    rw [this]
    congr 1
    apply co_ext; intro s; simp only [co_lin]; grind
/-- A form that is a multiple of a vector, divided. -/
theorem div_vec {D : Int} (hD : D ≠ 0) (y : Nat → Int) : ∀ (n : Nat) (a : Form n), lin D n a 0 a = wed y n (oneW n) → ∃ x : Nat → Int, a = wed x n (oneW n) ∧ ∀ j, j < n → D * x j = y j := by
  intro n
  induction n with
  | zero =>
    intro a h
    have h' : D * (show Int from a) + 0 * (show Int from a) = 0 := h
    have ha : (show Int from a) = 0 := by
      have : D * (show Int from a) = 0 := by omega
      exact (Int.mul_eq_zero.1 this).resolve_left hD
    exact ⟨fun _ => 0, ha, fun j hj => by omega⟩
  | succ n ih =>
    intro a h
    obtain ⟨a1, a2⟩ := a
    have h1 : lin D n a1 0 a1 = wed y n (oneW n) := congrArg Prod.fst h
    have h2 : lin D n a2 0 a2 = lin (y n) n (oneW n) (-1) (wed y n (lin 0 n (oneW n) 0 (oneW n))) := congrArg Prod.snd h
    obtain ⟨x, rfl, hx⟩ := ih a1 h1
    obtain ⟨t, rfl, ht⟩ := div_one (y := y n) hD n a2 (by
      rw [h2, wed_lin]
      apply co_ext; intro s; simp only [co_lin]; grind)
    refine ⟨fun j => if j = n then t else x j, ?_, fun j hj => ?_⟩
    · show (_, _) = (wed _ n (oneW n), lin _ n (oneW n) (-1) (wed _ n (lin 0 n (oneW n) 0 (oneW n))))
      rw [wed_congr (u := fun j => if j = n then t else x j) (v := x) n (oneW n) (fun j hj => if_neg (by omega)), wed_lin]
      congr 1
      apply co_ext; intro s; simp only [co_lin, if_pos]; grind
    · by_cases e : j = n
      · subst e; simp only [if_pos]; exact ht
      · simp only [if_neg e]; exact hx j (by omega)
/-- What stands while rows are reduced: n columns, m rows, k of them with a pivot; R the numbers, D the last pivot. -/
structure BarS (n m k : Nat) (R : Nat → Nat → Int) (D : Int) : Prop where
  nz : D ≠ 0
  le : k ≤ m
  ops : ∃ (T : Form n → Form n) (S : Nat → Form n → Form n) (a : Nat → Nat → Int),
    (∀ x p y q, T (lin x n p y q) = lin x n (T p) y (T q)) ∧
    (∀ i, i < m → ∀ x p y q, S i (lin x n p y q) = lin x n (S i p) y (S i q)) ∧
    T (oneW n) = lin D n (oneW n) 0 (oneW n) ∧
    (∀ i, i < m → S i (oneW n) = wed (R i) n (oneW n)) ∧
    (∀ i, i < m → ∀ p, lin D n (S i p) 0 p = wed (R i) n (T p)) ∧
    (∀ i, k ≤ i → i < m → ∀ p, S i p = T (wed (a i) n p)) ∧
    (∀ i, i < m → dotV (a i) (a i) n ≤ 64) ∧
    (∀ p, nrm n (T p) ≤ 64 ^ k * nrm n p) ∧
    (∀ i, i < m → ∀ p, nrm n (S i p) ≤ 64 ^ (if i < k then k else k + 1) * nrm n p)
theorem lin_zero (x y : Int) (n : Nat) (p q : Form n) (h : x = y) : lin x n p 0 q = lin y n p 0 p := by
  subst h; apply co_ext; intro s; simp only [co_lin]; omega
theorem BarS.start {n m : Nat} {A : Nat → Nat → Int} (hA : ∀ i, i < m → dotV (A i) (A i) n ≤ 64) : BarS n m 0 A 1 where
  nz := by decide
  le := Nat.zero_le _
  ops := by
    refine ⟨id, fun i p => wed (A i) n p, A, fun _ _ _ _ => rfl, fun i _ x p y q => wed_lin .., ?_, fun i _ => rfl, ?_, fun i _ _ p => rfl, hA, ?_, ?_⟩
    · apply co_ext; intro s; simp only [co_lin, id]; omega
    · intro i _ p; apply co_ext; intro s; simp only [co_lin, id]; omega
    · intro p; simp only [id, Int.pow_zero, Int.one_mul]; exact Int.le_refl _
    · intro i hi p
      simp only [Nat.not_lt_zero, if_false, Nat.zero_add, Int.pow_one] 
      exact Int.le_trans (nrm_wed_le ..) (Int.mul_le_mul_of_nonneg_right (hA i hi) (nrm_pos ..))
/-- Two rows without a pivot exchanged. -/
theorem BarS.swap {n m k : Nat} {R : Nat → Nat → Int} {D : Int} (h : BarS n m k R D) {f : Nat} (hk : k ≤ f) (hf : f < m) : BarS n m k (fun i => if i = k then R f else if i = f then R k else R i) D := by
  obtain ⟨T, S, a, h1, h2, h3, h4, h5, h6, h7, h8, h9⟩ := h.ops
  have key : ∀ i, ∃ i', (i < m → i' < m) ∧ (k ≤ i → i < m → k ≤ i') ∧ ((if i < k then k else k + 1) = (if i' < k then k else k + 1)) ∧ i' = (if i = k then f else if i = f then k else i) := by
    intro i
    refine ⟨_, ?_, ?_, ?_, rfl⟩ <;> split <;> (try split) <;> (try split) <;> (try split) <;> omega
  have e : (fun i => if i = k then R f else if i = f then R k else R i) = fun i => R (if i = k then f else if i = f then k else i) := by
    funext i; split
    · rfl
    · split <;> rfl
  rw [e]
  refine ⟨h.nz, h.le, T, fun i => S (if i = k then f else if i = f then k else i), fun i => a (if i = k then f else if i = f then k else i), h1, ?_, h3, ?_, ?_, ?_, ?_, h8, ?_⟩
  all_goals intro i
  · intro hi; obtain ⟨i', g1, g2, g3, rfl⟩ := key i; exact h2 _ (g1 hi)
  · intro hi; obtain ⟨i', g1, g2, g3, rfl⟩ := key i; exact h4 _ (g1 hi)
  · intro hi; obtain ⟨i', g1, g2, g3, rfl⟩ := key i; exact h5 _ (g1 hi)
  · intro hk hi; obtain ⟨i', g1, g2, g3, rfl⟩ := key i; exact h6 _ (g2 hk hi) (g1 hi)
  · intro hi; obtain ⟨i', g1, g2, g3, rfl⟩ := key i; exact h7 _ (g1 hi)
  · intro hi p; obtain ⟨i', g1, g2, g3, rfl⟩ := key i; rw [g3]; exact h9 _ (g1 hi) p
/-- How great the numbers are. -/
theorem BarS.small {n m k : Nat} {R : Nat → Nat → Int} {D : Int} (h : BarS n m k R D) {i j : Nat} (hi : i < m) (hj : j < n) : R i j * R i j ≤ 64 ^ (if i < k then k else k + 1) := by
  obtain ⟨T, S, a, h1, h2, h3, h4, h5, h6, h7, h8, h9⟩ := h.ops
  have := h9 i hi (oneW n)
  rw [h4 i hi, nrm_vec, nrm_one, Int.mul_one] at this
  exact Int.le_trans (dotV_sq (R i) n j hj).1 this
theorem BarS.dsmall {n m k : Nat} {R : Nat → Nat → Int} {D : Int} (h : BarS n m k R D) : D * D ≤ 64 ^ k := by
  obtain ⟨T, S, a, h1, h2, h3, h4, h5, h6, h7, h8, h9⟩ := h.ops
  have := h8 (oneW n)
  rw [h3, nrm_lin, nrm_one] at this
  omega
/-- A pivot in column c. -/
theorem BarS.step {n m k : Nat} {R : Nat → Nat → Int} {D : Int} (h : BarS n m k R D) {c : Nat} (hc : c < n) (hk : k < m) (hp : R k c ≠ 0) :
    ∃ R' : Nat → Nat → Int, (R' k = R k) ∧ (∀ i, i < m → i ≠ k → ∀ j, j < n → D * R' i j = R i j * R k c - R k j * R i c) ∧ BarS n m (k + 1) R' (R k c) := by
  obtain ⟨T, S, a, h1, h2, h3, h4, h5, h6, h7, h8, h9⟩ := h.ops
  have hD := h.nz
  -- the rows, divided
  have row : ∀ i, ∃ x : Nat → Int, i < m → i ≠ k → lin (-1) n (ctr (unitV c) n (S i (wed (a k) n (oneW n)))) 0 (oneW n) = wed x n (oneW n) ∧ ∀ j, j < n → D * x j = R k c * R i j + (- R i c) * R k j := by
    intro i
    by_cases hi : i < m ∧ i ≠ k
    · have e : lin D n (lin (-1) n (ctr (unitV c) n (S i (wed (a k) n (oneW n)))) 0 (oneW n)) 0 (lin (-1) n (ctr (unitV c) n (S i (wed (a k) n (oneW n)))) 0 (oneW n)) = wed (fun j => R k c * R i j + (- R i c) * R k j) n (oneW n) := by
        have f1 := h5 i hi.1 (wed (a k) n (oneW n))
        rw [← h6 k (Nat.le_refl _) hk, h4 k hk] at f1
        have f2 := congrArg (ctr (unitV c) n) f1
        have e1 : ctr (unitV c) n (wed (R k) n (oneW n)) = lin (R k c) n (oneW n) (-1) (wed (R k) n (lin 0 n (oneW n) 0 (oneW n))) := by
          rw [ctr_wed, ctr_one, dotV_unit, if_pos hc]
        have e2 : ctr (unitV c) n (wed (R i) n (wed (R k) n (oneW n))) = lin (R i c) n (wed (R k) n (oneW n)) (-1) (wed (R i) n (ctr (unitV c) n (wed (R k) n (oneW n)))) := by
          rw [ctr_wed, dotV_unit, if_pos hc]
        rw [ctr_lin, e2, e1] at f2
        rw [wed_vec]
        apply co_ext; intro s
        have f3 := congrArg (co n s) f2
        simp only [co_lin, wed_lin] at f3 ⊢
        clear f1 f2 e1 e2 h1 h2 h3 h4 h5 h6 h7 h8 h9
        grind
      obtain ⟨x, hx, hx2⟩ := div_vec hD _ n _ e
      exact ⟨x, fun _ _ => ⟨hx, hx2⟩⟩
    · exact ⟨fun _ => 0, fun g1 g2 => absurd ⟨g1, g2⟩ hi⟩
  obtain ⟨X, hX⟩ := Classical.axiomOfChoice row
  refine ⟨fun i => if i = k then R k else X i, if_pos rfl, ?_, hp, hk, ?_⟩
  · intro i hi hne j hj
    show D * (if i = k then R k else X i) j = _
    rw [if_neg hne]
    have := (hX i hi hne).2 j hj
    rw [this]; clear h1 h2 h3 h4 h5 h6 h7 h8 h9 hX row; grind
  have u : ∀ i, i < m → i ≠ k → ∀ p, wed (fun j => R k c * R i j + (- R i c) * R k j) n p = lin D n (wed (X i) n p) 0 p := by
    intro i hi hne p
    have : lin D n (wed (X i) n p) 0 p = wed (fun j => D * X i j + 0 * X i j) n p := by
      rw [wed_vec]; apply co_ext; intro s; simp only [co_lin]; omega
    rw [this]
    exact wed_congr n p fun j hj => by rw [(hX i hi hne).2 j hj]; omega
  refine ⟨fun p => ctr (unitV c) n (S k p), fun i p => if i = k then S k p else lin (-1) n (ctr (unitV c) n (S i (wed (a k) n p))) 0 p, a, ?_, ?_, ?_, ?_, ?_, ?_, h7, ?_, ?_⟩
  · intro x p y q; simp only [h2 k hk, ctr_lin]
  · intro i hi x p y q
    by_cases e : i = k
    · subst e; simp only [if_pos]; exact h2 i hi ..
    · simp only [if_neg e]
      rw [wed_lin, h2 i hi, ctr_lin]
      apply co_ext; intro s; simp only [co_lin]; grind
  · show ctr (unitV c) n (S k (oneW n)) = _
    rw [h4 k hk, ctr_wed, ctr_one, dotV_unit, if_pos hc, wed_lin]
    apply co_ext; intro s; simp only [co_lin]; grind
  · intro i hi
    by_cases e : i = k
    · subst e; simp only [if_pos]; exact h4 i hi
    · simp only [if_neg e]; exact (hX i hi e).1
  · intro i hi p
    by_cases e : i = k
    · subst e; simp only [if_pos]
      -- p' S = R ∧ T'
      apply lin_cancel hD
      have f1 := h5 i hi p
      have f2 := congrArg (ctr (unitV c) n) f1
      rw [ctr_lin, ctr_wed, dotV_unit, if_pos hc] at f2
      have f3 := congrArg (wed (R i) n) f2
      rw [wed_lin, wed_lin] at f3
      have f4 := wed_wed (R i) (R i) n (ctr (unitV c) n (T p))
      apply co_ext; intro s
      have g1 := congrArg (co n s) f1
      have g3 := congrArg (co n s) f3
      have g4 := congrArg (co n s) f4
      simp only [co_lin] at g1 g3 g4 ⊢
      grind
    · simp only [if_neg e]
      apply lin_cancel hD
      apply lin_cancel hD
      have f1 := h5 i hi (wed (a k) n p)
      rw [← h6 k (Nat.le_refl _) hk] at f1
      -- f1 : D S_i (a_k p) = R_i S_k p
      have f0 := h5 k hk p
      have f2 := congrArg (ctr (unitV c) n) f1
      rw [ctr_lin] at f2
      -- D² S' = - ι R_i (D S_k p) = - ι R_i R_k T p
      have f3 := congrArg (fun q => ctr (unitV c) n (wed (R i) n q)) f0
      simp only [wed_lin, ctr_lin] at f3
      -- left side
      have f4 := congrArg (fun q => wed (X i) n (ctr (unitV c) n q)) f0
      simp only [wed_lin, ctr_lin] at f4
      have f5 := u i hi e (ctr (unitV c) n (wed (R k) n (T p)))
      rw [wed_vec] at f5
      -- R k c * R_i ι R_k T - R i c R_k ι R_k T
      have f6 : ctr (unitV c) n (wed (R i) n (wed (R k) n (T p))) = lin (R i c) n (wed (R k) n (T p)) (-1) (wed (R i) n (ctr (unitV c) n (wed (R k) n (T p)))) := by
        rw [ctr_wed, dotV_unit, if_pos hc]
      have f7 : ctr (unitV c) n (wed (R k) n (T p)) = lin (R k c) n (T p) (-1) (wed (R k) n (ctr (unitV c) n (T p))) := by
        rw [ctr_wed, dotV_unit, if_pos hc]
      have f8 : wed (R k) n (ctr (unitV c) n (wed (R k) n (T p))) = lin (R k c) n (wed (R k) n (T p)) 0 p := by
        rw [f7, wed_lin]
        have f9 := wed_wed (R k) (R k) n (ctr (unitV c) n (T p))
        apply co_ext; intro s
        have g9 := congrArg (co n s) f9
        simp only [co_lin] at g9 ⊢
        grind
      apply co_ext; intro s
      have g2 := congrArg (co n s) f2
      have g3 := congrArg (co n s) f3
      have g4 := congrArg (co n s) f4
      have g5 := congrArg (co n s) f5
      have g6 := congrArg (co n s) f6
      have g8 := congrArg (co n s) f8
      simp only [co_lin] at g2 g3 g4 g5 g6 g8 ⊢
      generalize co n s (wed (X i) n (ctr (unitV c) n (wed (R k) n (T p)))) = z1 at *
      generalize co n s (wed (X i) n (ctr (unitV c) n (S k p))) = z2 at *
      generalize co n s (ctr (unitV c) n (S i (wed (a k) n p))) = z3 at *
      generalize co n s (ctr (unitV c) n (wed (R i) n (S k p))) = z4 at *
      generalize co n s (ctr (unitV c) n (wed (R i) n (wed (R k) n (T p)))) = z5 at *
      generalize co n s (wed (R i) n (ctr (unitV c) n (wed (R k) n (T p)))) = z6 at *
      generalize co n s (wed (R k) n (ctr (unitV c) n (wed (R k) n (T p)))) = z7 at *
      generalize co n s (wed (R k) n (T p)) = z8 at *
      grind
  · intro i hik hi p
    have e : i ≠ k := by omega
    simp only [if_neg e]
    rw [h6 i (by omega) hi, h6 k (Nat.le_refl _) hk, wed_wed (a k) (a i)]
    rw [h1, ctr_lin]
    apply co_ext; intro s; simp only [co_lin]; grind
  · intro p
    show nrm n (ctr (unitV c) n (S k p)) ≤ _
    have b1 := nrm_ctr_le (unitV c) n (S k p)
    rw [dotV_unit, if_pos hc] at b1
    have b2 := h9 k hk p
    rw [if_neg (by omega)] at b2
    have : unitV c c = 1 := if_pos rfl
    rw [this] at b1
    omega
  · intro i hi p
    by_cases e : i = k
    · subst e; simp only [if_pos]
      have b2 := h9 i hi p
      rw [if_neg (by omega)] at b2
      rw [if_pos (by omega)]; exact b2
    · simp only [if_neg e]
      have b0 : nrm n (lin (-1) n (ctr (unitV c) n (S i (wed (a k) n p))) 0 p) = nrm n (ctr (unitV c) n (S i (wed (a k) n p))) := by
        rw [nrm_lin]; omega
      rw [b0]
      have b1 := nrm_ctr_le (unitV c) n (S i (wed (a k) n p))
      rw [dotV_unit, if_pos hc] at b1
      have : unitV c c = 1 := if_pos rfl
      rw [this, Int.one_mul] at b1
      have b2 := h9 i hi (wed (a k) n p)
      have b3 : nrm n (wed (a k) n p) ≤ 64 * nrm n p := Int.le_trans (nrm_wed_le ..) (Int.mul_le_mul_of_nonneg_right (h7 k hk) (nrm_pos ..))
      have b4 : (64 : Int) ^ (if i < k + 1 then k + 1 else k + 1 + 1) = 64 ^ (if i < k then k else k + 1) * 64 := by
        have : (if i < k + 1 then k + 1 else k + 1 + 1) = (if i < k then k else k + 1) + 1 := by
          split <;> split <;> omega
        rw [this, Int.pow_succ]
      rw [b4, Int.mul_assoc]
      have b5 : (0 : Int) ≤ 64 ^ (if i < k then k else k + 1) := Int.pow_nonneg (by decide)
      exact Int.le_trans b1 (Int.le_trans b2 (Int.mul_le_mul_of_nonneg_left b3 b5))
end Go.Proofs.Ytdkpmaahinbhlaa
/- Rows in lowest terms: rows that are multiples of each other have the same lowest terms. Words on numbers. No condition. -/
namespace Go.Proofs.Ytdkpmaahinbhlaa

/-- The greatest common divisor of the magnitudes of a row. -/
def gcdL : List Int → Nat
  | [] => 0
  | x :: v => Nat.gcd x.natAbs (gcdL v)
/-- The first number that is not 0; 0 if there is none. -/
def firstZ : List Int → Int
  | [] => 0
  | x :: v => if x = 0 then firstZ v else x
/-- What a row is divided by. -/
def divZ (v : List Int) : Int := if firstZ v < 0 then -(gcdL v : Int) else gcdL v
/-- A row in lowest terms. -/
def primV (v : List Int) : List Int := if gcdL v = 0 then v else v.map fun x => Int.tdiv x (divZ v)
theorem gcdL_dvd : ∀ {v : List Int} {x : Int}, x ∈ v → (gcdL v : Int) ∣ x := by
  intro v
  induction v with
  | nil => intro x h; cases h
  | cons y v ih =>
    intro x h
    rw [Int.ofNat_dvd_left]
    cases h with
    | head => exact Nat.gcd_dvd_left ..
    | tail _ h => exact Nat.dvd_trans (Nat.gcd_dvd_right ..) (Int.ofNat_dvd_left.1 (ih h))
theorem divZ_dvd {v : List Int} {x : Int} (h : x ∈ v) : divZ v ∣ x := by
  unfold divZ; split
  · exact Int.neg_dvd.2 (gcdL_dvd h)
  · exact gcdL_dvd h
theorem gcdL_zero : ∀ {v : List Int}, gcdL v = 0 ↔ ∀ x ∈ v, x = 0 := by
  intro v
  induction v with
  | nil => exact ⟨fun _ x h => (by cases h), fun _ => rfl⟩
  | cons y v ih =>
    show Nat.gcd y.natAbs (gcdL v) = 0 ↔ _
    rw [Nat.gcd_eq_zero_iff, ih]
    constructor
    · intro h x hx
      cases hx with
      | head => exact Int.natAbs_eq_zero.1 h.1
      | tail _ hx => exact h.2 x hx
    · intro h
      exact ⟨Int.natAbs_eq_zero.2 (h y (List.mem_cons_self ..)), fun x hx => h x (List.mem_cons_of_mem _ hx)⟩
theorem firstZ_zero : ∀ {v : List Int}, firstZ v = 0 ↔ ∀ x ∈ v, x = 0 := by
  intro v
  induction v with
  | nil => exact ⟨fun _ x h => (by cases h), fun _ => rfl⟩
  | cons y v ih =>
    show (if y = 0 then firstZ v else y) = 0 ↔ _
    by_cases e : y = 0
    · rw [if_pos e, ih]
      exact ⟨fun h x hx => by cases hx with
        | head => exact e
        | tail _ hx => exact h x hx, fun h x hx => h x (List.mem_cons_of_mem _ hx)⟩
    · rw [if_neg e]
      exact ⟨fun h => absurd h e, fun h => absurd (h y (List.mem_cons_self ..)) e⟩
theorem gcdL_mul (s : Int) : ∀ (v : List Int), gcdL (v.map (s * ·)) = s.natAbs * gcdL v := by
  intro v
  induction v with
  | nil => rfl
  | cons y v ih =>
    show Nat.gcd (s * y).natAbs (gcdL (v.map (s * ·))) = _
    rw [ih, Int.natAbs_mul, Nat.gcd_mul_left]; rfl
theorem firstZ_mul {s : Int} (hs : s ≠ 0) : ∀ (v : List Int), firstZ (v.map (s * ·)) = s * firstZ v := by
  intro v
  induction v with
  | nil => exact (Int.mul_zero s).symm
  | cons y v ih =>
    show (if s * y = 0 then firstZ (v.map (s * ·)) else s * y) = s * (if y = 0 then firstZ v else y)
    by_cases e : y = 0
    · rw [if_pos (by rw [e, Int.mul_zero]), if_pos e, ih]
    · rw [if_neg (by intro h; exact e ((Int.mul_eq_zero.1 h).resolve_left hs)), if_neg e]
theorem divZ_mul {s : Int} (hs : s ≠ 0) (v : List Int) (hg : gcdL v ≠ 0) : divZ (v.map (s * ·)) = s * divZ v := by
  unfold divZ
  rw [gcdL_mul, firstZ_mul hs]
  have hf : firstZ v ≠ 0 := fun h => hg (gcdL_zero.2 (firstZ_zero.1 h))
  rcases Int.lt_or_gt_of_ne hs with h | h
  · have e : ((s.natAbs * gcdL v : Nat) : Int) = -(s * gcdL v) := by
      rw [Int.natCast_mul]
      have : (s.natAbs : Int) = -s := by omega
      rw [this, Int.neg_mul]
    rw [e]
    rcases Int.lt_or_gt_of_ne hf with h2 | h2
    · have : 0 < s * firstZ v := Int.mul_pos_of_neg_of_neg h h2
      rw [if_neg (by omega), if_pos h2, Int.mul_neg]
    · have : s * firstZ v < 0 := Int.mul_neg_of_neg_of_pos h h2
      rw [if_pos this, if_neg (by omega), Int.neg_neg]
  · have e : ((s.natAbs * gcdL v : Nat) : Int) = s * gcdL v := by
      rw [Int.natCast_mul]
      have : (s.natAbs : Int) = s := by omega
      rw [this]
    rw [e]
    rcases Int.lt_or_gt_of_ne hf with h2 | h2
    · have : s * firstZ v < 0 := Int.mul_neg_of_pos_of_neg h h2
      rw [if_pos this, if_pos h2, Int.mul_neg]
    · have : 0 < s * firstZ v := Int.mul_pos h h2
      rw [if_neg (by omega), if_neg (by omega)]
theorem divZ_nz {v : List Int} (hg : gcdL v ≠ 0) : divZ v ≠ 0 := by
  unfold divZ; split <;> omega
theorem primV_mul {s : Int} (hs : s ≠ 0) (v : List Int) : primV (v.map (s * ·)) = primV v := by
  unfold primV
  by_cases hg : gcdL v = 0
  · have h0 : gcdL (v.map (s * ·)) = 0 := by rw [gcdL_mul, hg, Nat.mul_zero]
    rw [if_pos hg, if_pos h0]
    have := gcdL_zero.1 hg
    apply List.ext_getElem (by simp)
    intro i h1 h2
    rw [List.getElem_map, this _ (List.getElem_mem h2), Int.mul_zero]
  · have h0 : gcdL (v.map (s * ·)) ≠ 0 := by
      rw [gcdL_mul]; exact Nat.mul_ne_zero (by omega) hg
    rw [if_neg hg, if_neg h0, List.map_map, divZ_mul hs v hg]
    apply List.map_congr_left
    intro x hx
    obtain ⟨q, hq⟩ := divZ_dvd hx
    have hd := divZ_nz hg
    show Int.tdiv (s * x) (s * divZ v) = Int.tdiv x (divZ v)
    rw [hq, ← Int.mul_assoc, Int.mul_tdiv_cancel_left _ (Int.mul_ne_zero hs hd), Int.mul_tdiv_cancel_left _ hd]
theorem primV_len (v : List Int) : (primV v).length = v.length := by
  unfold primV; split
  · rfl
  · exact List.length_map ..
/-- A row is a multiple of its lowest terms. -/
theorem primV_eq (v : List Int) : ∃ s : Int, s ≠ 0 ∧ v = (primV v).map (s * ·) := by
  unfold primV
  by_cases hg : gcdL v = 0
  · refine ⟨1, by decide, ?_⟩
    rw [if_pos hg]
    exact (List.map_id'' (fun x => Int.one_mul x) v).symm
  · refine ⟨divZ v, divZ_nz hg, ?_⟩
    rw [if_neg hg, List.map_map]
    have e : v.map (fun x => x) = v.map (fun x => divZ v * Int.tdiv x (divZ v)) := by
      apply List.map_congr_left
      intro x hx
      obtain ⟨q, hq⟩ := divZ_dvd hx
      show x = divZ v * Int.tdiv x (divZ v)
      rw [hq, Int.mul_tdiv_cancel_left _ (divZ_nz hg)]
    rw [List.map_id'] at e
    exact e
theorem primV_prim (v : List Int) : primV (primV v) = primV v := by
  obtain ⟨s, hs, e⟩ := primV_eq v
  have := primV_mul hs (primV v)
  rw [← e] at this; exact this.symm
/-- Rows that are multiples of each other have the same lowest terms. -/
theorem primV_prop {a b : Int} (ha : a ≠ 0) (hb : b ≠ 0) {v w : List Int} (h : v.map (a * ·) = w.map (b * ·)) : primV v = primV w := by
  rw [← primV_mul ha v, h, primV_mul hb]
theorem gcdL_snoc (x : Int) : ∀ (v : List Int), gcdL (v ++ [x]) = Nat.gcd (gcdL v) x.natAbs := by
  intro v
  induction v with
  | nil => show Nat.gcd x.natAbs 0 = Nat.gcd 0 x.natAbs; rw [Nat.gcd_zero_right, Nat.gcd_zero_left]
  | cons y v ih =>
    show Nat.gcd y.natAbs (gcdL (v ++ [x])) = Nat.gcd (Nat.gcd y.natAbs (gcdL v)) x.natAbs
    rw [ih, Nat.gcd_assoc]
theorem firstZ_snoc (x : Int) : ∀ (v : List Int), firstZ (v ++ [x]) = if firstZ v = 0 then x else firstZ v := by
  intro v
  induction v with
  | nil => show (if x = 0 then 0 else x) = if (0 : Int) = 0 then x else 0; rw [if_pos rfl]; split <;> omega
  | cons y v ih =>
    show (if y = 0 then firstZ (v ++ [x]) else y) = if (if y = 0 then firstZ v else y) = 0 then x else (if y = 0 then firstZ v else y)
    by_cases e : y = 0
    · rw [if_pos e, if_pos e, ih]
    · rw [if_neg e, if_neg e, if_neg e]
/-- One round of the division algorithm. -/
theorem gcd_step (a b : Int) : Nat.gcd b.natAbs (Int.tmod a b).natAbs = Nat.gcd a.natAbs b.natAbs := by
  rw [Int.natAbs_tmod, Nat.gcd_comm a.natAbs, Nat.gcd_rec b.natAbs a.natAbs, Nat.gcd_comm]
end Go.Proofs.Ytdkpmaahinbhlaa
/- The reduction of rows column by column, as the program runs it, with the rows in lowest terms that the specification keeps. Words on numbers. No condition. -/
namespace Go.Proofs.Ytdkpmaahinbhlaa

theorem BarS.congr {n m k : Nat} {R R' : Nat → Nat → Int} {D : Int} (h : BarS n m k R D) (e : ∀ i, i < m → ∀ j, j < n → R i j = R' i j) : BarS n m k R' D := by
  obtain ⟨T, S, a, h1, h2, h3, h4, h5, h6, h7, h8, h9⟩ := h.ops
  refine ⟨h.nz, h.le, T, S, a, h1, h2, h3, fun i hi => ?_, fun i hi p => ?_, h6, h7, h8, h9⟩
  · rw [h4 i hi]; exact wed_congr n _ (e i hi)
  · rw [h5 i hi]; exact wed_congr n _ (e i hi)
theorem abs_of_sq {x b : Int} (hb : 0 ≤ b) (h : x * x ≤ b * b) : -b ≤ x ∧ x ≤ b := by
  constructor
  · apply Int.not_lt.1; intro hx
    have h1 : b < -x := by omega
    have h2 : b * b < (-x) * (-x) := Int.lt_of_le_of_lt (Int.mul_le_mul_of_nonneg_left (by omega) hb) (Int.mul_lt_mul_of_pos_right h1 (by omega))
    rw [Int.neg_mul_neg] at h2; omega
  · apply Int.not_lt.1; intro hx
    have h2 : b * b < x * x := Int.lt_of_le_of_lt (Int.mul_le_mul_of_nonneg_left (by omega) hb) (Int.mul_lt_mul_of_pos_right hx (by omega))
    omega
theorem pow64_le {k : Nat} (h : k ≤ 9) : (64 : Int) ^ k ≤ 134217728 * 134217728 := by
  have : k = 0 ∨ k = 1 ∨ k = 2 ∨ k = 3 ∨ k = 4 ∨ k = 5 ∨ k = 6 ∨ k = 7 ∨ k = 8 ∨ k = 9 := by omega
  rcases this with rfl | rfl | rfl | rfl | rfl | rfl | rfl | rfl | rfl | rfl <;> decide
theorem BarS.lim {n m k : Nat} {R : Nat → Nat → Int} {D : Int} (h : BarS n m k R D) (hm : m ≤ 9) {i j : Nat} (hi : i < m) (hj : j < n) : -134217728 ≤ R i j ∧ R i j ≤ 134217728 := by
  apply abs_of_sq (by decide)
  refine Int.le_trans (h.small hi hj) (pow64_le ?_)
  have := h.le
  split <;> omega
theorem BarS.dlim {n m k : Nat} {R : Nat → Nat → Int} {D : Int} (h : BarS n m k R D) (hm : m ≤ 9) : -134217728 ≤ D ∧ D ≤ 134217728 := by
  apply abs_of_sq (by decide)
  exact Int.le_trans h.dsmall (pow64_le (Nat.le_trans h.le hm))
/-- The first of t numbers from k on for which p holds; k + t if none. -/
def fstI (p : Nat → Bool) : Nat → Nat → Nat
  | 0, k => k
  | t + 1, k => if p k then k else fstI p t (k + 1)
theorem fstI_spec (p : Nat → Bool) : ∀ t k, k ≤ fstI p t k ∧ fstI p t k ≤ k + t ∧ (fstI p t k < k + t → p (fstI p t k) = true) ∧ (∀ i, k ≤ i → i < fstI p t k → p i = false) := by
  intro t
  induction t with
  | zero => intro k; exact ⟨Nat.le_refl _, Nat.le_refl _, fun h => absurd h (Nat.lt_irrefl _), fun i h1 h2 => absurd h2 (Nat.not_lt.2 h1)⟩
  | succ t ih =>
    intro k
    unfold fstI
    by_cases h : p k
    · rw [if_pos h]
      exact ⟨Nat.le_refl _, by omega, fun _ => h, fun i h1 h2 => absurd h2 (Nat.not_lt.2 h1)⟩
    · rw [if_neg h]
      obtain ⟨h1, h2, h3, h4⟩ := ih (k + 1)
      refine ⟨by omega, by omega, fun hh => h3 (by omega), fun i hi hi2 => ?_⟩
      by_cases e : i = k
      · subst e; exact Bool.eq_false_iff.2 h
      · exact h4 i (by omega) hi2
theorem fstI_uniq {p : Nat → Bool} {t k f : Nat} (h1 : k ≤ f) (h2 : f ≤ k + t) (h3 : f < k + t → p f = true) (h4 : ∀ i, k ≤ i → i < f → p i = false) : fstI p t k = f := by
  obtain ⟨g1, g2, g3, g4⟩ := fstI_spec p t k
  rcases Nat.lt_trichotomy (fstI p t k) f with h | h | h
  · have := h4 _ g1 h; rw [g3 (by omega)] at this; cases this
  · exact h
  · have := g4 _ h1 h; rw [h3 (by omega)] at this; cases this
/-- Two rows exchanged. -/
def barSwap (R : Nat → Nat → Int) (k f : Nat) : Nat → Nat → Int := fun i => if i = k then R f else if i = f then R k else R i
/-- All rows but the pivot's own are cleared in column c. -/
def barStep (R : Nat → Nat → Int) (k : Nat) (D : Int) (c : Nat) : Nat → Nat → Int := fun i j => if i = k then R k j else Int.tdiv (R i j * R k c - R k j * R i c) D
/-- Reduced rows: the numbers, the last pivot, the columns with pivots. -/
structure Red where
  R : Nat → Nat → Int
  D : Int
  pv : List Nat
def Red.first (m : Nat) (s : Red) (c : Nat) : Nat := fstI (fun i => s.R i c != 0) (m - s.pv.length) s.pv.length
def Red.take (m : Nat) (s : Red) (c : Nat) : Red :=
  if s.first m c < m then ⟨barStep (barSwap s.R s.pv.length (s.first m c)) s.pv.length s.D c, s.R (s.first m c) c, s.pv ++ [c]⟩ else s
def Red.run (m : Nat) (A : Nat → Nat → Int) : Nat → Red
  | 0 => ⟨A, 1, []⟩
  | c + 1 => (Red.run m A c).take m c
/-- What stands while columns are taken. -/
structure RedS (n m : Nat) (s : Red) (c : Nat) : Prop where
  bar : BarS n m s.pv.length s.R s.D
  asc : ∀ x ∈ s.pv, x < c
  own : ∀ t (h : t < s.pv.length), s.R t (s.pv[t]'h) = s.D
  zer : ∀ t (h : t < s.pv.length), ∀ i, i < m → i ≠ t → s.R i (s.pv[t]'h) = 0
theorem RedS.take {n m c : Nat} {s : Red} (h : RedS n m s c) (hc : c < n) : RedS n m (s.take m c) (c + 1) := by
  unfold Red.take
  by_cases hf : s.first m c < m
  · rw [if_pos hf]
    obtain ⟨g1, g2, g3, g4⟩ := fstI_spec (fun i => s.R i c != 0) (m - s.pv.length) s.pv.length
    have hle := h.bar.le
    have hnz : s.R (s.first m c) c ≠ 0 := by
      have := g3 (by show s.first m c < _; omega)
      exact fun e => by rw [show fstI _ _ _ = s.first m c from rfl] at this; simp [e] at this
    have hkf : s.pv.length ≤ s.first m c := g1
    generalize s.first m c = f at *
    have b1 := h.bar.swap hkf hf
    have b1' : BarS n m s.pv.length (barSwap s.R s.pv.length f) s.D := b1
    have hk : barSwap s.R s.pv.length f s.pv.length = s.R f := if_pos rfl
    obtain ⟨R', e1, e2, b2⟩ := b1'.step (c := c) hc (by omega) (by rw [hk]; exact hnz)
    have eq : ∀ i, i < m → ∀ j, j < n → R' i j = barStep (barSwap s.R s.pv.length f) s.pv.length s.D c i j := by
      intro i hi j hj
      unfold barStep
      by_cases e : i = s.pv.length
      · rw [if_pos e, e, e1]
      · rw [if_neg e, ← e2 i hi e j hj, Int.mul_tdiv_cancel_left _ h.bar.nz]
    refine ⟨?_, ?_, ?_, ?_⟩
    · rw [hk] at b2
      show BarS n m (s.pv ++ [c]).length _ _
      rw [List.length_append]
      exact b2.congr eq
    · intro x hx
      rcases List.mem_append.1 hx with hx | hx
      · have := h.asc x hx; omega
      · rw [List.mem_singleton.1 hx]; omega
    · intro t ht
      show barStep _ _ _ _ t ((s.pv ++ [c])[t]'ht) = s.R f c
      have ht' : t < s.pv.length + 1 := by simpa using ht
      by_cases e : t = s.pv.length
      · subst e
        rw [List.getElem_append_right (Nat.le_refl _)]
        simp only [Nat.sub_self, List.getElem_cons_zero]
        unfold barStep; rw [if_pos rfl, hk]
      · have htl : t < s.pv.length := by omega
        rw [List.getElem_append_left htl]
        unfold barStep; rw [if_neg e, hk]
        have z1 : barSwap s.R s.pv.length f t = s.R t := by unfold barSwap; rw [if_neg e, if_neg (by omega)]
        rw [z1, h.own t htl, h.zer t htl f hf (by omega), Int.zero_mul, Int.sub_zero, Int.mul_tdiv_cancel_left _ h.bar.nz]
    · intro t ht i hi hne
      show barStep _ _ _ _ i ((s.pv ++ [c])[t]'ht) = 0
      have ht' : t < s.pv.length + 1 := by simpa using ht
      by_cases e : t = s.pv.length
      · subst e
        rw [List.getElem_append_right (Nat.le_refl _)]
        simp only [Nat.sub_self, List.getElem_cons_zero]
        unfold barStep; rw [if_neg hne, Int.mul_comm, Int.sub_self, Int.zero_tdiv]
      · have htl : t < s.pv.length := by omega
        rw [List.getElem_append_left htl]
        have z2 : ∀ i', i' < m → i' ≠ t → s.R i' (s.pv[t]) = 0 := h.zer t htl
        unfold barStep
        by_cases e3 : i = s.pv.length
        · rw [if_pos e3, hk]; exact z2 f hf (by omega)
        · rw [if_neg e3, hk, z2 f hf (by omega)]
          have : barSwap s.R s.pv.length f i (s.pv[t]) = 0 := by
            unfold barSwap; rw [if_neg e3]; split
            · exact z2 _ (by omega) (by omega)
            · exact z2 _ hi hne
          rw [this, Int.zero_mul, Int.zero_mul, Int.sub_self, Int.zero_tdiv]
  · rw [if_neg hf]
    exact ⟨h.bar, fun x hx => by have := h.asc x hx; omega, h.own, h.zer⟩
theorem RedS.run {n m : Nat} {A : Nat → Nat → Int} (hA : ∀ i, i < m → dotV (A i) (A i) n ≤ 64) : ∀ c, c ≤ n → RedS n m (Red.run m A c) c := by
  intro c
  induction c with
  | zero => intro _; exact ⟨BarS.start hA, fun x hx => (by cases hx), fun t h => absurd h (Nat.not_lt_zero _), fun t h => absurd h (Nat.not_lt_zero _)⟩
  | succ c ih => intro hc; exact (ih (by omega)).take (by omega)
/-- All numbers are of at most 2 to the power of 27. -/
structure LimS (n m : Nat) (s : Red) : Prop where
  lim : ∀ {i j : Nat}, i < m → j < n → -134217728 ≤ s.R i j ∧ s.R i j ≤ 134217728
  dlim : -134217728 ≤ s.D ∧ s.D ≤ 134217728
theorem RedS.limS {n m c : Nat} {s : Red} (h : RedS n m s c) (hm : m ≤ 9) : LimS n m s := ⟨fun hi hj => h.bar.lim hm hi hj, h.bar.dlim hm⟩
theorem LimS.swap {n m : Nat} {s : Red} (h : LimS n m s) {a b : Nat} (ha : a < m) (hb : b < m) {i j : Nat} (hi : i < m) (hj : j < n) : -134217728 ≤ barSwap s.R a b i j ∧ barSwap s.R a b i j ≤ 134217728 := by
  unfold barSwap
  split
  · exact h.lim hb hj
  · split
    · exact h.lim ha hj
    · exact h.lim hi hj
/-- The division is exact. -/
theorem RedS.exact {n m c : Nat} {s : Red} (h : RedS n m s c) (hc : c < n) (hf : s.first m c < m) {i j : Nat} (hi : i < m) (hne : i ≠ s.pv.length) (hj : j < n) :
    s.D * (s.take m c).R i j = barSwap s.R s.pv.length (s.first m c) i j * s.R (s.first m c) c - s.R (s.first m c) j * barSwap s.R s.pv.length (s.first m c) i c := by
  have hle := h.bar.le
  obtain ⟨g1, g2, g3, g4⟩ := fstI_spec (fun i => s.R i c != 0) (m - s.pv.length) s.pv.length
  have hnz : s.R (s.first m c) c ≠ 0 := by
    have := g3 (by show s.first m c < _; omega)
    exact fun e => by rw [show fstI _ _ _ = s.first m c from rfl] at this; simp [e] at this
  have hkf : s.pv.length ≤ s.first m c := g1
  unfold Red.take
  rw [if_pos hf]
  generalize s.first m c = f at *
  have b1 : BarS n m s.pv.length (barSwap s.R s.pv.length f) s.D := h.bar.swap hkf hf
  have hk : barSwap s.R s.pv.length f s.pv.length = s.R f := if_pos rfl
  obtain ⟨R', e1, e2, b2⟩ := b1.step (c := c) hc (by omega) (by rw [hk]; exact hnz)
  have := e2 i hi hne j hj
  rw [hk] at this
  show s.D * barStep _ _ _ _ i j = _
  unfold barStep
  rw [if_neg hne, hk, ← this, Int.mul_tdiv_cancel_left _ h.bar.nz]
def rowF (n : Nat) (f : Nat → Int) : List Int := (List.range n).map f
theorem rowF_len (n : Nat) (f : Nat → Int) : (rowF n f).length = n := by unfold rowF; rw [List.length_map, List.length_range]
theorem rowF_get {n j : Nat} {f : Nat → Int} (h : j < (rowF n f).length) : (rowF n f)[j] = f j := by
  simp only [rowF, List.getElem_map, List.getElem_range]
theorem rowF_getD {n j : Nat} {f : Nat → Int} (h : j < n) : (rowF n f).getD j 0 = f j := by
  rw [List.getD_eq_getElem?_getD, List.getElem?_eq_getElem (by rw [rowF_len]; exact h), Option.getD_some, rowF_get]
theorem rowF_congr {n : Nat} {f g : Nat → Int} (h : ∀ j, j < n → f j = g j) : rowF n f = rowF n g := by
  unfold rowF
  exact List.map_congr_left fun j hj => h j (List.mem_range.1 hj)
theorem rowF_of (v : List Int) : rowF v.length (fun j => v.getD j 0) = v := by
  apply List.ext_getElem (rowF_len ..)
  intro i h1 h2
  rw [rowF_get h1, List.getD_eq_getElem?_getD, List.getElem?_eq_getElem h2, Option.getD_some]
/-- A row without a column, as the specification writes it. -/
def wOut (P Q : List Int) (c n : Nat) : List Int :=
  rowF n fun j => P.getD j 0 * Int.tdiv (Q.getD c 0) (Int.gcd (P.getD c 0) (Q.getD c 0)) - Q.getD j 0 * Int.tdiv (P.getD c 0) (Int.gcd (P.getD c 0) (Q.getD c 0))
theorem prim_prop {n : Nat} {f g : Nat → Int} {a b : Int} (ha : a ≠ 0) (hb : b ≠ 0) (h : ∀ j, j < n → a * f j = b * g j) : primV (rowF n f) = primV (rowF n g) := by
  apply primV_prop ha hb
  unfold rowF
  rw [List.map_map, List.map_map]
  exact List.map_congr_left fun j hj => h j (List.mem_range.1 hj)
theorem prim_getD (n : Nat) (f : Nat → Int) : ∃ s : Int, s ≠ 0 ∧ ∀ j, j < n → f j = s * (primV (rowF n f)).getD j 0 := by
  obtain ⟨s, hs, e⟩ := primV_eq (rowF n f)
  refine ⟨s, hs, fun j hj => ?_⟩
  have hl : j < (rowF n f).length := by rw [rowF_len]; exact hj
  have hl2 : j < (primV (rowF n f)).length := by rw [primV_len]; exact hl
  have h1 : (rowF n f)[j]? = ((primV (rowF n f)).map (s * ·))[j]? := by rw [← e]
  rw [List.getElem?_map, List.getElem?_eq_getElem hl, List.getElem?_eq_getElem hl2, rowF_get] at h1
  rw [List.getD_eq_getElem?_getD, List.getElem?_eq_getElem hl2, Option.getD_some]
  exact Option.some.inj h1
/-- One row's step, as both sides take it. -/
theorem prim_step {n c : Nat} {r q r' : Nat → Int} {D : Int} (hD : D ≠ 0) (hc : c < n) (hq : q c ≠ 0) (h : ∀ j, j < n → D * r' j = r j * q c - q j * r c) :
    primV (rowF n r') = if (primV (rowF n r)).getD c 0 = 0 then primV (rowF n r) else primV (wOut (primV (rowF n r)) (primV (rowF n q)) c n) := by
  obtain ⟨s, hs, hr⟩ := prim_getD n r
  obtain ⟨t, ht, hq2⟩ := prim_getD n q
  by_cases e : (primV (rowF n r)).getD c 0 = 0
  · rw [if_pos e]
    have : r c = 0 := by rw [hr c hc, e, Int.mul_zero]
    refine prim_prop hD hq fun j hj => ?_
    rw [h j hj, this, Int.mul_zero, Int.sub_zero, Int.mul_comm]
  · rw [if_neg e]
    unfold wOut
    generalize primV (rowF n r) = P at *
    generalize primV (rowF n q) = Q at *
    have hg : ((Int.gcd (P.getD c 0) (Q.getD c 0) : Nat) : Int) ≠ 0 := by
      intro h0
      have : Int.gcd (P.getD c 0) (Q.getD c 0) = 0 := by omega
      exact e (Int.gcd_eq_zero_iff.1 this).1
    obtain ⟨x, hx⟩ := Int.gcd_dvd_right (P.getD c 0) (Q.getD c 0)
    obtain ⟨y, hy⟩ := Int.gcd_dvd_left (P.getD c 0) (Q.getD c 0)
    generalize ((Int.gcd (P.getD c 0) (Q.getD c 0) : Nat) : Int) = g at *
    refine prim_prop hD (b := s * t * g) (Int.mul_ne_zero (Int.mul_ne_zero hs ht) hg) fun j hj => ?_
    rw [h j hj, hr j hj, hq2 c hc, hq2 j hj, hr c hc, hx, hy, Int.mul_tdiv_cancel_left _ hg, Int.mul_tdiv_cancel_left _ hg]
    clear h hr hq2 hx hy e hq
    generalize P.getD j 0 = p at *
    generalize Q.getD j 0 = u at *
    grind
end Go.Proofs.Ytdkpmaahinbhlaa
/- The vectors that a reduced matrix takes to zero: the program's, by the last pivot, and the specification's, by the least common multiple, are the same in lowest terms; the rows that the specification keeps are the program's in lowest terms. Words on numbers. No condition. -/
namespace Go.Proofs.Ytdkpmaahinbhlaa

/-- A number of a reduced row in lowest terms. -/
def pcell (n : Nat) (s : Red) (i j : Nat) : Int := (primV (rowF n (s.R i))).getD j 0
/-- By how much row t asks the multiple to grow. -/
def nullQ (n : Nat) (s : Red) (free t : Nat) : Nat := (pcell n s t (s.pv.getD t 0)).natAbs / Nat.gcd (pcell n s t (s.pv.getD t 0)).natAbs (pcell n s t free).natAbs
/-- The least multiple that the first t rows allow. -/
def nullD (n : Nat) (s : Red) (free : Nat) : Nat → Nat
  | 0 => 1
  | t + 1 => Nat.lcm (nullD n s free t) (nullQ n s free t)
/-- The vector of a free column, as the program writes it. -/
def nullF (s : Red) (free : Nat) (t : Nat) : Nat → Int
  | j => if j = free then s.D else match t with
    | 0 => 0
    | t + 1 => if s.pv.getD t 0 = j then -s.R t free else nullF s free t j
/-- The same as the specification writes it. -/
def nullE (n : Nat) (s : Red) (free d : Nat) (t : Nat) : Nat → Int
  | j => if j = free then d else match t with
    | 0 => 0
    | t + 1 => if s.pv.getD t 0 = j then -(Int.tdiv (pcell n s t free * d) (pcell n s t (s.pv.getD t 0))) else nullE n s free d t j
def nullV (n : Nat) (s : Red) (free : Nat) : List Int := primV (rowF n (nullF s free s.pv.length))
theorem RedS.pv_lt {n m c : Nat} {s : Red} (h : RedS n m s c) {t : Nat} (ht : t < s.pv.length) : s.pv.getD t 0 < c ∧ s.R t (s.pv.getD t 0) = s.D := by
  rw [List.getD_eq_getElem?_getD, List.getElem?_eq_getElem ht, Option.getD_some]
  exact ⟨h.asc _ (List.getElem_mem ht), h.own t ht⟩
theorem RedS.pc {n m c : Nat} {s : Red} (h : RedS n m s c) (hc : c ≤ n) {free : Nat} (hf : free < n) {t : Nat} (ht : t < s.pv.length) :
    ∃ u : Int, u ≠ 0 ∧ s.D = u * pcell n s t (s.pv.getD t 0) ∧ s.R t free = u * pcell n s t free := by
  obtain ⟨u, hu, e⟩ := prim_getD n (s.R t)
  have := h.pv_lt ht
  exact ⟨u, hu, by rw [← this.2]; exact e _ (by omega), e _ hf⟩
theorem RedS.pnz {n m c : Nat} {s : Red} (h : RedS n m s c) (hc : c ≤ n) {t : Nat} (ht : t < s.pv.length) : pcell n s t (s.pv.getD t 0) ≠ 0 := by
  have h1 := h.pv_lt ht
  obtain ⟨u, hu, e1, e2⟩ := h.pc hc (free := s.pv.getD t 0) (by omega) ht
  intro e
  rw [e, Int.mul_zero] at e1
  exact h.bar.nz e1
theorem pcell_lim {n m c : Nat} {s : Red} (_h : RedS n m s c) (hm : LimS n m s) {i j : Nat} (hi : i < m) (hj : j < n) : -134217728 ≤ pcell n s i j ∧ pcell n s i j ≤ 134217728 := by
  obtain ⟨u, hu, e⟩ := prim_getD n (s.R i)
  have h1 := hm.lim hi hj
  rw [e j hj] at h1
  show -134217728 ≤ (primV (rowF n (s.R i))).getD j 0 ∧ (primV (rowF n (s.R i))).getD j 0 ≤ 134217728
  generalize (primV (rowF n (s.R i))).getD j 0 = x at *
  have ha : (u * x).natAbs ≤ 134217728 := by omega
  rw [Int.natAbs_mul] at ha
  have hb : 1 * x.natAbs ≤ u.natAbs * x.natAbs := Nat.mul_le_mul_right _ (by omega)
  omega
theorem RedS.nullQ_dvd {n m c : Nat} {s : Red} (h : RedS n m s c) (hc : c ≤ n) {free : Nat} (hf : free < n) {t : Nat} (ht : t < s.pv.length) : nullQ n s free t ∣ s.D.natAbs ∧ 0 < nullQ n s free t := by
  obtain ⟨u, hu, e1, e2⟩ := h.pc hc hf ht
  have hz := h.pnz hc ht
  unfold nullQ
  have hp : 0 < (pcell n s t (s.pv.getD t 0)).natAbs := by omega
  refine ⟨?_, Nat.div_pos (Nat.le_of_dvd hp (Nat.gcd_dvd_left ..)) (Nat.gcd_pos_of_pos_left _ hp)⟩
  rw [e1, Int.natAbs_mul]
  exact Nat.dvd_trans (Nat.div_dvd_of_dvd (Nat.gcd_dvd_left ..)) (Nat.dvd_mul_left ..)
theorem RedS.nullD_dvd {n m c : Nat} {s : Red} (h : RedS n m s c) (hc : c ≤ n) {free : Nat} (hf : free < n) : ∀ t, t ≤ s.pv.length → nullD n s free t ∣ s.D.natAbs ∧ 0 < nullD n s free t := by
  intro t
  induction t with
  | zero => intro _; exact ⟨Nat.one_dvd _, Nat.one_pos⟩
  | succ t ih =>
    intro ht
    obtain ⟨h1, h2⟩ := ih (by omega)
    obtain ⟨h3, h4⟩ := h.nullQ_dvd hc hf (t := t) (by omega)
    exact ⟨Nat.lcm_dvd h1 h3, Nat.lcm_pos h2 h4⟩
theorem nullQ_dvd_D (n : Nat) (s : Red) (free : Nat) : ∀ t u, u < t → nullQ n s free u ∣ nullD n s free t := by
  intro t
  induction t with
  | zero => intro u hu; omega
  | succ t ih =>
    intro u hu
    show _ ∣ Nat.lcm _ _
    by_cases e : u = t
    · subst e; exact Nat.dvd_lcm_right ..
    · exact Nat.dvd_trans (ih u (by omega)) (Nat.dvd_lcm_left ..)
/-- The quotient of the specification is exact, and the same multiple. -/
theorem RedS.nullX {n m c : Nat} {s : Red} (h : RedS n m s c) (hc : c ≤ n) {free : Nat} (hf : free < n) {t : Nat} (ht : t < s.pv.length) :
    s.D * Int.tdiv (pcell n s t free * (nullD n s free s.pv.length : Nat)) (pcell n s t (s.pv.getD t 0)) = (nullD n s free s.pv.length : Nat) * s.R t free := by
  obtain ⟨u, hu, e1, e2⟩ := h.pc hc hf ht
  have hz := h.pnz hc ht
  obtain ⟨y, hy⟩ := nullQ_dvd_D n s free s.pv.length t ht
  rw [e1, e2]
  unfold nullQ at hy
  generalize nullD n s free s.pv.length = d at *
  generalize pcell n s t (s.pv.getD t 0) = p at *
  generalize pcell n s t free = x at *
  have hd : p ∣ x * (d : Int) := by
    rw [← Int.natAbs_dvd_natAbs, Int.natAbs_mul, Int.natAbs_natCast, hy]
    obtain ⟨z, hz2⟩ := Nat.gcd_dvd_right p.natAbs x.natAbs
    have hg : p.natAbs / Nat.gcd p.natAbs x.natAbs * Nat.gcd p.natAbs x.natAbs = p.natAbs := Nat.div_mul_cancel (Nat.gcd_dvd_left ..)
    refine ⟨z * y, ?_⟩
    calc x.natAbs * (p.natAbs / Nat.gcd p.natAbs x.natAbs * y) = (Nat.gcd p.natAbs x.natAbs * z) * (p.natAbs / Nat.gcd p.natAbs x.natAbs * y) := by rw [← hz2]
      _ = (p.natAbs / Nat.gcd p.natAbs x.natAbs * Nat.gcd p.natAbs x.natAbs) * (z * y) := by
        generalize p.natAbs / Nat.gcd p.natAbs x.natAbs = k1
        generalize Nat.gcd p.natAbs x.natAbs = k2
        grind
      _ = p.natAbs * (z * y) := by rw [hg]
  obtain ⟨k, hk⟩ := hd
  rw [hk, Int.mul_tdiv_cancel_left _ hz]
  have : u * p * k = u * (p * k) := Int.mul_assoc ..
  rw [this, ← hk]
  grind
theorem RedS.null_eq {n m c : Nat} {s : Red} (h : RedS n m s c) (hc : c ≤ n) {free : Nat} (hf : free < n) :
    primV (rowF n (nullE n s free (nullD n s free s.pv.length) s.pv.length)) = nullV n s free := by
  have hd := (h.nullD_dvd hc hf s.pv.length (Nat.le_refl _)).2
  refine prim_prop h.bar.nz (b := (nullD n s free s.pv.length : Nat)) (by omega) fun j _ => ?_
  have key : ∀ t, t ≤ s.pv.length → s.D * nullE n s free (nullD n s free s.pv.length) t j = (nullD n s free s.pv.length : Nat) * nullF s free t j := by
    intro t
    induction t with
    | zero =>
      intro _
      unfold nullE nullF
      by_cases e : j = free
      · rw [if_pos e, if_pos e, Int.mul_comm]
      · rw [if_neg e, if_neg e]; dsimp only; omega
    | succ t ih =>
      intro ht
      unfold nullE nullF
      by_cases e : j = free
      · rw [if_pos e, if_pos e, Int.mul_comm]
      · rw [if_neg e, if_neg e]
        dsimp only
        by_cases e2 : s.pv.getD t 0 = j
        · rw [if_pos e2, if_pos e2, Int.mul_neg, h.nullX hc hf (by omega), Int.mul_neg]
        · rw [if_neg e2, if_neg e2]; exact ih (by omega)
  exact key _ (Nat.le_refl _)
/-- One round of the least common multiple, in numbers. -/
theorem lcm_round (d q : Nat) : Int.tdiv (d : Int) (Int.gcd (d : Int) (q : Int) : Nat) * (q : Int) = (Nat.lcm d q : Nat) := by
  have : Int.gcd (d : Int) (q : Int) = Nat.gcd d q := rfl
  rw [this, ← Int.ofNat_tdiv, ← Int.natCast_mul]
  congr 1
  rw [Nat.lcm, Nat.div_mul_right_comm (Nat.gcd_dvd_left ..)]
theorem prim_zero {n c : Nat} (hc : c < n) (f : Nat → Int) : (primV (rowF n f)).getD c 0 = 0 ↔ f c = 0 := by
  obtain ⟨u, hu, e⟩ := prim_getD n f
  rw [e c hc]
  constructor
  · intro h; rw [h, Int.mul_zero]
  · intro h; exact (Int.mul_eq_zero.1 h).resolve_left hu
theorem RedS.first_nz {n m c : Nat} {s : Red} (_h : RedS n m s c) (hf : s.first m c < m) : s.R (s.first m c) c ≠ 0 ∧ s.pv.length ≤ s.first m c ∧ s.pv.length < m := by
  obtain ⟨g1, g2, g3, g4⟩ := fstI_spec (fun i => s.R i c != 0) (m - s.pv.length) s.pv.length
  have g1' : s.pv.length ≤ s.first m c := g1
  have := g3 (by show s.first m c < _; omega)
  rw [show fstI _ _ _ = s.first m c from rfl] at this
  exact ⟨fun e => by simp [e] at this, g1', by omega⟩
/-- The rows of the specification behind a column, in lowest terms. -/
theorem RedS.spec_row {n m c : Nat} {s : Red} (h : RedS n m s c) (hc : c < n) (hf : s.first m c < m) {i : Nat} (hi : i < m) :
    primV (rowF n ((s.take m c).R i)) = if i = s.pv.length then primV (rowF n (s.R (s.first m c)))
      else if (primV (rowF n (barSwap s.R s.pv.length (s.first m c) i))).getD c 0 = 0 then primV (rowF n (barSwap s.R s.pv.length (s.first m c) i))
      else primV (wOut (primV (rowF n (barSwap s.R s.pv.length (s.first m c) i))) (primV (rowF n (s.R (s.first m c)))) c n) := by
  by_cases e : i = s.pv.length
  · rw [if_pos e]
    congr 1
    apply rowF_congr
    intro j _
    unfold Red.take
    rw [if_pos hf]
    show barStep _ _ _ _ i j = _
    unfold barStep barSwap
    rw [if_pos e, if_pos rfl]
  · rw [if_neg e]
    exact prim_step h.bar.nz hc (h.first_nz hf).1 fun j hj => h.exact hc hf hi e hj
theorem Red.take_pv {m c : Nat} {s : Red} (hf : s.first m c < m) : (s.take m c).pv = s.pv ++ [c] ∧ (s.take m c).D = s.R (s.first m c) c := by
  unfold Red.take; rw [if_pos hf]; exact ⟨rfl, rfl⟩
theorem Red.take_no {m c : Nat} {s : Red} (hf : ¬ s.first m c < m) : s.take m c = s := by
  unfold Red.take; rw [if_neg hf]
end Go.Proofs.Ytdkpmaahinbhlaa
/- What stands in memory while spec.l9Reduced runs: the rows, their row, and the columns. No program's walk. No condition. -/
namespace Go.Proofs.Ytdkpmaahinbhlaa
open Go.RowKit

structure RedW (W : World) (B gh cap m n : Nat) (S : Nat → Option Addr × Nat) (P : Nat → List Int) (Ac : Option Addr) (cc clo chi : Nat) (cs : List Int) : Prop where
  own : W.ownsRow B 29 1 (.slice (some ⟨gh, 0, none⟩) m cap) m ((List.range m).map fun i => .slice (S i).1 n (S i).2)
  row : ∀ i, i < m → (P i).length = n ∧ ∃ r : Nat × Nat, IntsIn W r.1 r.2 (S i).1 (P i) ∧ B ≤ r.1 ∧ (gh < r.1 ∨ r.2 ≤ gh) ∧ (r.2 ≤ clo ∨ chi ≤ r.1)
  col : OwnR W clo chi Ac cc cs
  sep : gh < clo ∨ chi ≤ gh
  bnd : B ≤ clo ∧ clo ≤ W.heap.size
theorem RedW.lt {W : World} {B gh cap m n : Nat} {S : Nat → Option Addr × Nat} {P : Nat → List Int} {Ac : Option Addr} {cc clo chi : Nat} {cs : List Int} (h : RedW W B gh cap m n S P Ac cc clo chi cs) : B ≤ gh ∧ gh < W.heap.size := World.ownsRow.lt h.own gh rfl
theorem RedW.head {W : World} {B gh cap m n : Nat} {S : Nat → Option Addr × Nat} {P : Nat → List Int} {Ac : Option Addr} {cc clo chi : Nat} {cs : List Int} (h : RedW W B gh cap m n S P Ac cc clo chi cs) {i : Nat} (hi : i < m) : W.cell? ⟨gh, i, none⟩ = some (.slice (S i).1 n (S i).2) := by
  have := World.ownsRow.cellAt h.own i (by omega)
  rw [List.getElem?_map, List.getElem?_range hi] at this
  exact this
theorem RedW.num {W : World} {B gh cap m n : Nat} {S : Nat → Option Addr × Nat} {P : Nat → List Int} {Ac : Option Addr} {cc clo chi : Nat} {cs : List Int} (h : RedW W B gh cap m n S P Ac cc clo chi cs) {i j : Nat} (hi : i < m) (hj : j < n) :
    ∃ bi oi, (S i).1 = some ⟨bi, oi, none⟩ ∧ W.cell? ⟨bi, oi + j, none⟩ = some (.int .i64 ((P i).getD j 0)) := by
  obtain ⟨hl, r, hI, _⟩ := h.row i hi
  obtain ⟨bi, oi, e, _, _, hc⟩ := hI.2 (by omega)
  exact ⟨bi, oi, e, hc j (by omega)⟩
theorem own_blk {W W' : World} {B gh cap m : Nat} {t : TypeId} {xs : List Value} (h : W.ownsRow B t 1 (.slice (some ⟨gh, 0, none⟩) m cap) m xs) (e : W'.heap[gh]? = W.heap[gh]?) : W'.ownsRow B t 1 (.slice (some ⟨gh, 0, none⟩) m cap) m xs := by
  obtain ⟨l1, l2⟩ := h
  refine ⟨l1, ?_⟩
  rcases l2 with l2 | ⟨g2, c2, cur, e1, e2, e3, e4⟩
  · cases l2.1
  · cases e1
    exact .inr ⟨gh, cap, cur, rfl, e2, e.trans e3, e4⟩
theorem RedW.below {W W' : World} {B gh cap m n : Nat} {S : Nat → Option Addr × Nat} {P : Nat → List Int} {Ac : Option Addr} {cc clo chi : Nat} {cs : List Int} (h : RedW W B gh cap m n S P Ac cc clo chi cs) (hb : Below W.heap.size W W') : RedW W' B gh cap m n S P Ac cc clo chi cs := by
  have hl := h.lt
  refine ⟨own_blk h.own (hb.block gh hl.2), fun i hi => ?_, h.col.within (within_of hb) (.inr (Nat.zero_le _)), h.sep, h.bnd.1, Nat.le_trans h.bnd.2 hb.size⟩
  obtain ⟨h1, r, h2, h3⟩ := h.row i hi
  exact ⟨h1, r, h2.within (within_of hb) (.inr (Nat.zero_le _)), h3⟩
def updA {α : Type} (f : Nat → α) (i : Nat) (x : α) : Nat → α := fun j => if j = i then x else f j
/-- Another row put in its place. -/
theorem RedW.put {W : World} {B gh cap m n : Nat} {S : Nat → Option Addr × Nat} {P : Nat → List Int} {Ac : Option Addr} {cc clo chi : Nat} {cs : List Int} (h : RedW W B gh cap m n S P Ac cc clo chi cs) {i : Nat} (_hi : i < m) {A' : Option Addr} {c' : Nat} {Z : List Int}
    (hZ : Z.length = n) (hr : ∃ r : Nat × Nat, IntsIn W r.1 r.2 A' Z ∧ B ≤ r.1 ∧ (gh < r.1 ∨ r.2 ≤ gh) ∧ (r.2 ≤ clo ∨ chi ≤ r.1)) :
    RedW (W.setCell ⟨gh, i, none⟩ (.slice A' n c')) B gh cap m n (updA S i (A', c')) (updA P i Z) Ac cc clo chi cs ∧ Within gh (gh + 1) W (W.setCell ⟨gh, i, none⟩ (.slice A' n c')) := by
  have hst := World.ownsRow.stored h.own i (.slice A' n c')
  have hw : Within gh (gh + 1) W (W.setCell ⟨gh, i, none⟩ (.slice A' n c')) := ⟨hst.2.os, hst.2.tape, hst.2.output, hst.2.size, fun k hk hd => hst.2.block k hk (by simp; omega)⟩
  refine ⟨⟨?_, fun k hk => ?_, ?_, h.sep, h.bnd.1, Nat.le_trans h.bnd.2 hw.size⟩, hw⟩
  · have e : ((List.range m).map fun i => Value.slice (S i).1 n (S i).2).set i (.slice A' n c') = (List.range m).map fun k => Value.slice (updA S i (A', c') k).1 n (updA S i (A', c') k).2 := by
      apply List.ext_getElem (by simp)
      intro k h1 h2
      have r1 : ((List.range m).map fun k => Value.slice (updA S i (A', c') k).1 n (updA S i (A', c') k).2)[k]'h2 = Value.slice (updA S i (A', c') k).1 n (updA S i (A', c') k).2 := by
        rw [List.getElem_map, List.getElem_range]
      rw [r1, List.getElem_set]
      by_cases e : i = k
      · subst e; rw [if_pos rfl, updA, if_pos rfl]
      · rw [if_neg e, updA, if_neg (fun h => e h.symm), List.getElem_map, List.getElem_range]
    rw [← e]; exact hst.1
  · obtain ⟨h1, r, h2, h3, h4, h5⟩ := h.row k hk
    unfold updA
    by_cases e : k = i
    · rw [if_pos e, if_pos e]
      obtain ⟨q, q1, q2, q3, q4⟩ := hr
      exact ⟨hZ, q, q1.within hw (by omega), q2, q3, q4⟩
    · rw [if_neg e, if_neg e]
      exact ⟨h1, r, h2.within hw (by omega), h3, h4, h5⟩
  · have := h.sep
    exact h.col.within hw (by omega)
/-- A column more. -/
theorem RedW.push {W W' : World} {B gh cap m n : Nat} {S : Nat → Option Addr × Nat} {P : Nat → List Int} {Ac A' : Option Addr} {cc c' clo chi lo' hi' : Nat} {cs : List Int} {y : Int} (h : RedW W B gh cap m n S P Ac cc clo chi cs)
    (hr : OwnR W' lo' hi' A' c' (cs ++ [y])) (hd : (lo' = clo ∧ hi' = chi) ∨ (W.heap.size ≤ lo' ∧ lo' ≤ W'.heap.size ∧ hi' ≤ W'.heap.size)) (hw : Within clo chi W W') : RedW W' B gh cap m n S P A' c' lo' hi' (cs ++ [y]) := by
  have hl := h.lt
  have hs := h.sep
  have hb := h.bnd
  have hsz := hw.size
  refine ⟨own_blk h.own (hw.block gh hl.2 (by omega)), fun i hi => ?_, hr, by omega, by omega⟩
  obtain ⟨h1, r, h2, h3, h4, h5⟩ := h.row i hi
  have := h2.1
  exact ⟨h1, r, h2.within hw (by omega), h3, h4, by omega⟩
theorem RowsG.red {W : World} {B T lo hi : Nat} {A : Option Addr} {cap : Nat} {rs : List (List Int)} (h : RowsG W B T lo hi A cap rs) {n : Nat} (h0 : 0 < rs.length) (hn : ∀ i, i < rs.length → (rs.getD i []).length = n) :
    ∃ gh S, A = some ⟨gh, 0, none⟩ ∧ ∀ W', Below W.heap.size W W' → ∀ Ac cc clo chi cs, OwnR W' clo chi Ac cc cs → W.heap.size ≤ clo → clo ≤ W'.heap.size → RedW W' B gh cap rs.length n S (fun i => rs.getD i []) Ac cc clo chi cs := by
  obtain ⟨ht, hoB, zs, r, S, h1, h2, h3, h4⟩ := h
  rcases h2.2 with ⟨_, _, e⟩ | ⟨gh, rfl, g1, g2, ho⟩
  · rw [e] at h1; simp at h1; omega
  · refine ⟨gh, S, rfl, fun W' hb Ac cc clo chi cs hc hc1 hc2 => ?_⟩
    have hsz := h2.1
    have e : zs = (List.range rs.length).map fun i => Value.slice (S i).1 n (S i).2 := by
      apply List.ext_getElem (by simp [h1])
      intro k k1 k2
      have hk : k < rs.length := by omega
      have := (h4 k hk).1
      rw [hn k hk, List.getD_eq_getElem?_getD, List.getElem?_eq_getElem k1, Option.getD_some] at this
      rw [this]; simp
    refine ⟨?_, fun i hi => ?_, hc, by omega, by omega⟩
    · rw [← e, ← h1]
      have ho2 : W'.ownsRow lo 29 1 (.slice (some ⟨gh, 0, none⟩) zs.length cap) zs.length zs := own_blk ho (hb.block gh (by omega))
      obtain ⟨l1, l2⟩ := ho2
      refine ⟨l1, ?_⟩
      rcases l2 with l2 | ⟨g3, c3, cur, e1, e2, e3⟩
      · exact .inl l2
      · cases e1
        exact .inr ⟨gh, cap, cur, rfl, by omega, e3⟩
    · obtain ⟨q1, q2, q3, q4, q5⟩ := h4 i hi
      unfold Dis at q5
      dsimp only at q5
      exact ⟨hn i hi, r i, (q2.reads.within (within_of hb) (.inr (Nat.zero_le _))), q3, by omega, by omega⟩
theorem RedW.congr {W : World} {B gh cap m n : Nat} {S : Nat → Option Addr × Nat} {P P' : Nat → List Int} {Ac : Option Addr} {cc clo chi : Nat} {cs : List Int} (h : RedW W B gh cap m n S P Ac cc clo chi cs) (e : ∀ i, i < m → P i = P' i) : RedW W B gh cap m n S P' Ac cc clo chi cs :=
  ⟨h.own, fun i hi => by rw [← e i hi]; exact h.row i hi, h.col, h.sep, h.bnd⟩
end Go.Proofs.Ytdkpmaahinbhlaa
/- A drawn matrix in memory: rows of its own, whose headers may be replaced. No condition. -/
namespace Go.Proofs.Ytdkpmaahinbhlaa
open Go.RowKit

structure MW (W : World) (B gh cap R : Nat) (S : Nat → Option Addr × Nat) (P : Nat → List Int) : Prop where
  own : W.ownsRow B 29 1 (.slice (some ⟨gh, 0, none⟩) R cap) R ((List.range R).map fun i => .slice (S i).1 (P i).length (S i).2)
  rows : ∃ r : Nat → Nat × Nat, ∀ i, i < R → OwnInts W (r i).1 (r i).2 (S i).1 (S i).2 (P i) ∧ B ≤ (r i).1 ∧ (gh < (r i).1 ∨ (r i).2 ≤ gh) ∧ (0 < i → (r 0).2 ≤ (r i).1 ∨ (r i).2 ≤ (r 0).1)
theorem MW.lt {W : World} {B gh cap R : Nat} {S : Nat → Option Addr × Nat} {P : Nat → List Int} (h : MW W B gh cap R S P) : B ≤ gh ∧ gh < W.heap.size := World.ownsRow.lt h.own gh rfl
theorem MW.head {W : World} {B gh cap R : Nat} {S : Nat → Option Addr × Nat} {P : Nat → List Int} (h : MW W B gh cap R S P) {i : Nat} (hi : i < R) : W.cell? ⟨gh, i, none⟩ = some (.slice (S i).1 (P i).length (S i).2) := by
  have := World.ownsRow.cellAt h.own i (by omega)
  rw [List.getElem?_map, List.getElem?_range hi] at this
  exact this
theorem MW.within {W W' : World} {B gh cap R lo hi : Nat} {S : Nat → Option Addr × Nat} {P : Nat → List Int} (h : MW W B gh cap R S P) (hw : Within lo hi W W') (hd : hi ≤ B) : MW W' B gh cap R S P := by
  have hl := h.lt
  obtain ⟨r, hr⟩ := h.rows
  exact ⟨own_blk h.own (hw.block gh hl.2 (.inr (by omega))), r, fun i hi => by
    obtain ⟨h1, h2, h3, h4⟩ := hr i hi
    exact ⟨h1.within hw (.inr (by omega)), h2, h3, h4⟩⟩
theorem RowsG.mw {W : World} {B T lo hi : Nat} {A : Option Addr} {cap : Nat} {rs : List (List Int)} (h : RowsG W B T lo hi A cap rs) (h0 : 0 < rs.length) :
    ∃ gh S, A = some ⟨gh, 0, none⟩ ∧ MW W B gh cap rs.length S (fun i => rs.getD i []) := by
  obtain ⟨ht, hoB, zs, r, S, h1, h2, h3, h4⟩ := h
  rcases h2.2 with ⟨_, _, e⟩ | ⟨gh, rfl, g1, g2, ho⟩
  · rw [e] at h1; simp at h1; omega
  · refine ⟨gh, S, rfl, ?_, r, fun i hi => ?_⟩
    · have e : zs = (List.range rs.length).map fun i => Value.slice (S i).1 (rs.getD i []).length (S i).2 := by
        apply List.ext_getElem (by simp [h1])
        intro k k1 k2
        have hk : k < rs.length := by omega
        have := (h4 k hk).1
        rw [List.getD_eq_getElem?_getD, List.getElem?_eq_getElem k1, Option.getD_some] at this
        rw [this]; simp
      rw [← e, ← h1]
      obtain ⟨l1, l2⟩ := ho
      refine ⟨l1, ?_⟩
      rcases l2 with l2 | ⟨g3, c3, cur, e1, e2, e3⟩
      · exact .inl l2
      · cases e1
        exact .inr ⟨gh, cap, cur, rfl, by omega, e3⟩
    · obtain ⟨q1, q2, q3, q4, q5⟩ := h4 i hi
      unfold Dis at q5
      dsimp only at q5
      exact ⟨q2, q3, by omega, fun hp => h3 0 i hp hi⟩
/-- Another row put behind the first. -/
theorem MW.below {W W' : World} {B gh cap R : Nat} {S : Nat → Option Addr × Nat} {P : Nat → List Int} (h : MW W B gh cap R S P) (hb : Below W.heap.size W W') : MW W' B gh cap R S P := h.within (within_of hb) (Nat.zero_le _)
theorem MW.put {W0 W : World} {B gh cap R : Nat} {S : Nat → Option Addr × Nat} {P : Nat → List Int} (h0 : MW W0 B gh cap R S P) (hb : Below W0.heap.size W0 W) {i : Nat} (_hi : i < R) (hi0 : 0 < i) {A' : Option Addr} {c' lo hi : Nat} {Z : List Int}
    (hZ : OwnInts W lo hi A' c' Z) (hlo : W0.heap.size ≤ lo) :
    MW (W.setCell ⟨gh, i, none⟩ (.slice A' Z.length c')) B gh cap R (updA S i (A', c')) (updA P i Z) ∧ Within gh (gh + 1) W (W.setCell ⟨gh, i, none⟩ (.slice A' Z.length c')) := by
  have h := h0.below hb
  have hl0 := h0.lt
  have hst := World.ownsRow.stored h.own i (.slice A' Z.length c')
  have hw : Within gh (gh + 1) W (W.setCell ⟨gh, i, none⟩ (.slice A' Z.length c')) := ⟨hst.2.os, hst.2.tape, hst.2.output, hst.2.size, fun k hk hd => hst.2.block k hk (by simp; omega)⟩
  obtain ⟨r, hr0⟩ := h0.rows
  have hrr : ∀ i, i < R → OwnInts W (r i).1 (r i).2 (S i).1 (S i).2 (P i) ∧ B ≤ (r i).1 ∧ (gh < (r i).1 ∨ (r i).2 ≤ gh) ∧ (0 < i → (r 0).2 ≤ (r i).1 ∨ (r i).2 ≤ (r 0).1) := fun i hi => by
    obtain ⟨q1, q2⟩ := hr0 i hi
    exact ⟨q1.within (within_of hb) (.inr (Nat.zero_le _)), q2⟩
  refine ⟨⟨?_, updA r i (lo, hi), fun k hk => ?_⟩, hw⟩
  · have e : ((List.range R).map fun i => Value.slice (S i).1 (P i).length (S i).2).set i (.slice A' Z.length c') = (List.range R).map fun k => Value.slice (updA S i (A', c') k).1 (updA P i Z k).length (updA S i (A', c') k).2 := by
      apply List.ext_getElem (by simp)
      intro k h1 h2
      have r1 : ((List.range R).map fun k => Value.slice (updA S i (A', c') k).1 (updA P i Z k).length (updA S i (A', c') k).2)[k]'h2 = Value.slice (updA S i (A', c') k).1 (updA P i Z k).length (updA S i (A', c') k).2 := by
        rw [List.getElem_map, List.getElem_range]
      rw [r1, List.getElem_set]
      by_cases e : i = k
      · subst e; rw [if_pos rfl, updA, if_pos rfl, updA, if_pos rfl]
      · rw [if_neg e, updA, if_neg (fun h => e h.symm), updA, if_neg (fun h => e h.symm), List.getElem_map, List.getElem_range]
    rw [← e]; exact hst.1
  · have u0 : updA r i (lo, hi) 0 = r 0 := by unfold updA; rw [if_neg (by omega)]
    by_cases e : k = i
    · subst e
      rw [u0]
      unfold updA
      rw [if_pos rfl, if_pos rfl, if_pos rfl]
      refine ⟨hZ.within hw (.inr (by omega)), by omega, .inl (by omega), fun _ => ?_⟩
      have := (hr0 0 (by omega)).1.1
      exact .inl (by omega)
    · rw [u0]
      unfold updA
      rw [if_neg e, if_neg e, if_neg e]
      obtain ⟨q1, q2, q3, q4⟩ := hrr k hk
      exact ⟨q1.within hw (by omega), q2, q3, q4⟩
def mwL (R : Nat) (P : Nat → List Int) : List (List Int) := (List.range R).map P
theorem mwL_len (R : Nat) (P : Nat → List Int) : (mwL R P).length = R := by simp [mwL]
theorem mwL_get {R i : Nat} {P : Nat → List Int} (h : i < R) : (mwL R P).getD i [] = P i := by simp [mwL, List.getD, h]
/-- It reads as rows. -/
theorem MW.reads {W : World} {B gh cap R : Nat} {S : Nat → Option Addr × Nat} {P : Nat → List Int} (h : MW W B gh cap R S P) : RowsIn W B W.heap.size (some ⟨gh, 0, none⟩) (mwL R P) := by
  have hl := h.lt
  obtain ⟨r, hr⟩ := h.rows
  refine ⟨Nat.le_refl _, fun _ => ⟨gh, 0, rfl, hl.1, hl.2, fun k hk => ?_⟩⟩
  rw [mwL_len] at hk
  rw [mwL_get hk]
  obtain ⟨h1, h2, h3, h4⟩ := hr k hk
  exact ⟨(S k).1, (S k).2, by rw [Nat.zero_add]; exact h.head hk, h1.reads.widen h2 h1.1 (Nat.le_refl _)⟩
/-- It reads as rows, the first one replaced by what else is read there. -/
theorem MW.swap0 {W : World} {B gh cap R : Nat} {S : Nat → Option Addr × Nat} {P : Nat → List Int} (h : MW W B gh cap R S P) {A' : Option Addr} {c' : Nat} {Z : List Int} (hZ : ∃ r : Nat × Nat, IntsIn W r.1 r.2 A' Z ∧ B ≤ r.1 ∧ (gh < r.1 ∨ r.2 ≤ gh)) :
    RowsIn (W.setCell ⟨gh, 0, none⟩ (.slice A' Z.length c')) B W.heap.size (some ⟨gh, 0, none⟩) (mwL R (updA P 0 Z)) ∧ Within gh (gh + 1) W (W.setCell ⟨gh, 0, none⟩ (.slice A' Z.length c')) := by
  have hl := h.lt
  have hst := World.ownsRow.stored h.own 0 (.slice A' Z.length c')
  have hw : Within gh (gh + 1) W (W.setCell ⟨gh, 0, none⟩ (.slice A' Z.length c')) := ⟨hst.2.os, hst.2.tape, hst.2.output, hst.2.size, fun k hk hd => hst.2.block k hk (by simp; omega)⟩
  obtain ⟨r, hr⟩ := h.rows
  refine ⟨⟨hw.size, fun _ => ⟨gh, 0, rfl, hl.1, hl.2, fun k hk => ?_⟩⟩, hw⟩
  rw [mwL_len] at hk
  rw [mwL_get hk, Nat.zero_add]
  have hc := World.ownsRow.cellAt hst.1 k (by omega)
  rw [List.getElem?_set] at hc
  by_cases e : k = 0
  · subst e
    rw [if_pos rfl, if_pos (by simp; omega)] at hc
    unfold updA
    rw [if_pos rfl]
    obtain ⟨q, q1, q2, q3⟩ := hZ
    exact ⟨A', c', hc, (q1.within hw (by omega)).widen q2 (Nat.le_trans q1.1 (Nat.le_refl _)) hw.size⟩
  · rw [if_neg (fun x => e x.symm), List.getElem?_map, List.getElem?_range hk] at hc
    unfold updA
    rw [if_neg e]
    obtain ⟨h1, h2, h3, h4⟩ := hr k hk
    exact ⟨(S k).1, (S k).2, hc, (h1.within hw (by omega)).reads.widen h2 h1.1 hw.size⟩
/-- It reads as rows, a number of the first one replaced. -/
theorem MW.cell0 {W : World} {B gh cap R : Nat} {S : Nat → Option Addr × Nat} {P : Nat → List Int} (h : MW W B gh cap R S P) (h0 : 0 < R) (hP : 0 < (P 0).length) :
    ∃ g0, (S 0).1 = some ⟨g0, 0, none⟩ ∧ g0 ≠ gh ∧ B ≤ g0 ∧ g0 < W.heap.size ∧ (∃ v, W.cell? ⟨g0, 0, none⟩ = some (.int .i64 v)) ∧ W.frozen? ⟨g0, 0, none⟩ = false ∧ ∀ x : Int,
      RowsIn (W.setCell ⟨g0, 0, none⟩ (.int .i64 x)) B W.heap.size (some ⟨gh, 0, none⟩) (mwL R (updA P 0 ((P 0).set 0 x))) ∧ Within g0 (g0 + 1) W (W.setCell ⟨g0, 0, none⟩ (.int .i64 x)) := by
  have hl := h.lt
  obtain ⟨r, hr⟩ := h.rows
  obtain ⟨a1, a2, a3, a4⟩ := hr 0 h0
  rcases a1.2 with e | ⟨g0, e, b1, b2, ho⟩
  · rw [e] at hP; exact absurd hP (Nat.lt_irrefl _)
  · have hlt := World.ownsRow.lt ho g0 rfl
    have hc0 := World.ownsRow.cellAt ho 0 (by omega)
    have hf := World.ownsRow.frozenAt ho 0
    refine ⟨g0, e, by omega, by omega, hlt.2, ?_, hf, fun x => ?_⟩
    · refine ⟨(P 0)[0], ?_⟩
      rw [show (intCells (P 0))[0]? = some (Value.int .i64 ((P 0)[0])) by simp [intCells, hP]] at hc0
      exact hc0
    · have hst := World.ownsRow.stored ho 0 (.int .i64 x)
      have hw : Within g0 (g0 + 1) W (W.setCell ⟨g0, 0, none⟩ (.int .i64 x)) := ⟨hst.2.os, hst.2.tape, hst.2.output, hst.2.size, fun k hk hd => hst.2.block k hk (by simp; omega)⟩
      refine ⟨⟨hw.size, fun _ => ⟨gh, 0, rfl, hl.1, hl.2, fun k hk => ?_⟩⟩, hw⟩
      rw [mwL_len] at hk
      rw [mwL_get hk, Nat.zero_add]
      have hh := (World.cell?_of_block (a := ⟨gh, k, none⟩) (hw.block gh hl.2 (by omega))).trans (h.head hk)
      by_cases e2 : k = 0
      · subst e2
        unfold updA
        rw [if_pos rfl, List.length_set]
        refine ⟨(S 0).1, (S 0).2, hh, ?_⟩
        have hs := hst.1
        have es : (intCells (P 0)).set 0 (.int .i64 x) = intCells ((P 0).set 0 x) := by simp [intCells]
        rw [es] at hs
        have ho2 : OwnInts (W.setCell ⟨g0, 0, none⟩ (.int .i64 x)) (r 0).1 (r 0).2 (S 0).1 (S 0).2 ((P 0).set 0 x) := ⟨Nat.le_trans a1.1 hw.size, .inr ⟨g0, e, b1, b2, by rw [List.length_set]; exact hs⟩⟩
        exact ho2.reads.widen a2 a1.1 hw.size
      · unfold updA
        rw [if_neg e2]
        obtain ⟨h1, h2, h3, h4⟩ := hr k hk
        have := h4 (by omega)
        exact ⟨(S k).1, (S k).2, hh, (h1.within hw (by omega)).reads.widen h2 h1.1 hw.size⟩
theorem MW.drop0 {W : World} {B gh cap R : Nat} {S : Nat → Option Addr × Nat} {P : Nat → List Int} (h : MW W B gh cap R S P) (h0 : 0 < R) (hP : 0 < (P 0).length) {g0 : Nat} (hS : (S 0).1 = some ⟨g0, 0, none⟩) :
    ∃ r : Nat × Nat, IntsIn W r.1 r.2 (some ⟨g0, 1, none⟩) ((P 0).drop 1) ∧ B ≤ r.1 ∧ (gh < r.1 ∨ r.2 ≤ gh) := by
  obtain ⟨r, hr⟩ := h.rows
  obtain ⟨a1, a2, a3, a4⟩ := hr 0 h0
  refine ⟨r 0, ⟨a1.1, fun _ => ?_⟩, a2, a3⟩
  obtain ⟨b, off, e, b1, b2, hc⟩ := a1.reads.2 hP
  rw [hS] at e
  cases e
  refine ⟨g0, 1, rfl, b1, b2, fun k hk => ?_⟩
  rw [List.length_drop] at hk
  have := hc (k + 1) (by omega)
  rw [Nat.zero_add] at this
  rw [Nat.add_comm 1 k, this, List.getD_eq_getElem?_getD, List.getD_eq_getElem?_getD, List.getElem?_drop, Nat.add_comm 1 k]
theorem MW.row0 {W : World} {B gh cap R : Nat} {S : Nat → Option Addr × Nat} {P : Nat → List Int} (h : MW W B gh cap R S P) (h0 : 0 < R) : ∃ r : Nat × Nat, IntsIn W r.1 r.2 (S 0).1 (P 0) := by
  obtain ⟨r, hr⟩ := h.rows
  exact ⟨r 0, (hr 0 h0).1.reads⟩
theorem rowsIn_wid {W : World} {lo hi lo' hi' : Nat} {A : Option Addr} {rs : List (List Int)} (h : RowsIn W lo hi A rs) (h1 : lo' ≤ lo) (h2 : hi ≤ hi') (h3 : hi' ≤ W.heap.size) : RowsIn W lo' hi' A rs :=
  ⟨h3, fun hl => by
    obtain ⟨b, off, e, q1, q2, hc⟩ := h.2 hl
    exact ⟨b, off, e, by omega, by omega, fun k hk => by
      obtain ⟨A', c', p1, p2⟩ := hc k hk
      exact ⟨A', c', p1, p2.widen h1 h2 h3⟩⟩⟩
end Go.Proofs.Ytdkpmaahinbhlaa
/- The greatest common divisor of two numbers, as both sides find it. No condition. -/
namespace Go.Proofs.Ytdkpmaahinbhlaa
open Go.RowKit

/-- A number that is not too large. -/
def OkG (a : Int) : Prop := -9000000000000000000 ≤ a ∧ a ≤ 9000000000000000000
instance (a : Int) : Decidable (OkG a) := by unfold OkG; exact inferInstance
def gcdV (a b : Int) : Int := if OkG a ∧ OkG b then (Int.gcd a b : Int) else 0
theorem l1In_g (a : Int) (w : World) :
    Calls Try.prog 125 #[.int .i64 a, .int .i64 (-9000000000000000000), .int .i64 9000000000000000000] w fun e w' => e = .returned (.bool (decide (OkG a))) ∧ w = w' := by
  by_cases h : OkG a
  · rw [decide_eq_true h]; exact l1In_yes a _ _ w h.1 h.2
  · rw [decide_eq_false h]; exact l1In_no a _ _ w (by unfold OkG at h; omega)
theorem hasGcd_c (a : Int) (w : World) :
    Calls Try.prog 157 #[.int .i64 a] w fun e w' => e = .returned (.bool (decide (OkG a))) ∧ w = w' := by
  by_cases h1 : -9000000000000000000 ≤ a
  · have h1' : decide (-9000000000000000000 ≤ a) = true := by simpa using h1
    by_cases h2 : a ≤ 9000000000000000000
    · have h2' : decide (a ≤ 9000000000000000000) = true := by simpa using h2
      rw [decide_eq_true (show OkG a from ⟨h1, h2⟩)]
      go_enter Try.func157, Try.ntmps157
      go_wp2
      go_ret
      exact ⟨rfl, rfl⟩
    · have h2' : decide (a ≤ 9000000000000000000) = false := by simp; omega
      rw [decide_eq_false (show ¬ OkG a from fun h => h2 h.2)]
      clear h2
      go_enter Try.func157, Try.ntmps157
      go_wp2
      go_ret
      exact ⟨rfl, rfl⟩
  · have h1' : decide (-9000000000000000000 ≤ a) = false := by simp; omega
    rw [decide_eq_false (show ¬ OkG a from fun h => h1 h.1)]
    clear h1
    go_enter Try.func157, Try.ntmps157
    go_wp2
    go_ret
    exact ⟨rfl, rfl⟩

set_option maxHeartbeats 2000000 in
set_option maxRecDepth 100000 in
theorem specGcd (a b : Int) (w : World) :
    Calls Try.prog 76 #[.int .i64 a, .int .i64 b] w fun e w' => e = .returned (.int .i64 (gcdV a b)) ∧ w = w' := by
  have HA := Lib.hid (l1In_g a w)
  have HB := Lib.hid (l1In_g b w)
  by_cases ha : OkG a
  · by_cases hb : OkG b
    · have hv : gcdV a b = (Int.gcd a b : Int) := if_pos ⟨ha, hb⟩
      rw [hv]
      rw [decide_eq_true ha] at HA
      rw [decide_eq_true hb] at HB
      obtain ⟨a1, a2⟩ := ha
      obtain ⟨b1, b2⟩ := hb
      clear hv
      obtain ⟨g, hg⟩ : ∃ g, (Int.gcd a b : Int) = g := ⟨_, rfl⟩
      rw [hg]
      have HG := Lib.hid hg
      clear hg
      go_enter Try.func76, Try.ntmps76
      go_wp2_with fail
      refine HA.out.mono ?_
      rintro e w1 ⟨rfl, rfl⟩
      go_wp2_with fail
      refine HB.out.mono ?_
      rintro e w1 ⟨rfl, rfl⟩
      go_wp2_with fail
      go_loopw [0, 1, 5] (fun x y _ wr => wr = w ∧ ∃ p q : Nat, x = .int .i64 p ∧ y = .int .i64 q ∧ p ≤ 9000000000000000000 ∧ q ≤ 9000000000000000000 ∧ (Nat.gcd p q : Int) = g) (fun _ y _ _ => (intOf y).toNat)
      case atStart => exact ⟨rfl, a.natAbs, b.natAbs, by congr 1; omega, by congr 1; omega, by omega, by omega, HG.out⟩
      case round =>
        obtain ⟨rfl, p, q, rfl, rfl, hp, hq, hpq⟩ := hrel
        have HPQ := Lib.hid hpq
        clear hpq
        by_cases h0 : 0 < q
        · have h0' : (0 : Int) < (q : Int) := by omega
          have hr : Int.tmod (p : Int) (q : Int) = ((p % q : Nat) : Int) := rfl
          have hlt := Nat.mod_lt p h0
          go_wp2_with fail
          go_roundw
          case rel => exact ⟨by simp, q, p % q, rfl, by go_num, hq, by omega, by rw [← HPQ.out, Nat.gcd_comm q, ← Nat.gcd_rec, Nat.gcd_comm]⟩
          case measure => simp [intOf]; omega
        · obtain rfl : q = 0 := by omega
          have hgp : (p : Int) = g := by rw [← HPQ.out, Nat.gcd_zero_right]
          go_wp2_with fail
          go_ret
          exact ⟨by simp [hgp], by simp⟩
    · have hv : gcdV a b = 0 := if_neg fun h => hb h.2
      rw [hv]
      rw [decide_eq_true ha] at HA
      rw [decide_eq_false hb] at HB
      clear hv ha hb
      go_enter Try.func76, Try.ntmps76
      go_wp2_with fail
      refine HA.out.mono ?_
      rintro e w1 ⟨rfl, rfl⟩
      go_wp2_with fail
      refine HB.out.mono ?_
      rintro e w1 ⟨rfl, rfl⟩
      go_wp2_with fail
      go_ret
      exact ⟨rfl, rfl⟩
  · have hv : gcdV a b = 0 := if_neg fun h => ha h.1
    rw [hv]
    rw [decide_eq_false ha] at HA
    clear hv ha
    go_enter Try.func76, Try.ntmps76
    go_wp2_with fail
    refine HA.out.mono ?_
    rintro e w1 ⟨rfl, rfl⟩
    go_wp2_with fail
    go_ret
    exact ⟨rfl, rfl⟩

set_option maxHeartbeats 2000000 in
set_option maxRecDepth 100000 in
theorem implGcd (a b : Int) (w : World) :
    Calls Try.prog 75 #[.int .i64 a, .int .i64 b] w fun e w' => e = .returned (.int .i64 (gcdV a b)) ∧ Below w.heap.size w w' := by
  have HA := Lib.hid (hasGcd_c a w)
  have HB := Lib.hid (hasGcd_c b w)
  by_cases ha : OkG a
  · by_cases hb : OkG b
    · have hv : gcdV a b = (Int.gcd a b : Int) := if_pos ⟨ha, hb⟩
      rw [hv]
      rw [decide_eq_true ha] at HA
      rw [decide_eq_true hb] at HB
      obtain ⟨a1, a2⟩ := ha
      obtain ⟨b1, b2⟩ := hb
      clear hv
      obtain ⟨g, hg⟩ : ∃ g, (Int.gcd a b : Int) = g := ⟨_, rfl⟩
      rw [hg]
      have HG := Lib.hid hg
      clear hg
      go_enter Try.func75, Try.ntmps75
      go_wp2_with fail
      refine HA.out.mono ?_
      rintro e w1 ⟨rfl, rfl⟩
      go_wp2_with fail
      refine HB.out.mono ?_
      rintro e w1 ⟨rfl, rfl⟩
      go_wp2_with fail
      go_loopw [0, 1] (fun x y wr => Below w.heap.size w wr ∧ ∃ p q : Int, x = .int .i64 p ∧ y = .int .i64 q ∧ OkG p ∧ OkG q ∧ (Nat.gcd p.natAbs q.natAbs : Int) = g) (fun _ y _ => (intOf y).natAbs)
      case atStart => exact ⟨Below.refl _ _, a, b, rfl, rfl, ⟨a1, a2⟩, ⟨b1, b2⟩, HG.out⟩
      case round =>
        obtain ⟨hbel, p, q, rfl, rfl, ⟨p1, p2⟩, ⟨q1, q2⟩, hpq⟩ := hrel
        have HPQ := Lib.hid hpq
        have HBL := Lib.hid hbel
        clear hpq hbel
        by_cases h0 : q = 0
        · subst h0
          have hgp : max p (-p) = g := by rw [← HPQ.out]; simp only [Int.natAbs_zero, Nat.gcd_zero_right]; omega
          go_wp2_with fail
          go_ret
          exact ⟨rfl, HBL.out⟩
        · have h0' : (q != 0) = true := by simpa using h0
          have hm := Int.natAbs_tmod p q
          have hlt := Nat.mod_lt p.natAbs (show 0 < q.natAbs by omega)
          have hstep := gcd_step p q
          obtain ⟨r, hr⟩ : ∃ r, Int.tmod p q = r := ⟨_, rfl⟩
          have hr1 : -9000000000000000000 ≤ r ∧ r ≤ 9000000000000000000 := by rw [hr] at hm; omega
          go_wp2_with fail
          go_quiet (fail)
          go_wp2_with fail
          go_roundw
          case rel => exact ⟨HBL.out.trans (below_drewN _ _ _), q, r, rfl, by go_num, ⟨q1, q2⟩, hr1, by rw [← HPQ.out, ← hstep, hr]⟩
          case measure => simp only [intOf]; rw [← hr, hm]; exact hlt
    · have hv : gcdV a b = 0 := if_neg fun h => hb h.2
      rw [hv]
      rw [decide_eq_true ha] at HA
      rw [decide_eq_false hb] at HB
      clear hv ha hb
      go_enter Try.func75, Try.ntmps75
      go_wp2_with fail
      refine HA.out.mono ?_
      rintro e w1 ⟨rfl, rfl⟩
      go_wp2_with fail
      refine HB.out.mono ?_
      rintro e w1 ⟨rfl, rfl⟩
      go_wp2_with fail
      go_ret
      exact ⟨rfl, Below.refl _ _⟩
  · have hv : gcdV a b = 0 := if_neg fun h => ha h.1
    rw [hv]
    rw [decide_eq_false ha] at HA
    clear hv ha
    go_enter Try.func75, Try.ntmps75
    go_wp2_with fail
    refine HA.out.mono ?_
    rintro e w1 ⟨rfl, rfl⟩
    go_wp2_with fail
    go_ret
    exact ⟨rfl, Below.refl _ _⟩
end Go.Proofs.Ytdkpmaahinbhlaa
/- What PrimitiveVector answers: a row in lowest terms, or the row itself where a number is too large. Words on numbers. No condition. -/
namespace Go.Proofs.Ytdkpmaahinbhlaa

def AllG (v : List Int) (k : Nat) : Prop := ∀ j, j < k → OkG (v.getD j 0)
instance (v : List Int) (k : Nat) : Decidable (AllG v k) := by unfold AllG; exact inferInstance
def pV (v : List Int) : List Int := if AllG v v.length then primV v else v
theorem pV_len (v : List Int) : (pV v).length = v.length := by
  unfold pV; split
  · exact primV_len v
  · rfl
theorem pV_ok {v : List Int} (h : AllG v v.length) : pV v = primV v := if_pos h
theorem pV_no {v : List Int} (h : ¬ AllG v v.length) : pV v = v := if_neg h
/-- The divisor of the first k numbers. -/
def gP (v : List Int) (k : Nat) : Nat := gcdL (v.take k)
theorem take_snoc {v : List Int} {k : Nat} (h : k < v.length) : v.take (k + 1) = v.take k ++ [v.getD k 0] := by
  rw [List.take_succ_eq_append_getElem h, List.getD_eq_getElem?_getD, List.getElem?_eq_getElem h, Option.getD_some]
theorem gP_succ {v : List Int} {k : Nat} (h : k < v.length) : gP v (k + 1) = Nat.gcd (gP v k) (v.getD k 0).natAbs := by
  unfold gP; rw [take_snoc h, gcdL_snoc]
theorem gP_all (v : List Int) : gP v v.length = gcdL v := by unfold gP; rw [List.take_length]
theorem gP_le {v : List Int} : ∀ k, k ≤ v.length → AllG v k → gP v k ≤ 9000000000000000000 := by
  intro k
  induction k with
  | zero => intro _ _; simp [gP, gcdL]
  | succ k ih =>
    intro hk h
    rw [gP_succ (by omega)]
    have h1 := ih (by omega) fun j hj => h j (by omega)
    have h2 := h k (by omega)
    unfold OkG at h2
    rcases Nat.eq_zero_or_pos (v.getD k 0).natAbs with e | e
    · rw [e, Nat.gcd_zero_right]; exact h1
    · exact Nat.le_trans (Nat.gcd_le_right _ e) (by omega)
def fP (v : List Int) (k : Nat) : Int := firstZ (v.take k)
theorem fP_succ {v : List Int} {k : Nat} (h : k < v.length) : fP v (k + 1) = if fP v k = 0 then v.getD k 0 else fP v k := by
  unfold fP; rw [take_snoc h, firstZ_snoc]
theorem fP_all (v : List Int) : fP v v.length = firstZ v := by unfold fP; rw [List.take_length]
theorem fP_first {v : List Int} {f : Nat} (hf : f < v.length) (h0 : ∀ i, i < f → v.getD i 0 = 0) (hz : v.getD f 0 ≠ 0) : firstZ v = v.getD f 0 := by
  have h1 : ∀ k, k ≤ f → fP v k = 0 := by
    intro k
    induction k with
    | zero => intro _; rfl
    | succ k ih => intro hk; rw [fP_succ (by omega), ih (by omega), if_pos rfl]; exact h0 k (by omega)
  have h2 : ∀ k, f < k → k ≤ v.length → fP v k = v.getD f 0 := by
    intro k
    induction k with
    | zero => intro h; omega
    | succ k ih =>
      intro hk hl
      rw [fP_succ (by omega)]
      by_cases e : k = f
      · subst e; rw [h1 k (Nat.le_refl _), if_pos rfl]
      · rw [ih (by omega) (by omega), if_neg hz]
  rw [← fP_all]
  exact h2 _ hf (Nat.le_refl _)
theorem zero_all {v : List Int} (h : ∀ i, i < v.length → v.getD i 0 = 0) : gcdL v = 0 := by
  rw [gcdL_zero]
  intro x hx
  obtain ⟨i, hi, rfl⟩ := List.getElem_of_mem hx
  have := h i hi
  rw [List.getD_eq_getElem?_getD, List.getElem?_eq_getElem hi, Option.getD_some] at this
  exact this
theorem gcd_nz {v : List Int} {f : Nat} (hf : f < v.length) (hz : v.getD f 0 ≠ 0) : gcdL v ≠ 0 := by
  intro h
  have := gcdL_zero.1 h (v.getD f 0) (by
    rw [List.getD_eq_getElem?_getD, List.getElem?_eq_getElem hf, Option.getD_some]; exact List.getElem_mem hf)
  exact hz this
theorem primV_row {v : List Int} (h : gcdL v ≠ 0) : primV v = rowF v.length fun j => Int.tdiv (v.getD j 0) (divZ v) := by
  unfold primV
  rw [if_neg h]
  apply List.ext_getElem (by rw [rowF_len, List.length_map])
  intro i h1 h2
  have hi : i < v.length := by simpa using h1
  rw [List.getElem_map, rowF_get h2, List.getD_eq_getElem?_getD, List.getElem?_eq_getElem hi, Option.getD_some]
theorem primV_zero {v : List Int} (h : gcdL v = 0) : primV v = v := if_pos h
/-- What a number is divided by is not 0, and the quotient is no greater. -/
theorem quo_ok {x d : Int} (hx : OkG x) (_hd : d ≠ 0) : OkG (Int.tdiv x d) := by
  unfold OkG at *
  have h1 := Int.natAbs_tdiv x d
  have h2 : x.natAbs.div d.natAbs ≤ x.natAbs := Nat.div_le_self x.natAbs d.natAbs
  rw [← h1] at h2
  clear h1
  generalize Int.tdiv x d = q at *
  omega
end Go.Proofs.Ytdkpmaahinbhlaa
/- A row of numbers given by a function, stored in once. No condition. -/
namespace Go.Proofs.Ytdkpmaahinbhlaa
open Go.RowKit

theorem rowF_set {N i : Nat} {f : Nat → Int} (_h : i < N) (x : Int) : (intCells (rowF N f)).set i (.int .i64 x) = intCells (rowF N fun t => if t = i then x else f t) := by
  unfold intCells
  rw [← List.map_set]
  congr 1
  apply List.ext_getElem (by simp [rowF_len])
  intro j h1 h2
  rw [List.getElem_set, rowF_get, rowF_get]
  by_cases e : i = j
  · subst e; simp
  · rw [if_neg e, if_neg (fun h => e h.symm)]
theorem rowF_succ (x : Nat) (f : Nat → Int) : rowF (x + 1) f = rowF x f ++ [f x] := by unfold rowF; rw [List.range_succ, List.map_append]; rfl
end Go.Proofs.Ytdkpmaahinbhlaa
/- What spec.PrimitiveVector answers. No condition. -/
namespace Go.Proofs.Ytdkpmaahinbhlaa
open Go.RowKit

theorem wpList_copyV {w : World} {ops : Array Oper} {rest : List Oper} {o : Oper} {a : Act} {Q : Exit → Act → World → Prop} (hgd : o.guard = none) (s x : Operand) (ho : o.op = .call { callee := .builtin .append, args := #[s, x], argTypes := #[29, 29] })
    (g : Nat) (A : Option Addr) (zs : List Int) (cap lo hi : Nat) (hs : a.eval s = .slice (some ⟨g, 0, none⟩) 0 0) (hx : a.eval x = .slice A zs.length cap) (hz : IntsIn w lo hi A zs) (hn : zs.length ≤ 1048576)
    (h : ∀ A' c' w', OwnInts w' w.heap.size w'.heap.size A' c' zs → Below w.heap.size w w' → wpList Try.prog ops Q rest (a.put o.dst (.slice A' zs.length c')) w') : wpList Try.prog ops Q (o :: rest) a w :=
  wpList_plain hgd fun _ hK => wp_copyI s x ho g A zs cap lo hi hs hx hz hn fun A' c' w' h1 h2 => hK _ _ (h A' c' w' h1 h2)

set_option maxHeartbeats 4000000 in
set_option maxRecDepth 100000 in
theorem specPv (v : List Int) (A : Option Addr) (cap lo hi : Nat) (w : World) (hl : IntsIn w lo hi A v) (hn : v.length ≤ 1048576) :
    Calls Try.prog 74 #[.slice A v.length cap] w fun e w' => ∃ A' c', e = .returned (.slice A' (pV v).length c') ∧ OwnInts w' w.heap.size w'.heap.size A' c' (pV v) ∧ Below w.heap.size w w' := by
  have HL := Lib.hid hl
  have HAL := Lib.hid (new_below w (.cells #[] 3))
  have HLA := Lib.hid (hl.within (within_of HAL.out) (.inr (Nat.zero_le _)))
  have HOE := Lib.hid (ownR_empty w)
  have HSZ := Lib.hid (show (w.alloc (.cells #[] 3)).heap.size = w.heap.size + 1 by simp)
  clear hl
  obtain ⟨r, hr⟩ : ∃ r, pV v = r := ⟨_, rfl⟩
  rw [hr]
  have HR := Lib.hid hr
  clear hr
  go_enter Try.func74, Try.ntmps74
  go_wp2_with fail
  go_loopw [3, 4] (fun g i wr => w = wr ∧ ∃ k : Nat, k ≤ v.length ∧ i = .int .i64 k ∧ g = .int .i64 (gP v k) ∧ AllG v k) (fun _ i _ => v.length - (intOf i).toNat)
  case atStart => exact ⟨rfl, 0, by omega, rfl, rfl, fun j hj => absurd hj (Nat.not_lt_zero j)⟩
  case round =>
    obtain ⟨rfl, k, hk, rfl, rfl, hg⟩ := hrel
    have hgl := gP_le k hk hg
    have HG := Lib.hid hg
    clear hg
    by_cases hlt : k < v.length
    · have hki : (k : Int) < (v.length : Int) := by omega
      obtain ⟨bi, oi, rfl, _, _, hc⟩ := HL.out.2 (by omega)
      have c1 := hc k hlt
      clear hc
      have HNX := Lib.hid (gP_succ hlt)
      obtain ⟨x, hxv⟩ : ∃ x, v.getD k 0 = x := ⟨_, rfl⟩
      rw [hxv] at c1 HNX
      have HXV := Lib.hid hxv
      obtain ⟨gk, hgk⟩ : ∃ gk, gP v k = gk := ⟨_, rfl⟩
      rw [hgk] at hgl HNX ⊢
      clear hxv hgk
      by_cases hx : OkG x
      · have HX := Lib.hid hx
        have HLI := Lib.hid (l1In_g x w)
        rw [decide_eq_true hx] at HLI
        have HGC := Lib.hid (specGcd gk x w)
        have hgv : gcdV gk x = (gP v (k + 1) : Int) := by
          unfold gcdV
          rw [if_pos ⟨by unfold OkG; omega, hx⟩, HNX.out]
          rfl
        rw [hgv] at HGC
        clear hgv hx
        go_wp2_with fail
        refine HLI.out.mono ?_
        rintro e w3 ⟨rfl, rfl⟩
        go_wp2_with fail
        refine HGC.out.mono ?_
        rintro e w3 ⟨rfl, rfl⟩
        go_wp2_with fail
        go_roundw
        case rel => exact ⟨by simp, k + 1, by omega, by go_num, rfl, fun u hu => by
          by_cases e : u = k
          · subst e; rw [HXV.out]; exact HX.out
          · exact HG.out u (by omega)⟩
        case measure => simp [intOf]; omega
      · have HLI := Lib.hid (l1In_g x w)
        rw [decide_eq_false hx] at HLI
        have HE := Lib.hid (show r = v by rw [← HR.out]; exact pV_no fun h => hx (by have := h k hlt; rw [HXV.out] at this; exact this))
        clear hx
        go_wp2_with fail
        refine HLI.out.mono ?_
        rintro e w3 ⟨rfl, rfl⟩
        go_wp2_with (at_builtin; refine wpList_copyV rfl _ _ rfl w.heap.size _ v cap lo hi rfl rfl HLA.out hn ?_; intro A6 c6 w6 ho6 hb6; have HO6 := Lib.hid ho6; have HB6 := Lib.hid hb6; clear ho6 hb6)
        go_ret
        have hs1 := HAL.out.size
        rw [HE.out]
        exact ⟨A6, c6, rfl, HO6.out.widen hs1 (Nat.le_refl _) (Nat.le_refl _), HAL.out.trans (HB6.out.mono hs1)⟩
    · obtain rfl : k = v.length := by omega
      rw [gP_all] at hgl ⊢
      have HPV := Lib.hid (show r = primV v by rw [← HR.out]; exact pV_ok HG.out)
      by_cases h0 : gcdL v = 0
      · have h0' : ((gcdL v : Int) == 0) = true := by simp [h0]
        have HE := Lib.hid (show r = v by rw [HPV.out]; exact primV_zero h0)
        clear h0
        go_wp2_with (at_builtin; refine wpList_copyV rfl _ _ rfl w.heap.size _ v cap lo hi rfl rfl HLA.out hn ?_; intro A6 c6 w6 ho6 hb6; have HO6 := Lib.hid ho6; have HB6 := Lib.hid hb6; clear ho6 hb6)
        go_ret
        have hs1 := HAL.out.size
        rw [HE.out]
        exact ⟨A6, c6, rfl, HO6.out.widen hs1 (Nat.le_refl _) (Nat.le_refl _), HAL.out.trans (HB6.out.mono hs1)⟩
      · have h0' : ((gcdL v : Int) == 0) = false := by simp; omega
        have HE := Lib.hid (show r = rowF v.length fun j => Int.tdiv (v.getD j 0) (divZ v) by rw [HPV.out]; exact primV_row h0)
        have hfz : firstZ v ≠ 0 := fun h => h0 (gcdL_zero.2 (firstZ_zero.1 h))
        have HDZ := Lib.hid (divZ_nz h0)
        have HDV := Lib.hid (show divZ v = if firstZ v < 0 then -(gcdL v : Int) else gcdL v from rfl)
        obtain ⟨g, hgg⟩ : ∃ g, gcdL v = g := ⟨_, rfl⟩
        rw [hgg] at hgl h0' HDV ⊢
        clear hgg h0
        go_wp2_with fail
        go_loopw [5, 6] (fun f i wr => w = wr ∧ ∃ k : Nat, k ≤ v.length ∧ i = .int .i64 k ∧ f = .int .i64 (fP v k)) (fun _ i _ => v.length - (intOf i).toNat)
        case atStart => exact ⟨rfl, 0, by omega, rfl, rfl⟩
        case round =>
          obtain ⟨rfl, k, hk, rfl, rfl⟩ := hrel
          by_cases hlt : k < v.length
          · have hki : (k : Int) < (v.length : Int) := by omega
            obtain ⟨bi, oi, rfl, _, _, hc⟩ := HL.out.2 (by omega)
            have c1 := hc k hlt
            clear hc
            have HNX := Lib.hid (fP_succ hlt)
            obtain ⟨x, hxv⟩ : ∃ x, v.getD k 0 = x := ⟨_, rfl⟩
            rw [hxv] at c1 HNX
            obtain ⟨f, hf⟩ : ∃ f, fP v k = f := ⟨_, rfl⟩
            rw [hf] at HNX ⊢
            clear hxv hf
            by_cases hf0 : f = 0
            · have hf0' : (f == 0) = true := by simp [hf0]
              have HN := Lib.hid (show fP v (k + 1) = x by rw [HNX.out, if_pos hf0])
              clear hf0
              go_wp2_with fail
              go_roundw
              case rel => exact ⟨by simp, k + 1, by omega, by go_num, by rw [HN.out]⟩
              case measure => simp [intOf]; omega
            · have hf0' : (f == 0) = false := by simp [hf0]
              have HN := Lib.hid (show fP v (k + 1) = f by rw [HNX.out, if_neg hf0])
              clear hf0
              go_wp2_with fail
              go_roundw
              case rel => exact ⟨by simp, k + 1, by omega, by go_num, by rw [HN.out]⟩
              case measure => simp [intOf]; omega
          · obtain rfl : k = v.length := by omega
            rw [fP_all]
            have HDV2 := Lib.hid HDV.out
            obtain ⟨f, hf⟩ : ∃ f, firstZ v = f := ⟨_, rfl⟩
            rw [hf] at hfz HDV ⊢
            clear hf
            by_cases hneg : f < 0
            · skip
              clear hfz
              have hAG := HG.out
              have HGG := Lib.hid hAG
              clear hAG
              have HSZ2 := HSZ.out
              have HEL := Lib.hid (show r.length = v.length by rw [HE.out, rowF_len])
              have HG0 := Lib.hid (show GrowP w.heap.size (w.heap.size + 1) (w.alloc (.cells #[] 3)) (w.alloc (.cells #[] 3)) (rowF 0 fun j => Int.tdiv (v.getD j 0) (divZ v)) (some ⟨w.heap.size, 0, none⟩) 0 w.heap.size (w.heap.size + 1) from ⟨HOE.out, .inl ⟨rfl, rfl⟩, (by omega), Within.refl _ _ _⟩)
              obtain ⟨d, hng⟩ : ∃ d, -(g : Int) = d := ⟨_, rfl⟩
              have HDN := Lib.hid (show divZ v = d by rw [HDV.out, if_pos hneg, hng])
              have hd0 : (d != 0) = true := by simp at h0' ⊢; omega
              have hs0 : decide (f < 0) = true := by simpa using hneg
              have hgz : ¬ d = 0 := by simpa using hd0
              clear hneg
              go_wp2_with fail
              generalize w.alloc (.cells #[] 3) = wA at *
              go_loopw [7, 8] (fun o i w' => ∃ (k lo3 hi3 : Nat) (Ar : Option Addr) (cr : Nat), k ≤ v.length ∧ i = .int .i64 k ∧ o = .slice Ar (rowF k fun j => Int.tdiv (v.getD j 0) (divZ v)).length cr ∧ GrowP w.heap.size (w.heap.size + 1) wA w' (rowF k fun j => Int.tdiv (v.getD j 0) (divZ v)) Ar cr lo3 hi3) (fun _ i _ => v.length - (intOf i).toNat)
              case atStart => exact ⟨0, _, _, _, _, by omega, rfl, rfl, HG0.out⟩
              case round =>
                obtain ⟨k, lo3, hi3, Ar, cr, hk, rfl, rfl, hgp⟩ := hrel
                have HGP := Lib.hid hgp
                have hbw2 := within_on HAL.out hgp.wi HAL.out.size (.inl (Nat.le_refl _))
                have HBX := Lib.hid hbw2
                clear hgp hbw2
                have HSTEP := Lib.hid (rowF_succ k fun j => Int.tdiv (v.getD j 0) (divZ v))
                have hlk : (rowF k fun j => Int.tdiv (v.getD j 0) (divZ v)).length ≤ 1048576 := by rw [rowF_len]; omega
                have HEQ := Lib.hid (fun h : k = v.length => (show (rowF k fun j => Int.tdiv (v.getD j 0) (divZ v)) = r by rw [HE.out, h]))
                obtain ⟨ys, hys⟩ : ∃ ys, (rowF k fun j => Int.tdiv (v.getD j 0) (divZ v)) = ys := ⟨_, rfl⟩
                rw [hys] at HGP hlk HSTEP HEQ ⊢
                clear hys
                by_cases hlt : k < v.length
                · have hki : (k : Int) < (v.length : Int) := by omega
                  have hvi := HL.out.within (within_of HBX.out) (.inr (Nat.zero_le _))
                  obtain ⟨bi, oi, rfl, _, _, hc⟩ := hvi.2 (by omega)
                  have c1 := hc k hlt
                  have hxg := HGG.out k hlt
                  rw [HDN.out] at HSTEP
                  obtain ⟨x, hxv⟩ : ∃ x, v.getD k 0 = x := ⟨_, rfl⟩
                  rw [hxv] at c1 HSTEP hxg
                  obtain ⟨q, hq⟩ : ∃ q, Int.tdiv x d = q := ⟨_, rfl⟩
                  have hqg := quo_ok (d := d) hxg (by rw [← HDN.out]; exact HDZ.out)
                  rw [hq] at HSTEP hqg
                  have hqw : IntKind.i64.wrap (Int.tdiv x d) = q := by rw [hq]; exact IntWalk.i64_in _ (by unfold OkG at hqg; omega)
                  have HQ := Lib.hid hqg
                  clear hc hvi hxv hq hqg hxg
                  go_wp2_with (at_builtin; refine wpList_pushR _ rfl _ _ rfl lo3 hi3 Ar cr ys q rfl HGP.out.row _ (by first | rfl | (simp only [World.size_setCell]; rfl)) (by omega) HGP.out.le ?_; intro A6 c6 w16 lo6 hi6 hr6 hor6 hw6; have HG6 := Lib.hid (HGP.out.push hr6 hor6 hw6); clear hr6 hor6 hw6)
                  go_roundw
                  case rel => exact ⟨k + 1, lo6, hi6, A6, c6, by omega, by go_num, by rw [HDN.out, HSTEP.out, List.length_append]; rfl, by rw [HDN.out, HSTEP.out]; exact HG6.out⟩
                  case measure => simp [intOf]; omega
                · have hkv : k = v.length := by omega
                  have HY := Lib.hid (HEQ.out hkv)
                  subst hkv
                  go_wp2_with fail
                  go_ret
                  have hs2 := HBX.out.size
                  rw [← HY.out]
                  exact ⟨Ar, cr, rfl, HGP.out.out (Nat.le_refl _) HAL.out.size, HBX.out⟩
            · skip
              clear hfz
              have hAG := HG.out
              have HGG := Lib.hid hAG
              clear hAG
              have HSZ2 := HSZ.out
              have HEL := Lib.hid (show r.length = v.length by rw [HE.out, rowF_len])
              have HG0 := Lib.hid (show GrowP w.heap.size (w.heap.size + 1) (w.alloc (.cells #[] 3)) (w.alloc (.cells #[] 3)) (rowF 0 fun j => Int.tdiv (v.getD j 0) (divZ v)) (some ⟨w.heap.size, 0, none⟩) 0 w.heap.size (w.heap.size + 1) from ⟨HOE.out, .inl ⟨rfl, rfl⟩, (by omega), Within.refl _ _ _⟩)
              have HDN := Lib.hid (show divZ v = (g : Int) by rw [HDV.out, if_neg (by omega)])
              have hd0 : ((g : Int) != 0) = true := by simpa using h0'
              have hs0 : decide (f < 0) = false := by simpa using hneg
              have hgz : ¬ (g : Int) = 0 := by simpa using hd0
              clear hneg
              go_wp2_with fail
              generalize w.alloc (.cells #[] 3) = wA at *
              go_loopw [7, 8] (fun o i w' => ∃ (k lo3 hi3 : Nat) (Ar : Option Addr) (cr : Nat), k ≤ v.length ∧ i = .int .i64 k ∧ o = .slice Ar (rowF k fun j => Int.tdiv (v.getD j 0) (divZ v)).length cr ∧ GrowP w.heap.size (w.heap.size + 1) wA w' (rowF k fun j => Int.tdiv (v.getD j 0) (divZ v)) Ar cr lo3 hi3) (fun _ i _ => v.length - (intOf i).toNat)
              case atStart => exact ⟨0, _, _, _, _, by omega, rfl, rfl, HG0.out⟩
              case round =>
                obtain ⟨k, lo3, hi3, Ar, cr, hk, rfl, rfl, hgp⟩ := hrel
                have HGP := Lib.hid hgp
                have hbw2 := within_on HAL.out hgp.wi HAL.out.size (.inl (Nat.le_refl _))
                have HBX := Lib.hid hbw2
                clear hgp hbw2
                have HSTEP := Lib.hid (rowF_succ k fun j => Int.tdiv (v.getD j 0) (divZ v))
                have hlk : (rowF k fun j => Int.tdiv (v.getD j 0) (divZ v)).length ≤ 1048576 := by rw [rowF_len]; omega
                have HEQ := Lib.hid (fun h : k = v.length => (show (rowF k fun j => Int.tdiv (v.getD j 0) (divZ v)) = r by rw [HE.out, h]))
                obtain ⟨ys, hys⟩ : ∃ ys, (rowF k fun j => Int.tdiv (v.getD j 0) (divZ v)) = ys := ⟨_, rfl⟩
                rw [hys] at HGP hlk HSTEP HEQ ⊢
                clear hys
                by_cases hlt : k < v.length
                · have hki : (k : Int) < (v.length : Int) := by omega
                  have hvi := HL.out.within (within_of HBX.out) (.inr (Nat.zero_le _))
                  obtain ⟨bi, oi, rfl, _, _, hc⟩ := hvi.2 (by omega)
                  have c1 := hc k hlt
                  have hxg := HGG.out k hlt
                  rw [HDN.out] at HSTEP
                  obtain ⟨x, hxv⟩ : ∃ x, v.getD k 0 = x := ⟨_, rfl⟩
                  rw [hxv] at c1 HSTEP hxg
                  obtain ⟨q, hq⟩ : ∃ q, Int.tdiv x (g : Int) = q := ⟨_, rfl⟩
                  have hqg := quo_ok (d := (g : Int)) hxg (by rw [← HDN.out]; exact HDZ.out)
                  rw [hq] at HSTEP hqg
                  have hqw : IntKind.i64.wrap (Int.tdiv x (g : Int)) = q := by rw [hq]; exact IntWalk.i64_in _ (by unfold OkG at hqg; omega)
                  have HQ := Lib.hid hqg
                  clear hc hvi hxv hq hqg hxg
                  go_wp2_with (at_builtin; refine wpList_pushR _ rfl _ _ rfl lo3 hi3 Ar cr ys q rfl HGP.out.row _ (by first | rfl | (simp only [World.size_setCell]; rfl)) (by omega) HGP.out.le ?_; intro A6 c6 w16 lo6 hi6 hr6 hor6 hw6; have HG6 := Lib.hid (HGP.out.push hr6 hor6 hw6); clear hr6 hor6 hw6)
                  go_roundw
                  case rel => exact ⟨k + 1, lo6, hi6, A6, c6, by omega, by go_num, by rw [HDN.out, HSTEP.out, List.length_append]; rfl, by rw [HDN.out, HSTEP.out]; exact HG6.out⟩
                  case measure => simp [intOf]; omega
                · have hkv : k = v.length := by omega
                  have HY := Lib.hid (HEQ.out hkv)
                  subst hkv
                  go_wp2_with fail
                  go_ret
                  have hs2 := HBX.out.size
                  rw [← HY.out]
                  exact ⟨Ar, cr, rfl, HGP.out.out (Nat.le_refl _) HAL.out.size, HBX.out⟩
end Go.Proofs.Ytdkpmaahinbhlaa
/- What spec.l9Matrix draws: a matrix of one to five rows, all as long but perhaps the first. No condition. -/
namespace Go.Proofs.Ytdkpmaahinbhlaa
open Go.RowKit

set_option maxHeartbeats 1000000 in
theorem once_c (n : Int) (w : World) (B g : Nat) (A : Option Addr) (len cap : Nat) (zs : Nat → Int) (hc : CodeIs w B A len zs) (hu : CurIs w B g A len cap) (hlen : len ≤ 140737488351232) (hBw : B ≤ w.heap.size) (h0 : 0 < n) :
    Calls Try.prog 128 #[.pointer (some ⟨g, 0, none⟩), .int .i64 n] w fun e w' => (∃ b : Bool, e = .returned (.bool b)) ∧ CurIs w' B g A len cap ∧ w.grownBy w' (some g) := by
  have HD := Lib.hid (below_any n w B g A len cap zs hc hu hlen hBw h0)
  clear hc hu
  go_enter Try.func128, Try.ntmps128
  go_wp2_with fail
  refine HD.out.mono ?_
  rintro e w5 ⟨z, _, rfl, hu5, hg5⟩
  have HU := Lib.hid hu5
  have HG := Lib.hid hg5
  clear hu5 hg5
  go_wp2_with fail
  go_ret
  exact ⟨⟨_, rfl⟩, HU.out, HG.out⟩
theorem MW.cap0 {W : World} {B gh cap R : Nat} {S : Nat → Option Addr × Nat} {P : Nat → List Int} (h : MW W B gh cap R S P) (h0 : 0 < R) (hP : 0 < (P 0).length) : (P 0).length ≤ (S 0).2 := by
  obtain ⟨r, hr⟩ := h.rows
  obtain ⟨a1, _⟩ := hr 0 h0
  rcases a1.2 with e | ⟨g0, e, b1, b2, ho⟩
  · rw [e] at hP; exact absurd hP (Nat.lt_irrefl _)
  · rcases ho.2 with ⟨e2, _⟩ | ⟨g2, c2, cur, e2, _, _, e3, _⟩
    · cases e2
    · cases e2; exact e3

set_option maxHeartbeats 8000000 in
set_option maxRecDepth 100000 in
theorem mat_c (w : World) (B g : Nat) (A : Option Addr) (len cap : Nat) (zs : Nat → Int) (hc : CodeIs w B A len zs) (hu : CurIs w B g A len cap) (hlen : len ≤ 140737488351232) (hBw : B ≤ w.heap.size) :
    Calls Try.prog 149 #[.pointer (some ⟨g, 0, none⟩)] w fun e w' => ∃ A' c' m, e = .returned (.slice A' m.length c') ∧ 1 ≤ m.length ∧ m.length ≤ 5 ∧ (∀ i, i < m.length → (m.getD i []).length ≤ 5) ∧ RowsIn w' w.heap.size w'.heap.size A' m ∧ CurIs w' B g A len cap ∧ w.grownBy w' (some g) := by
  have HC := Lib.hid (fun (W : World) (h : w.grownBy W (some g)) => hc.kept (grown_cur hu.1 hBw h))
  have hgw := hu.lt
  have HD1 := Lib.hid (below_any 5 w B g A len cap zs hc hu hlen hBw (by omega))
  have hBg := hu.1
  clear hc hu
  go_enter Try.func149, Try.ntmps149
  go_wp2_with fail
  refine HD1.out.mono ?_
  rintro e w1 ⟨x, ⟨hx0, hx1⟩, rfl, hu1, hg1⟩
  obtain ⟨X, rfl⟩ := Int.eq_ofNat_of_zero_le hx0
  have hs1 := hg1.size
  have HG1 := Lib.hid hg1
  have HD2 := Lib.hid (below_any 5 w1 B g A len cap zs (HC.out _ hg1) hu1 hlen (by omega) (by omega))
  clear HD1 hu1 hg1
  go_wp2_with fail
  refine HD2.out.mono ?_
  rintro e w2 ⟨y, ⟨hy0, hy1⟩, rfl, hu2, hg2⟩
  obtain ⟨Y, rfl⟩ := Int.eq_ofNat_of_zero_le hy0
  have hs2 := hg2.size
  have HG2 := Lib.hid (HG1.out.trans_ hg2)
  have hgw2 : g < w2.heap.size := by omega
  have hal := new_below w2 (.cells #[] 29)
  have HU3 := Lib.hid (hu2.below hal hgw2)
  have HRG3 := Lib.hid (RowsG.made w2)
  have HG3 := Lib.hid (gb_below (gb_refl w2 g) hal)
  clear HD2 hu2 hg2 hal hx0 hy0
  obtain ⟨R, hR⟩ : ∃ R, 1 + X = R := ⟨_, rfl⟩
  obtain ⟨C, hC⟩ : ∃ C, 1 + Y = C := ⟨_, rfl⟩
  have hR0 : 0 < R := by omega
  have hR5 : R ≤ 5 := by omega
  have hC0 : 0 < C := by omega
  have hC5 : C ≤ 5 := by omega
  have hRI : (1 : Int) + (X : Int) = (R : Int) := by omega
  have hCI : (1 : Int) + (Y : Int) = (C : Int) := by omega
  clear hR hC
  go_wp2_with fail
  clear hRI hCI hx1 hy1
  generalize w2.alloc (.cells #[] 29) = w3 at *
  go_loopw [5, 6] (fun o i wr => ∃ (k T lo2 hi2 : Nat) (A' : Option Addr) (c' : Nat) (m : List (List Int)), k ≤ R ∧ i = .int .i64 k ∧ o = .slice A' m.length c' ∧ m.length = k ∧ (∀ t, t < k → (m.getD t []).length = C) ∧ RowsG wr w2.heap.size T lo2 hi2 A' c' m ∧ CurIs wr B g A len cap ∧ w2.grownBy wr (some g)) (fun _ i _ => R - (intOf i).toNat)
  case atStart => exact ⟨0, _, _, _, _, _, [], Nat.zero_le _, rfl, rfl, rfl, fun t ht => absurd ht (Nat.not_lt_zero t), HRG3.out, HU3.out, HG3.out⟩
  case round =>
    clear HRG3 HU3 HG3
    obtain ⟨k, T, lo2, hi2, A2, c2, m, hk, rfl, rfl, hml, hrow, hrg, hu, hg⟩ := hrel
    have HRG := Lib.hid hrg
    have HU := Lib.hid hu
    have HG := Lib.hid hg
    have HML := Lib.hid hml
    have HRW := Lib.hid hrow
    have hmk : m.length ≤ 5 := by omega
    clear hrg hu hg hml hrow
    by_cases hkR : k < R
    · have hki : (k : Int) < (R : Int) := by omega
      obtain ⟨wy, rfl⟩ : ∃ x, x = wr := ⟨wr, rfl⟩
      have hal := new_below wy (.cells #[] 3)
      have hgy : g < wy.heap.size := by have := HG.out.size; omega
      have HOE := Lib.hid (ownR_empty wy)
      have HU4 := Lib.hid (HU.out.below hal hgy)
      have HG4 := Lib.hid (gb_below (gb_refl wy g) hal)
      have HSZ4 := Lib.hid (show (wy.alloc (.cells #[] 3)).heap.size = wy.heap.size + 1 by simp)
      clear hal
      go_wp2_with fail
      generalize wy.alloc (.cells #[] 3) = w4 at *
      go_loopw [7, 8] (fun o i wr => ∃ (j : Nat) (v : List Int) (A' : Option Addr) (c' lo hi : Nat), j ≤ C ∧ i = .int .i64 j ∧ o = .slice A' v.length c' ∧ v.length = j ∧ OwnR wr lo hi A' c' v ∧ wy.heap.size ≤ lo ∧ lo ≤ wr.heap.size ∧ CurIs wr B g A len cap ∧ wy.grownBy wr (some g)) (fun _ i _ => C - (intOf i).toNat)
      case atStart => exact ⟨0, [], _, _, _, _, Nat.zero_le _, rfl, rfl, rfl, HOE.out, Nat.le_refl _, by have := HSZ4.out; omega, HU4.out, HG4.out⟩
      case round =>
        clear HOE HU4 HG4
        obtain ⟨j, v, A3, c3, lo3, hi3, hj, rfl, rfl, hvl, ho, hlo, hlt, hu, hg⟩ := hrel
        have HO := Lib.hid ho
        have HUJ := Lib.hid hu
        have HGJ := Lib.hid hg
        have HVL := Lib.hid hvl
        have hvk : v.length ≤ 5 := by omega
        clear ho hu hg hvl
        have hsj := HGJ.out.size
        by_cases hjC : j < C
        · have hji : (j : Int) < (C : Int) := by omega
          have HD := Lib.hid (below_any 5 wr B g A len cap zs (HC.out _ ((HG2.out.trans_ HG.out).trans_ HGJ.out)) HUJ.out hlen (by have := HG.out.size; omega) (by omega))
          go_wp2_with fail
          refine HD.out.mono ?_
          rintro e w6 ⟨q, ⟨hq0, hq1⟩, rfl, hu6, hg6⟩
          have HU6 := Lib.hid hu6
          have HG6 := Lib.hid (HGJ.out.trans_ hg6)
          have HO6 := Lib.hid (HO.out.within (wi_gb hg6) (.inr (by omega)))
          have hs6 := hg6.size
          clear hu6 hg6 HD
          go_wp2_with (at_builtin; refine wpList_pushR _ rfl _ _ rfl lo3 hi3 A3 c3 v (q - 2) rfl HO6.out _ (by first | rfl | (simp only [World.size_setCell]; rfl)) (by omega) (by omega) ?_; intro A7 c7 w7 lo7 hi7 hr7 hor7 hw7; have HR7 := Lib.hid hr7; have HOR7 := Lib.hid hor7; have HW7 := Lib.hid hw7; clear hr7 hor7 hw7)
          have HU7 := Lib.hid (cur_within HU6.out HW7.out (.inl (by omega)))
          have HG7 := Lib.hid (gb_within HG6.out HW7.out hlo)
          have hs7 := HW7.out.size
          go_roundw
          case rel => exact ⟨j + 1, v ++ [q - 2], A7, c7, lo7, hi7, by omega, by go_num, by rw [List.length_append]; rfl, by rw [List.length_append, HVL.out]; rfl, HR7.out, by have := HOR7.out; omega, by have := HOR7.out; omega, HU7.out, HG7.out⟩
          case measure => simp [intOf]; omega
        · obtain rfl : j = C := by omega
          have HRG5 := Lib.hid (HRG.out.far (wi_gb HGJ.out) (by omega))
          have HGA := Lib.hid (HG.out.trans_ HGJ.out)
          have HOX := Lib.hid (HO.out.ints)
          have HTOP := Lib.hid (show T ≤ lo3 by have := HRG.out.top; omega)
          obtain ⟨us, r, S', z1, z2, z3, z4⟩ := HRG5.out.rows
          have HZ1 := Lib.hid z1
          have HZ2 := Lib.hid z2
          have HZ3 := Lib.hid (show RowsP _ w2.heap.size T lo2 hi2 us m from ⟨r, S', z3, z4⟩)
          have HLO := Lib.hid (show lo2 ≤ _ from Nat.le_trans HRG5.out.out.2.1 HRG5.out.top)
          have HOB := Lib.hid (HRG5.out.out.1)
          clear z1 z2 z3 z4
          go_wp2_with (at_builtin; refine wpList_pushS _ rfl _ _ rfl lo2 hi2 A2 c2 us (.slice A3 v.length c3) rfl (by rw [HZ1.out]; rfl) HZ2.out _ rfl (by have := HZ1.out; omega) HLO.out ?_; intro A7 c7 w7 lo7 hi7 ho7 hd7 hw7; have HO7 := Lib.hid ho7; have HD7 := Lib.hid hd7; have HW7 := Lib.hid hw7; clear ho7 hd7 hw7)
          have HRG7 := Lib.hid (HRG5.out.push (q := (lo3, hi3)) HOX.out HTOP.out HZ1.out HZ3.out HO7.out HD7.out HW7.out)
          have HU7 := Lib.hid (cur_within HUJ.out HW7.out (.inl (by have := HOB.out; omega)))
          have HG7 := Lib.hid (gb_within HGA.out HW7.out HOB.out)
          go_roundw
          case rel => exact ⟨k + 1, _, _, _, _, _, m ++ [v], by omega, by go_num, by rw [List.length_append, HZ1.out]; rfl, by rw [List.length_append, HML.out]; rfl, fun t ht => by
            by_cases e : t < k
            · rw [getD_old (by rw [HML.out]; exact e)]; exact HRW.out t e
            · obtain rfl : t = m.length := by rw [HML.out]; omega
              rw [getD_new]; exact HVL.out, HRG7.out, HU7.out, HG7.out⟩
          case measure => simp [intOf]; omega
    · obtain rfl : k = R := by omega
      obtain ⟨gh, S, hA2, hmw⟩ := HRG.out.mw (by rw [HML.out]; exact hR0)
      subst hA2
      rw [HML.out] at hmw
      have HM := Lib.hid hmw
      have HGA := Lib.hid (HG2.out.trans_ HG.out)
      have HPR := Lib.hid (show ∀ i, i < k → ((fun i => m.getD i []) i).length = C from fun i hi => HRW.out i hi)
      clear hmw
      obtain ⟨P, hP⟩ : ∃ P : Nat → List Int, (fun i => m.getD i []) = P := ⟨_, rfl⟩
      rw [hP] at HM HPR
      clear hP HRG
      have hml := HML.out
      rw [hml]
      clear hml HML HRW hmk hk hkR
      obtain ⟨R, rfl⟩ : ∃ R, R = k := ⟨k, rfl⟩
      by_cases h1 : R = 1
      · have hgt : ¬ (1 : Int) < (R : Int) := by omega
        clear h1
        have hPl := HPR.out
        clear HPR
        go_wp2_with fail
        have HBB := Lib.hid (show w.heap.size ≤ w2.heap.size from HG2.out.size)
        have HD := Lib.hid (below_any 14 wr B g A len cap zs (HC.out _ HGA.out) HU.out hlen (by have := HGA.out.size; omega) (by omega))
        have HPL := Lib.hid (show ∀ i, i < R → (P i).length = C from hPl)
        clear hPl
        go_wp2_with fail
        refine HD.out.mono ?_
        rintro e w5 ⟨z, ⟨hz0, hz1⟩, rfl, hu5, hg5⟩
        have HU5 := Lib.hid hu5
        have HG5 := Lib.hid (HGA.out.trans_ hg5)
        have HM5 := Lib.hid (HM.out.within (wi_gb hg5) (by omega))
        have hgl5 := HM5.out.lt
        clear hu5 hg5 HD
        by_cases hz : z = 0
        · subst hz
          have hc0 : (P 0).length = C := HPL.out 0 hR0
          obtain ⟨g0, hS0, hne, hg0, hgl, ⟨v0, hcell⟩, hfz, _⟩ := HM5.out.cell0 hR0 (by rw [hc0]; omega)
          have hh := HM5.out.head hR0
          have hzf := World.ownsRow.frozenAt HM5.out.own 0
          rw [hS0, hc0] at hh
          obtain ⟨c0, hc0E⟩ : ∃ c0, (S 0).2 = c0 := ⟨_, rfl⟩
          rw [hc0E] at hh
          have hcap := HM5.out.cap0 hR0 (by rw [hc0]; omega)
          rw [hc0, hc0E] at hcap
          have hRi : (0 : Int) < (R : Int) := by omega
          have hC1 : (1 : Int) ≤ (C : Int) := by omega
          obtain ⟨rd, hd1, hd2, hd3⟩ := HM5.out.drop0 hR0 (by rw [hc0]; omega) hS0
          have hdl : ((P 0).drop 1).length = C - 1 := by rw [List.length_drop, hc0]
          have h1 := HM5.out.swap0 (A' := some ⟨g0, 1, none⟩) (c' := c0 - 1) ⟨rd, hd1, hd2, hd3⟩
          have h2 := fun (hz : c0 - 1 = 0) => HM5.out.swap0 (A' := some ⟨g0, 0, none⟩) (c' := 0) (Z := (P 0).drop 1) ⟨rd, ⟨hd1.1, fun h => absurd h (by rw [hdl]; omega)⟩, hd2, hd3⟩
          rw [hdl] at h1 h2
          have H1 := Lib.hid h1
          have H2 := Lib.hid h2
          have HRWS := Lib.hid (show ∀ i, i < (mwL R (updA P 0 ((P 0).drop 1))).length → ((mwL R (updA P 0 ((P 0).drop 1))).getD i []).length ≤ 5 from fun i hi => by
            rw [mwL_len] at hi
            rw [mwL_get hi]
            unfold updA
            split
            · rw [hdl]; omega
            · exact Nat.le_trans (Nat.le_of_eq (HPL.out i hi)) hC5)
          clear hcell hfz hc0E h1 h2 hd1 hd2 hd3 hdl
          go_wp2_with fail
          all_goals first
            | exact absurd ‹_› (by omega)
            | (go_ret
               exact ⟨some ⟨gh, 0, none⟩, c2, mwL R (updA P 0 ((P 0).drop 1)), by rw [mwL_len]; rfl, by rw [mwL_len]; omega, by rw [mwL_len]; omega, (by first | exact HRWS.out | (intro i hi; have := HRWS.out i hi; rwa [List.getD_eq_getElem?_getD] at this)), rowsIn_wid H1.out.1 HBB.out H1.out.2.size (Nat.le_refl _), cur_within HU5.out H1.out.2 (.inl (by omega)), gb_within HG5.out H1.out.2 (by omega)⟩)
            | (go_ret
               exact ⟨some ⟨gh, 0, none⟩, c2, mwL R (updA P 0 ((P 0).drop 1)), by rw [mwL_len]; rfl, by rw [mwL_len]; omega, by rw [mwL_len]; omega, (by first | exact HRWS.out | (intro i hi; have := HRWS.out i hi; rwa [List.getD_eq_getElem?_getD] at this)), rowsIn_wid (H2.out (by omega)).1 HBB.out (H2.out (by omega)).2.size (Nat.le_refl _), cur_within HU5.out (H2.out (by omega)).2 (.inl (by omega)), gb_within HG5.out (H2.out (by omega)).2 (by omega)⟩)
        · by_cases hz1 : z = 1
          · subst hz1
            have hc0 : (P 0).length = C := HPL.out 0 hR0
            obtain ⟨g0, hS0, hne, hg0, hgl, ⟨v0, hcell⟩, hfz, hset⟩ := HM5.out.cell0 hR0 (by rw [hc0]; omega)
            have hh := HM5.out.head hR0
            rw [hS0, hc0] at hh
            have hRi : (0 : Int) < (R : Int) := by omega
            have hC1 : (0 : Int) < (C : Int) := by omega
            obtain ⟨c0, hc0E⟩ : ∃ c0, (S 0).2 = c0 := ⟨_, rfl⟩
            rw [hc0E] at hh
            have hgl2 := hgl5.2
            clear hcell hfz hset
            go_wp2_with fail
            have HMD := Lib.hid (HM5.out.below (show Below w5.heap.size w5 w5.drew from (Below.refl _ _).drew))
            have HUD := Lib.hid (HU5.out.below (show Below w5.heap.size w5 w5.drew from (Below.refl _ _).drew) HU5.out.lt)
            have HGD := Lib.hid (gb_below HG5.out (show Below w5.heap.size w5 w5.drew from (Below.refl _ _).drew))
            have HHD := Lib.hid (show w5.drew.cell? ⟨gh, 0, none⟩ = some (.slice (some ⟨g0, 0, none⟩) C c0) from hh)
            clear HM5 HU5 HG5 hh
            have HRWS := Lib.hid (show ∀ x : Int, ∀ i, i < (mwL R (updA P 0 ((P 0).set 0 x))).length → ((mwL R (updA P 0 ((P 0).set 0 x))).getD i []).length ≤ 5 from fun x i hi => by
              rw [mwL_len] at hi
              rw [mwL_get hi]
              unfold updA
              split
              · rw [List.length_set, hc0]; exact hC5
              · exact Nat.le_trans (Nat.le_of_eq (HPL.out i hi)) hC5)
            refine wp_region_held_drew (S := (fun W' : World => W'.cell? ⟨gh, 0, none⟩ = some (.slice (some ⟨g0, 0, none⟩) C c0))) (by kernel_rfl) ?_ (fun hHeld => ?_)
            · exact HHD.out
            generalize w5.drew = WD at *
            refine wpAnyH_take (i := 0) (v := .slice (some ⟨gh, 0, none⟩) R c2) rfl (by kernel_rfl) (by kernel_rfl) (by kernel_rfl) (fun _ _ _ h => h) (Or.inl ⟨by kernel_rfl, fun w hSw => by (try dsimp only at hSw); go_simp; all_goals first | omega | exact IntWalk.i64_in _ (by omega)⟩) (by assumption) ?_
            try simp only [Act.put, List.getElem_toArray, List.getElem_cons_zero, List.setIfInBounds_toArray, List.set_cons_zero, List.set_cons_succ]
            refine wpAnyH_take (i := 1) (v := .pointer (some ⟨gh, 0, none⟩)) rfl (by kernel_rfl) (by kernel_rfl) (by kernel_rfl) (fun _ _ _ h => h) (Or.inl ⟨by kernel_rfl, fun w hSw => by (try dsimp only at hSw); go_simp; all_goals first | omega | exact IntWalk.i64_in _ (by omega)⟩) (by assumption) ?_
            try simp only [Act.put, List.getElem_toArray, List.getElem_cons_zero, List.getElem_cons_succ, List.setIfInBounds_toArray, List.set_cons_zero, List.set_cons_succ]
            refine wpAnyH_take (i := 2) (v := .slice (some ⟨g0, 0, none⟩) C c0) rfl (by kernel_rfl) (by kernel_rfl) (by kernel_rfl) (fun _ _ _ h => h) (Or.inl ⟨by kernel_rfl, fun w hSw => by (try dsimp only at hSw); go_simp; all_goals first | omega | exact IntWalk.i64_in _ (by omega)⟩) (by assumption) ?_
            try simp only [Act.put, List.getElem_toArray, List.getElem_cons_zero, List.getElem_cons_succ, List.setIfInBounds_toArray, List.set_cons_zero, List.set_cons_succ]
            refine wpAnyH_take (i := 3) (v := .pointer (some ⟨g, 0, none⟩)) rfl (by kernel_rfl) (by kernel_rfl) (by kernel_rfl) (fun _ _ _ h => h) (Or.inl ⟨by kernel_rfl, fun w hSw => by (try dsimp only at hSw); go_simp; all_goals first | omega | exact IntWalk.i64_in _ (by omega)⟩) (by assumption) ?_
            try simp only [Act.put, List.getElem_toArray, List.getElem_cons_zero, List.getElem_cons_succ, List.setIfInBounds_toArray, List.set_cons_zero, List.set_cons_succ]
            refine wpAnyH_ready (rs := [4]) (by kernel_rfl) (by simp) (AllReadyH.cons rfl (fun K hK => ?_) AllReadyH.nil)
            go_simp
            have hal := new_below WD (.cells #[.int .i64 8, .int .i64 9, .int .i64 (-9)] 3)
            have hbl : (WD.alloc (.cells #[.int .i64 8, .int .i64 9, .int .i64 (-9)] 3)).heap[WD.heap.size]? = some (.cells #[.int .i64 8, .int .i64 9, .int .i64 (-9)] 3) := by
              show (WD.heap.push _)[WD.heap.size]? = _
              simp
            have HBL := Lib.hid hbl
            have HMA := Lib.hid (HMD.out.below hal)
            have HUA := Lib.hid (HUD.out.below hal HUD.out.lt)
            have HGX := Lib.hid (gb_below HGD.out hal)
            have HHA := Lib.hid ((hal.cell (p := ⟨gh, 0, none⟩) HMD.out.lt.2).trans HHD.out)
            have hgd := HUD.out.lt
            clear hal hbl HMD HUD HGD
            obtain ⟨gl, hgl7⟩ : ∃ x, WD.heap.size = x := ⟨_, rfl⟩
            rw [hgl7] at HBL hgd ⊢
            generalize WD.alloc (.cells #[.int .i64 8, .int .i64 9, .int .i64 (-9)] 3) = WA at *
            clear hgl7
            refine hK.out _ _ HHA.out (fun hHeld => ?_)
            clear hK K
            try simp only [Act.put, List.getElem_toArray, List.getElem_cons_zero, List.getElem_cons_succ, List.setIfInBounds_toArray, List.set_cons_zero, List.set_cons_succ]
            refine wpAnyH_ready (rs := [5]) (by kernel_rfl) (by simp) (AllReadyH.cons rfl (fun K hK => ?_) AllReadyH.nil)
            go_simp
            go_at_call 161
            refine (pickInt_c [8, 9, -9] gl WA B g A len cap zs (HC.out _ HGX.out) HUA.out hlen (by have := HGX.out.size; omega) (by decide) HBL.out (by omega) (by decide) (by intro x hx; simp at hx; unfold InI64; omega)).mono ?_
            rintro e w7 ⟨x, _, rfl, hu7, hg7⟩
            have HU7 := Lib.hid hu7
            have HG7 := Lib.hid (HGX.out.trans_ hg7)
            have HM7 := Lib.hid (HMA.out.within (wi_gb hg7) (by omega))
            have HH7 := Lib.hid ((World.cell?_of_block (a := ⟨gh, 0, none⟩) ((wi_gb hg7).block gh HMA.out.lt.2 (by omega))).trans HHA.out)
            clear hu7 hg7
            refine hK.out _ _ HH7.out (fun hHeld => ?_)
            clear hK K
            try simp only [Act.put, List.getElem_toArray, List.getElem_cons_zero, List.getElem_cons_succ, List.setIfInBounds_toArray, List.set_cons_zero, List.set_cons_succ]
            refine wpAnyH_take (i := 6) (v := .pointer (some ⟨g0, 0, none⟩)) rfl (by kernel_rfl) (by kernel_rfl) (by kernel_rfl) (fun _ _ _ h => h) (Or.inl ⟨by kernel_rfl, fun w hSw => by (try dsimp only at hSw); go_simp; all_goals first | omega | exact IntWalk.i64_in _ (by omega)⟩) (by assumption) ?_
            try simp only [Act.put, List.getElem_toArray, List.getElem_cons_zero, List.getElem_cons_succ, List.setIfInBounds_toArray, List.set_cons_zero, List.set_cons_succ]
            refine wpAnyH_ready (rs := [7]) (by kernel_rfl) (by simp) (AllReadyH.cons rfl (fun K hK => ?_) AllReadyH.nil)
            obtain ⟨g1, hS1, hne1, hg1', hgl1, ⟨v1, hcell1⟩, hfz1, hset1⟩ := HM7.out.cell0 hR0 (by rw [hc0]; omega)
            have e01 : g1 = g0 := by rw [hS0] at hS1; cases hS1; rfl
            subst e01
            have HSET := Lib.hid (hset1 x)
            clear hset1
            go_simp
            have HH8 := Lib.hid ((World.cell?_of_block (a := ⟨gh, 0, none⟩) (HSET.out.2.block gh HM7.out.lt.2 (by omega))).trans HH7.out)
            refine hK.out _ _ HH8.out (fun hHeld => ?_)
            clear hK K
            try simp only [Act.put, List.getElem_toArray, List.getElem_cons_zero, List.getElem_cons_succ, List.setIfInBounds_toArray, List.set_cons_zero, List.set_cons_succ]
            refine wpAnyH_done (by kernel_rfl) ?_ _
            clear hHeld
            go_wp2_with fail
            go_ret
            exact ⟨some ⟨gh, 0, none⟩, c2, mwL R (updA P 0 ((P 0).set 0 x)), by rw [mwL_len]; rfl, by rw [mwL_len]; omega, by rw [mwL_len]; omega, (by first | exact HRWS.out x | (intro i hi; have := HRWS.out x i hi; rwa [List.getD_eq_getElem?_getD] at this)), rowsIn_wid HSET.out.1 HBB.out HSET.out.2.size (Nat.le_refl _), cur_within HU7.out HSET.out.2 (.inl (by omega)), gb_within HG7.out HSET.out.2 (by omega)⟩
          · have hz0' : ¬ z = 0 := hz
            go_wp2_with fail
            go_ret
            exact ⟨some ⟨gh, 0, none⟩, c2, mwL R P, by rw [mwL_len]; rfl, by rw [mwL_len]; omega, by rw [mwL_len]; omega, fun i hi => by rw [mwL_len] at hi; rw [mwL_get hi]; exact Nat.le_trans (Nat.le_of_eq (HPL.out i hi)) hC5, rowsIn_wid HM5.out.reads HBB.out (Nat.le_refl _) (Nat.le_refl _), HU5.out, HG5.out⟩
      · have hgt : (1 : Int) < (R : Int) := by omega
        have HON := Lib.hid (once_c 3 wr B g A len cap zs (HC.out _ HGA.out) HU.out hlen (by have := HGA.out.size; omega) (by omega))
        go_wp2_with fail
        refine HON.out.mono ?_
        rintro e w4 ⟨⟨b, rfl⟩, hu4, hg4⟩
        have HU4 := Lib.hid hu4
        have HGA4 := Lib.hid (HGA.out.trans_ hg4)
        have HM4 := Lib.hid (HM.out.within (wi_gb hg4) (by omega))
        clear hu4 hg4 HON HU HGA HM HG
        cases b
        · obtain ⟨wr, rfl⟩ : ∃ x, x = w4 := ⟨w4, rfl⟩
          have HU := Lib.hid HU4.out
          have HGA := Lib.hid HGA4.out
          have HM := Lib.hid HM4.out
          have hPl := HPR.out
          clear HPR HU4 HGA4 HM4
          go_wp2_with fail
          have HBB := Lib.hid (show w.heap.size ≤ w2.heap.size from HG2.out.size)
          have HD := Lib.hid (below_any 14 wr B g A len cap zs (HC.out _ HGA.out) HU.out hlen (by have := HGA.out.size; omega) (by omega))
          have HPL := Lib.hid (show ∀ i, i < R → (P i).length = C from hPl)
          clear hPl
          go_wp2_with fail
          refine HD.out.mono ?_
          rintro e w5 ⟨z, ⟨hz0, hz1⟩, rfl, hu5, hg5⟩
          have HU5 := Lib.hid hu5
          have HG5 := Lib.hid (HGA.out.trans_ hg5)
          have HM5 := Lib.hid (HM.out.within (wi_gb hg5) (by omega))
          have hgl5 := HM5.out.lt
          clear hu5 hg5 HD
          by_cases hz : z = 0
          · subst hz
            have hc0 : (P 0).length = C := HPL.out 0 hR0
            obtain ⟨g0, hS0, hne, hg0, hgl, ⟨v0, hcell⟩, hfz, _⟩ := HM5.out.cell0 hR0 (by rw [hc0]; omega)
            have hh := HM5.out.head hR0
            have hzf := World.ownsRow.frozenAt HM5.out.own 0
            rw [hS0, hc0] at hh
            obtain ⟨c0, hc0E⟩ : ∃ c0, (S 0).2 = c0 := ⟨_, rfl⟩
            rw [hc0E] at hh
            have hcap := HM5.out.cap0 hR0 (by rw [hc0]; omega)
            rw [hc0, hc0E] at hcap
            have hRi : (0 : Int) < (R : Int) := by omega
            have hC1 : (1 : Int) ≤ (C : Int) := by omega
            obtain ⟨rd, hd1, hd2, hd3⟩ := HM5.out.drop0 hR0 (by rw [hc0]; omega) hS0
            have hdl : ((P 0).drop 1).length = C - 1 := by rw [List.length_drop, hc0]
            have h1 := HM5.out.swap0 (A' := some ⟨g0, 1, none⟩) (c' := c0 - 1) ⟨rd, hd1, hd2, hd3⟩
            have h2 := fun (hz : c0 - 1 = 0) => HM5.out.swap0 (A' := some ⟨g0, 0, none⟩) (c' := 0) (Z := (P 0).drop 1) ⟨rd, ⟨hd1.1, fun h => absurd h (by rw [hdl]; omega)⟩, hd2, hd3⟩
            rw [hdl] at h1 h2
            have H1 := Lib.hid h1
            have H2 := Lib.hid h2
            have HRWS := Lib.hid (show ∀ i, i < (mwL R (updA P 0 ((P 0).drop 1))).length → ((mwL R (updA P 0 ((P 0).drop 1))).getD i []).length ≤ 5 from fun i hi => by
              rw [mwL_len] at hi
              rw [mwL_get hi]
              unfold updA
              split
              · rw [hdl]; omega
              · exact Nat.le_trans (Nat.le_of_eq (HPL.out i hi)) hC5)
            clear hcell hfz hc0E h1 h2 hd1 hd2 hd3 hdl
            go_wp2_with fail
            all_goals first
              | exact absurd ‹_› (by omega)
              | (go_ret
                 exact ⟨some ⟨gh, 0, none⟩, c2, mwL R (updA P 0 ((P 0).drop 1)), by rw [mwL_len]; rfl, by rw [mwL_len]; omega, by rw [mwL_len]; omega, (by first | exact HRWS.out | (intro i hi; have := HRWS.out i hi; rwa [List.getD_eq_getElem?_getD] at this)), rowsIn_wid H1.out.1 HBB.out H1.out.2.size (Nat.le_refl _), cur_within HU5.out H1.out.2 (.inl (by omega)), gb_within HG5.out H1.out.2 (by omega)⟩)
              | (go_ret
                 exact ⟨some ⟨gh, 0, none⟩, c2, mwL R (updA P 0 ((P 0).drop 1)), by rw [mwL_len]; rfl, by rw [mwL_len]; omega, by rw [mwL_len]; omega, (by first | exact HRWS.out | (intro i hi; have := HRWS.out i hi; rwa [List.getD_eq_getElem?_getD] at this)), rowsIn_wid (H2.out (by omega)).1 HBB.out (H2.out (by omega)).2.size (Nat.le_refl _), cur_within HU5.out (H2.out (by omega)).2 (.inl (by omega)), gb_within HG5.out (H2.out (by omega)).2 (by omega)⟩)
          · by_cases hz1 : z = 1
            · subst hz1
              have hc0 : (P 0).length = C := HPL.out 0 hR0
              obtain ⟨g0, hS0, hne, hg0, hgl, ⟨v0, hcell⟩, hfz, hset⟩ := HM5.out.cell0 hR0 (by rw [hc0]; omega)
              have hh := HM5.out.head hR0
              rw [hS0, hc0] at hh
              have hRi : (0 : Int) < (R : Int) := by omega
              have hC1 : (0 : Int) < (C : Int) := by omega
              obtain ⟨c0, hc0E⟩ : ∃ c0, (S 0).2 = c0 := ⟨_, rfl⟩
              rw [hc0E] at hh
              have hgl2 := hgl5.2
              clear hcell hfz hset
              go_wp2_with fail
              have HMD := Lib.hid (HM5.out.below (show Below w5.heap.size w5 w5.drew from (Below.refl _ _).drew))
              have HUD := Lib.hid (HU5.out.below (show Below w5.heap.size w5 w5.drew from (Below.refl _ _).drew) HU5.out.lt)
              have HGD := Lib.hid (gb_below HG5.out (show Below w5.heap.size w5 w5.drew from (Below.refl _ _).drew))
              have HHD := Lib.hid (show w5.drew.cell? ⟨gh, 0, none⟩ = some (.slice (some ⟨g0, 0, none⟩) C c0) from hh)
              clear HM5 HU5 HG5 hh
              have HRWS := Lib.hid (show ∀ x : Int, ∀ i, i < (mwL R (updA P 0 ((P 0).set 0 x))).length → ((mwL R (updA P 0 ((P 0).set 0 x))).getD i []).length ≤ 5 from fun x i hi => by
                rw [mwL_len] at hi
                rw [mwL_get hi]
                unfold updA
                split
                · rw [List.length_set, hc0]; exact hC5
                · exact Nat.le_trans (Nat.le_of_eq (HPL.out i hi)) hC5)
              refine wp_region_held_drew (S := (fun W' : World => W'.cell? ⟨gh, 0, none⟩ = some (.slice (some ⟨g0, 0, none⟩) C c0))) (by kernel_rfl) ?_ (fun hHeld => ?_)
              · exact HHD.out
              generalize w5.drew = WD at *
              refine wpAnyH_take (i := 0) (v := .slice (some ⟨gh, 0, none⟩) R c2) rfl (by kernel_rfl) (by kernel_rfl) (by kernel_rfl) (fun _ _ _ h => h) (Or.inl ⟨by kernel_rfl, fun w hSw => by (try dsimp only at hSw); go_simp; all_goals first | omega | exact IntWalk.i64_in _ (by omega)⟩) (by assumption) ?_
              try simp only [Act.put, List.getElem_toArray, List.getElem_cons_zero, List.setIfInBounds_toArray, List.set_cons_zero, List.set_cons_succ]
              refine wpAnyH_take (i := 1) (v := .pointer (some ⟨gh, 0, none⟩)) rfl (by kernel_rfl) (by kernel_rfl) (by kernel_rfl) (fun _ _ _ h => h) (Or.inl ⟨by kernel_rfl, fun w hSw => by (try dsimp only at hSw); go_simp; all_goals first | omega | exact IntWalk.i64_in _ (by omega)⟩) (by assumption) ?_
              try simp only [Act.put, List.getElem_toArray, List.getElem_cons_zero, List.getElem_cons_succ, List.setIfInBounds_toArray, List.set_cons_zero, List.set_cons_succ]
              refine wpAnyH_take (i := 2) (v := .slice (some ⟨g0, 0, none⟩) C c0) rfl (by kernel_rfl) (by kernel_rfl) (by kernel_rfl) (fun _ _ _ h => h) (Or.inl ⟨by kernel_rfl, fun w hSw => by (try dsimp only at hSw); go_simp; all_goals first | omega | exact IntWalk.i64_in _ (by omega)⟩) (by assumption) ?_
              try simp only [Act.put, List.getElem_toArray, List.getElem_cons_zero, List.getElem_cons_succ, List.setIfInBounds_toArray, List.set_cons_zero, List.set_cons_succ]
              refine wpAnyH_take (i := 3) (v := .pointer (some ⟨g, 0, none⟩)) rfl (by kernel_rfl) (by kernel_rfl) (by kernel_rfl) (fun _ _ _ h => h) (Or.inl ⟨by kernel_rfl, fun w hSw => by (try dsimp only at hSw); go_simp; all_goals first | omega | exact IntWalk.i64_in _ (by omega)⟩) (by assumption) ?_
              try simp only [Act.put, List.getElem_toArray, List.getElem_cons_zero, List.getElem_cons_succ, List.setIfInBounds_toArray, List.set_cons_zero, List.set_cons_succ]
              refine wpAnyH_ready (rs := [4]) (by kernel_rfl) (by simp) (AllReadyH.cons rfl (fun K hK => ?_) AllReadyH.nil)
              go_simp
              have hal := new_below WD (.cells #[.int .i64 8, .int .i64 9, .int .i64 (-9)] 3)
              have hbl : (WD.alloc (.cells #[.int .i64 8, .int .i64 9, .int .i64 (-9)] 3)).heap[WD.heap.size]? = some (.cells #[.int .i64 8, .int .i64 9, .int .i64 (-9)] 3) := by
                show (WD.heap.push _)[WD.heap.size]? = _
                simp
              have HBL := Lib.hid hbl
              have HMA := Lib.hid (HMD.out.below hal)
              have HUA := Lib.hid (HUD.out.below hal HUD.out.lt)
              have HGX := Lib.hid (gb_below HGD.out hal)
              have HHA := Lib.hid ((hal.cell (p := ⟨gh, 0, none⟩) HMD.out.lt.2).trans HHD.out)
              have hgd := HUD.out.lt
              clear hal hbl HMD HUD HGD
              obtain ⟨gl, hgl7⟩ : ∃ x, WD.heap.size = x := ⟨_, rfl⟩
              rw [hgl7] at HBL hgd ⊢
              generalize WD.alloc (.cells #[.int .i64 8, .int .i64 9, .int .i64 (-9)] 3) = WA at *
              clear hgl7
              refine hK.out _ _ HHA.out (fun hHeld => ?_)
              clear hK K
              try simp only [Act.put, List.getElem_toArray, List.getElem_cons_zero, List.getElem_cons_succ, List.setIfInBounds_toArray, List.set_cons_zero, List.set_cons_succ]
              refine wpAnyH_ready (rs := [5]) (by kernel_rfl) (by simp) (AllReadyH.cons rfl (fun K hK => ?_) AllReadyH.nil)
              go_simp
              go_at_call 161
              refine (pickInt_c [8, 9, -9] gl WA B g A len cap zs (HC.out _ HGX.out) HUA.out hlen (by have := HGX.out.size; omega) (by decide) HBL.out (by omega) (by decide) (by intro x hx; simp at hx; unfold InI64; omega)).mono ?_
              rintro e w7 ⟨x, _, rfl, hu7, hg7⟩
              have HU7 := Lib.hid hu7
              have HG7 := Lib.hid (HGX.out.trans_ hg7)
              have HM7 := Lib.hid (HMA.out.within (wi_gb hg7) (by omega))
              have HH7 := Lib.hid ((World.cell?_of_block (a := ⟨gh, 0, none⟩) ((wi_gb hg7).block gh HMA.out.lt.2 (by omega))).trans HHA.out)
              clear hu7 hg7
              refine hK.out _ _ HH7.out (fun hHeld => ?_)
              clear hK K
              try simp only [Act.put, List.getElem_toArray, List.getElem_cons_zero, List.getElem_cons_succ, List.setIfInBounds_toArray, List.set_cons_zero, List.set_cons_succ]
              refine wpAnyH_take (i := 6) (v := .pointer (some ⟨g0, 0, none⟩)) rfl (by kernel_rfl) (by kernel_rfl) (by kernel_rfl) (fun _ _ _ h => h) (Or.inl ⟨by kernel_rfl, fun w hSw => by (try dsimp only at hSw); go_simp; all_goals first | omega | exact IntWalk.i64_in _ (by omega)⟩) (by assumption) ?_
              try simp only [Act.put, List.getElem_toArray, List.getElem_cons_zero, List.getElem_cons_succ, List.setIfInBounds_toArray, List.set_cons_zero, List.set_cons_succ]
              refine wpAnyH_ready (rs := [7]) (by kernel_rfl) (by simp) (AllReadyH.cons rfl (fun K hK => ?_) AllReadyH.nil)
              obtain ⟨g1, hS1, hne1, hg1', hgl1, ⟨v1, hcell1⟩, hfz1, hset1⟩ := HM7.out.cell0 hR0 (by rw [hc0]; omega)
              have e01 : g1 = g0 := by rw [hS0] at hS1; cases hS1; rfl
              subst e01
              have HSET := Lib.hid (hset1 x)
              clear hset1
              go_simp
              have HH8 := Lib.hid ((World.cell?_of_block (a := ⟨gh, 0, none⟩) (HSET.out.2.block gh HM7.out.lt.2 (by omega))).trans HH7.out)
              refine hK.out _ _ HH8.out (fun hHeld => ?_)
              clear hK K
              try simp only [Act.put, List.getElem_toArray, List.getElem_cons_zero, List.getElem_cons_succ, List.setIfInBounds_toArray, List.set_cons_zero, List.set_cons_succ]
              refine wpAnyH_done (by kernel_rfl) ?_ _
              clear hHeld
              go_wp2_with fail
              go_ret
              exact ⟨some ⟨gh, 0, none⟩, c2, mwL R (updA P 0 ((P 0).set 0 x)), by rw [mwL_len]; rfl, by rw [mwL_len]; omega, by rw [mwL_len]; omega, (by first | exact HRWS.out x | (intro i hi; have := HRWS.out x i hi; rwa [List.getD_eq_getElem?_getD] at this)), rowsIn_wid HSET.out.1 HBB.out HSET.out.2.size (Nat.le_refl _), cur_within HU7.out HSET.out.2 (.inl (by omega)), gb_within HG7.out HSET.out.2 (by omega)⟩
            · have hz0' : ¬ z = 0 := hz
              go_wp2_with fail
              go_ret
              exact ⟨some ⟨gh, 0, none⟩, c2, mwL R P, by rw [mwL_len]; rfl, by rw [mwL_len]; omega, by rw [mwL_len]; omega, fun i hi => by rw [mwL_len] at hi; rw [mwL_get hi]; exact Nat.le_trans (Nat.le_of_eq (HPL.out i hi)) hC5, rowsIn_wid HM5.out.reads HBB.out (Nat.le_refl _) (Nat.le_refl _), HU5.out, HG5.out⟩
        · obtain ⟨Q, rfl⟩ : ∃ Q, R = Q + 1 := ⟨R - 1, by omega⟩
          have hQ0 : 0 < Q := by omega
          have hal := new_below w4 (.cells #[] 3)
          have HM5 := Lib.hid (HM4.out.below hal)
          have HU5 := Lib.hid (HU4.out.below hal HU4.out.lt)
          have HG5 := Lib.hid (gb_below HGA4.out hal)
          obtain ⟨rr, hin⟩ := HM5.out.row0 hR0
          have hh := HM5.out.head hR0
          obtain ⟨⟨A0, c0⟩, hS0⟩ : ∃ s, S 0 = s := ⟨_, rfl⟩
          rw [hS0] at hh hin
          dsimp only at hh hin
          have HIN := Lib.hid hin
          have hgl := HM5.out.lt
          clear hal hin hS0 HM4 HU4 HGA4
          go_wp2_with (at_builtin; refine wpList_copyV rfl _ _ rfl w4.heap.size A0 (P 0) c0 rr.1 rr.2 rfl rfl HIN.out (by have := HPR.out 0 hR0; omega) ?_; intro A6 c6 w6 ho6 hb6; have hd6 := (HM5.out.below hb6).head (i := Q) (Nat.lt_succ_self Q); have hz6 := World.ownsRow.frozenAt (HM5.out.below hb6).own Q; have HO6 := Lib.hid ho6; have HB6 := Lib.hid hb6; clear ho6 hb6)
          have hput := HM5.out.put HB6.out (i := Q) (Nat.lt_succ_self Q) hQ0 HO6.out (Nat.le_refl _)
          have HM := Lib.hid hput.1
          have HU := Lib.hid (cur_within (HU5.out.below HB6.out HU5.out.lt) hput.2 (.inl (by omega)))
          have HGA := Lib.hid (gb_within (gb_below HG5.out HB6.out) hput.2 (by omega))
          clear hd6 hz6 hput HM5 HU5 HG5 hh HIN HB6 HO6 hgl
          generalize (w6.setCell ⟨gh, Q, none⟩ (.slice A6 (P 0).length c6)) = wr at *
          have hPl : ∀ i, i < Q + 1 → (updA P Q (P 0) i).length = C := fun i hi => by
            unfold updA
            split
            · exact HPR.out 0 hR0
            · exact HPR.out i hi
          clear HPR
          generalize updA P Q (P 0) = P at *
          generalize updA S Q (A6, c6) = S at *
          have HBB := Lib.hid (show w.heap.size ≤ w2.heap.size from HG2.out.size)
          have HD := Lib.hid (below_any 14 wr B g A len cap zs (HC.out _ HGA.out) HU.out hlen (by have := HGA.out.size; omega) (by omega))
          have HPL := Lib.hid (show ∀ i, i < (Q + 1) → (P i).length = C from hPl)
          clear hPl
          go_wp2_with fail
          refine HD.out.mono ?_
          rintro e w5 ⟨z, ⟨hz0, hz1⟩, rfl, hu5, hg5⟩
          have HU5 := Lib.hid hu5
          have HG5 := Lib.hid (HGA.out.trans_ hg5)
          have HM5 := Lib.hid (HM.out.within (wi_gb hg5) (by omega))
          have hgl5 := HM5.out.lt
          clear hu5 hg5 HD
          by_cases hz : z = 0
          · subst hz
            have hc0 : (P 0).length = C := HPL.out 0 hR0
            obtain ⟨g0, hS0, hne, hg0, hgl, ⟨v0, hcell⟩, hfz, _⟩ := HM5.out.cell0 hR0 (by rw [hc0]; omega)
            have hh := HM5.out.head hR0
            have hzf := World.ownsRow.frozenAt HM5.out.own 0
            rw [hS0, hc0] at hh
            obtain ⟨c0, hc0E⟩ : ∃ c0, (S 0).2 = c0 := ⟨_, rfl⟩
            rw [hc0E] at hh
            have hcap := HM5.out.cap0 hR0 (by rw [hc0]; omega)
            rw [hc0, hc0E] at hcap
            have hRi : (0 : Int) < ((Q + 1) : Int) := by omega
            have hC1 : (1 : Int) ≤ (C : Int) := by omega
            obtain ⟨rd, hd1, hd2, hd3⟩ := HM5.out.drop0 hR0 (by rw [hc0]; omega) hS0
            have hdl : ((P 0).drop 1).length = C - 1 := by rw [List.length_drop, hc0]
            have h1 := HM5.out.swap0 (A' := some ⟨g0, 1, none⟩) (c' := c0 - 1) ⟨rd, hd1, hd2, hd3⟩
            have h2 := fun (hz : c0 - 1 = 0) => HM5.out.swap0 (A' := some ⟨g0, 0, none⟩) (c' := 0) (Z := (P 0).drop 1) ⟨rd, ⟨hd1.1, fun h => absurd h (by rw [hdl]; omega)⟩, hd2, hd3⟩
            rw [hdl] at h1 h2
            have H1 := Lib.hid h1
            have H2 := Lib.hid h2
            have HRWS := Lib.hid (show ∀ i, i < (mwL (Q + 1) (updA P 0 ((P 0).drop 1))).length → ((mwL (Q + 1) (updA P 0 ((P 0).drop 1))).getD i []).length ≤ 5 from fun i hi => by
              rw [mwL_len] at hi
              rw [mwL_get hi]
              unfold updA
              split
              · rw [hdl]; omega
              · exact Nat.le_trans (Nat.le_of_eq (HPL.out i hi)) hC5)
            clear hcell hfz hc0E h1 h2 hd1 hd2 hd3 hdl
            go_wp2_with fail
            all_goals first
              | exact absurd ‹_› (by omega)
              | (go_ret
                 exact ⟨some ⟨gh, 0, none⟩, c2, mwL (Q + 1) (updA P 0 ((P 0).drop 1)), by rw [mwL_len]; rfl, by rw [mwL_len]; omega, by rw [mwL_len]; omega, (by first | exact HRWS.out | (intro i hi; have := HRWS.out i hi; rwa [List.getD_eq_getElem?_getD] at this)), rowsIn_wid H1.out.1 HBB.out H1.out.2.size (Nat.le_refl _), cur_within HU5.out H1.out.2 (.inl (by omega)), gb_within HG5.out H1.out.2 (by omega)⟩)
              | (go_ret
                 exact ⟨some ⟨gh, 0, none⟩, c2, mwL (Q + 1) (updA P 0 ((P 0).drop 1)), by rw [mwL_len]; rfl, by rw [mwL_len]; omega, by rw [mwL_len]; omega, (by first | exact HRWS.out | (intro i hi; have := HRWS.out i hi; rwa [List.getD_eq_getElem?_getD] at this)), rowsIn_wid (H2.out (by omega)).1 HBB.out (H2.out (by omega)).2.size (Nat.le_refl _), cur_within HU5.out (H2.out (by omega)).2 (.inl (by omega)), gb_within HG5.out (H2.out (by omega)).2 (by omega)⟩)
          · by_cases hz1 : z = 1
            · subst hz1
              have hc0 : (P 0).length = C := HPL.out 0 hR0
              obtain ⟨g0, hS0, hne, hg0, hgl, ⟨v0, hcell⟩, hfz, hset⟩ := HM5.out.cell0 hR0 (by rw [hc0]; omega)
              have hh := HM5.out.head hR0
              rw [hS0, hc0] at hh
              have hRi : (0 : Int) < ((Q + 1) : Int) := by omega
              have hC1 : (0 : Int) < (C : Int) := by omega
              obtain ⟨c0, hc0E⟩ : ∃ c0, (S 0).2 = c0 := ⟨_, rfl⟩
              rw [hc0E] at hh
              have hgl2 := hgl5.2
              clear hcell hfz hset
              go_wp2_with fail
              have HMD := Lib.hid (HM5.out.below (show Below w5.heap.size w5 w5.drew from (Below.refl _ _).drew))
              have HUD := Lib.hid (HU5.out.below (show Below w5.heap.size w5 w5.drew from (Below.refl _ _).drew) HU5.out.lt)
              have HGD := Lib.hid (gb_below HG5.out (show Below w5.heap.size w5 w5.drew from (Below.refl _ _).drew))
              have HHD := Lib.hid (show w5.drew.cell? ⟨gh, 0, none⟩ = some (.slice (some ⟨g0, 0, none⟩) C c0) from hh)
              clear HM5 HU5 HG5 hh
              have HRWS := Lib.hid (show ∀ x : Int, ∀ i, i < (mwL (Q + 1) (updA P 0 ((P 0).set 0 x))).length → ((mwL (Q + 1) (updA P 0 ((P 0).set 0 x))).getD i []).length ≤ 5 from fun x i hi => by
                rw [mwL_len] at hi
                rw [mwL_get hi]
                unfold updA
                split
                · rw [List.length_set, hc0]; exact hC5
                · exact Nat.le_trans (Nat.le_of_eq (HPL.out i hi)) hC5)
              refine wp_region_held_drew (S := (fun W' : World => W'.cell? ⟨gh, 0, none⟩ = some (.slice (some ⟨g0, 0, none⟩) C c0))) (by kernel_rfl) ?_ (fun hHeld => ?_)
              · exact HHD.out
              generalize w5.drew = WD at *
              refine wpAnyH_take (i := 0) (v := .slice (some ⟨gh, 0, none⟩) (Q + 1) c2) rfl (by kernel_rfl) (by kernel_rfl) (by kernel_rfl) (fun _ _ _ h => h) (Or.inl ⟨by kernel_rfl, fun w hSw => by (try dsimp only at hSw); go_simp; all_goals first | omega | exact IntWalk.i64_in _ (by omega)⟩) (by assumption) ?_
              try simp only [Act.put, List.getElem_toArray, List.getElem_cons_zero, List.setIfInBounds_toArray, List.set_cons_zero, List.set_cons_succ]
              refine wpAnyH_take (i := 1) (v := .pointer (some ⟨gh, 0, none⟩)) rfl (by kernel_rfl) (by kernel_rfl) (by kernel_rfl) (fun _ _ _ h => h) (Or.inl ⟨by kernel_rfl, fun w hSw => by (try dsimp only at hSw); go_simp; all_goals first | omega | exact IntWalk.i64_in _ (by omega)⟩) (by assumption) ?_
              try simp only [Act.put, List.getElem_toArray, List.getElem_cons_zero, List.getElem_cons_succ, List.setIfInBounds_toArray, List.set_cons_zero, List.set_cons_succ]
              refine wpAnyH_take (i := 2) (v := .slice (some ⟨g0, 0, none⟩) C c0) rfl (by kernel_rfl) (by kernel_rfl) (by kernel_rfl) (fun _ _ _ h => h) (Or.inl ⟨by kernel_rfl, fun w hSw => by (try dsimp only at hSw); go_simp; all_goals first | omega | exact IntWalk.i64_in _ (by omega)⟩) (by assumption) ?_
              try simp only [Act.put, List.getElem_toArray, List.getElem_cons_zero, List.getElem_cons_succ, List.setIfInBounds_toArray, List.set_cons_zero, List.set_cons_succ]
              refine wpAnyH_take (i := 3) (v := .pointer (some ⟨g, 0, none⟩)) rfl (by kernel_rfl) (by kernel_rfl) (by kernel_rfl) (fun _ _ _ h => h) (Or.inl ⟨by kernel_rfl, fun w hSw => by (try dsimp only at hSw); go_simp; all_goals first | omega | exact IntWalk.i64_in _ (by omega)⟩) (by assumption) ?_
              try simp only [Act.put, List.getElem_toArray, List.getElem_cons_zero, List.getElem_cons_succ, List.setIfInBounds_toArray, List.set_cons_zero, List.set_cons_succ]
              refine wpAnyH_ready (rs := [4]) (by kernel_rfl) (by simp) (AllReadyH.cons rfl (fun K hK => ?_) AllReadyH.nil)
              go_simp
              have hal := new_below WD (.cells #[.int .i64 8, .int .i64 9, .int .i64 (-9)] 3)
              have hbl : (WD.alloc (.cells #[.int .i64 8, .int .i64 9, .int .i64 (-9)] 3)).heap[WD.heap.size]? = some (.cells #[.int .i64 8, .int .i64 9, .int .i64 (-9)] 3) := by
                show (WD.heap.push _)[WD.heap.size]? = _
                simp
              have HBL := Lib.hid hbl
              have HMA := Lib.hid (HMD.out.below hal)
              have HUA := Lib.hid (HUD.out.below hal HUD.out.lt)
              have HGX := Lib.hid (gb_below HGD.out hal)
              have HHA := Lib.hid ((hal.cell (p := ⟨gh, 0, none⟩) HMD.out.lt.2).trans HHD.out)
              have hgd := HUD.out.lt
              clear hal hbl HMD HUD HGD
              obtain ⟨gl, hgl7⟩ : ∃ x, WD.heap.size = x := ⟨_, rfl⟩
              rw [hgl7] at HBL hgd ⊢
              generalize WD.alloc (.cells #[.int .i64 8, .int .i64 9, .int .i64 (-9)] 3) = WA at *
              clear hgl7
              refine hK.out _ _ HHA.out (fun hHeld => ?_)
              clear hK K
              try simp only [Act.put, List.getElem_toArray, List.getElem_cons_zero, List.getElem_cons_succ, List.setIfInBounds_toArray, List.set_cons_zero, List.set_cons_succ]
              refine wpAnyH_ready (rs := [5]) (by kernel_rfl) (by simp) (AllReadyH.cons rfl (fun K hK => ?_) AllReadyH.nil)
              go_simp
              go_at_call 161
              refine (pickInt_c [8, 9, -9] gl WA B g A len cap zs (HC.out _ HGX.out) HUA.out hlen (by have := HGX.out.size; omega) (by decide) HBL.out (by omega) (by decide) (by intro x hx; simp at hx; unfold InI64; omega)).mono ?_
              rintro e w7 ⟨x, _, rfl, hu7, hg7⟩
              have HU7 := Lib.hid hu7
              have HG7 := Lib.hid (HGX.out.trans_ hg7)
              have HM7 := Lib.hid (HMA.out.within (wi_gb hg7) (by omega))
              have HH7 := Lib.hid ((World.cell?_of_block (a := ⟨gh, 0, none⟩) ((wi_gb hg7).block gh HMA.out.lt.2 (by omega))).trans HHA.out)
              clear hu7 hg7
              refine hK.out _ _ HH7.out (fun hHeld => ?_)
              clear hK K
              try simp only [Act.put, List.getElem_toArray, List.getElem_cons_zero, List.getElem_cons_succ, List.setIfInBounds_toArray, List.set_cons_zero, List.set_cons_succ]
              refine wpAnyH_take (i := 6) (v := .pointer (some ⟨g0, 0, none⟩)) rfl (by kernel_rfl) (by kernel_rfl) (by kernel_rfl) (fun _ _ _ h => h) (Or.inl ⟨by kernel_rfl, fun w hSw => by (try dsimp only at hSw); go_simp; all_goals first | omega | exact IntWalk.i64_in _ (by omega)⟩) (by assumption) ?_
              try simp only [Act.put, List.getElem_toArray, List.getElem_cons_zero, List.getElem_cons_succ, List.setIfInBounds_toArray, List.set_cons_zero, List.set_cons_succ]
              refine wpAnyH_ready (rs := [7]) (by kernel_rfl) (by simp) (AllReadyH.cons rfl (fun K hK => ?_) AllReadyH.nil)
              obtain ⟨g1, hS1, hne1, hg1', hgl1, ⟨v1, hcell1⟩, hfz1, hset1⟩ := HM7.out.cell0 hR0 (by rw [hc0]; omega)
              have e01 : g1 = g0 := by rw [hS0] at hS1; cases hS1; rfl
              subst e01
              have HSET := Lib.hid (hset1 x)
              clear hset1
              go_simp
              have HH8 := Lib.hid ((World.cell?_of_block (a := ⟨gh, 0, none⟩) (HSET.out.2.block gh HM7.out.lt.2 (by omega))).trans HH7.out)
              refine hK.out _ _ HH8.out (fun hHeld => ?_)
              clear hK K
              try simp only [Act.put, List.getElem_toArray, List.getElem_cons_zero, List.getElem_cons_succ, List.setIfInBounds_toArray, List.set_cons_zero, List.set_cons_succ]
              refine wpAnyH_done (by kernel_rfl) ?_ _
              clear hHeld
              go_wp2_with fail
              go_ret
              exact ⟨some ⟨gh, 0, none⟩, c2, mwL (Q + 1) (updA P 0 ((P 0).set 0 x)), by rw [mwL_len]; rfl, by rw [mwL_len]; omega, by rw [mwL_len]; omega, (by first | exact HRWS.out x | (intro i hi; have := HRWS.out x i hi; rwa [List.getD_eq_getElem?_getD] at this)), rowsIn_wid HSET.out.1 HBB.out HSET.out.2.size (Nat.le_refl _), cur_within HU7.out HSET.out.2 (.inl (by omega)), gb_within HG7.out HSET.out.2 (by omega)⟩
            · have hz0' : ¬ z = 0 := hz
              go_wp2_with fail
              go_ret
              exact ⟨some ⟨gh, 0, none⟩, c2, mwL (Q + 1) P, by rw [mwL_len]; rfl, by rw [mwL_len]; omega, by rw [mwL_len]; omega, fun i hi => by rw [mwL_len] at hi; rw [mwL_get hi]; exact Nat.le_trans (Nat.le_of_eq (HPL.out i hi)) hC5, rowsIn_wid HM5.out.reads HBB.out (Nat.le_refl _) (Nat.le_refl _), HU5.out, HG5.out⟩
end Go.Proofs.Ytdkpmaahinbhlaa
/- What chapter 9's draws answer: matrices, vectors and numbers of the call's own. No condition. -/
namespace Go.Proofs.Ytdkpmaahinbhlaa
open Go.RowKit

/-- A drawn matrix: one to five rows of at most five numbers. -/
def DrM (m : List (List Int)) : Prop := 1 ≤ m.length ∧ m.length ≤ 5 ∧ ∀ i, i < m.length → (m.getD i []).length ≤ 5
set_option maxHeartbeats 2000000 in
set_option maxRecDepth 100000 in
theorem drawNul_c (w : World) (A : Option Addr) (len cap : Nat) (zs : Nat → Int) (hc : CodeIs w w.heap.size A len zs) (hlen : len ≤ 140737488351232) :
    Calls Try.prog 58 #[.slice A len cap] w fun e w' => ∃ A' c' m, e = .returned (.slice A' m.length c') ∧ DrM m ∧ RowsIn w' w.heap.size w'.heap.size A' m ∧ Below w.heap.size w w' := by
  have HC := Lib.hid hc
  clear hc
  go_enter Try.func58, Try.ntmps58
  go_wp2_with fail
  refine (new_c w A len cap zs HC.out hlen).mono ?_
  rintro e w1 ⟨g, rfl, hu, hb⟩
  have HB := Lib.hid hb
  have hg := hu.1
  have HM := Lib.hid (mat_c w1 w.heap.size g A len cap zs (HC.out.kept hb) hu hlen hb.size)
  clear hu hb
  go_wp2_with fail
  refine HM.out.mono ?_
  rintro e w2 ⟨A', c', m, rfl, h1, h2, h3, hr, _, hgb⟩
  have HR := Lib.hid (rowsIn_wid hr HB.out.size (Nat.le_refl _) (Nat.le_refl _))
  have HB2 := Lib.hid (HB.out.trans (grown_cur hg HB.out.size hgb))
  have H := Lib.hid (show DrM m from ⟨h1, h2, h3⟩)
  clear hr hgb h1 h2 h3
  go_wp2_with fail
  go_ret
  exact ⟨A', c', m, rfl, H.out, HR.out, HB2.out⟩
set_option maxHeartbeats 2000000 in
set_option maxRecDepth 100000 in
theorem drawTm_c (w : World) (A : Option Addr) (len cap : Nat) (zs : Nat → Int) (hc : CodeIs w w.heap.size A len zs) (hlen : len ≤ 140737488351232) :
    Calls Try.prog 70 #[.slice A len cap] w fun e w' => ∃ A' c' m A2 c2 v, e = .returned (.tuple #[.slice A' m.length c', .slice A2 v.length c2]) ∧ DrM m ∧ v.length ≤ 5 ∧ RowsIn w' w.heap.size w'.heap.size A' m ∧ IntsIn w' w.heap.size w'.heap.size A2 v ∧ Below w.heap.size w w' := by
  have HC := Lib.hid hc
  clear hc
  go_enter Try.func70, Try.ntmps70
  go_wp2_with fail
  refine (new_c w A len cap zs HC.out hlen).mono ?_
  rintro e w1 ⟨g, rfl, hu, hb⟩
  have HB := Lib.hid hb
  have hg := hu.1
  have hgl := hu.lt
  have HM := Lib.hid (mat_c w1 w.heap.size g A len cap zs (HC.out.kept hb) hu hlen hb.size)
  clear hu hb
  go_wp2_with fail
  refine HM.out.mono ?_
  rintro e w2 ⟨A', c', m, rfl, h1, h2, h3, hr, hu2, hgb⟩
  have hs2 := hgb.size
  obtain ⟨b, off, rfl, hb1, hb2, hcc⟩ := hr.2 h1
  obtain ⟨Q, hQ⟩ : ∃ Q, m.length = Q + 1 := ⟨m.length - 1, by omega⟩
  have HR := Lib.hid hr
  have HB2 := Lib.hid (HB.out.trans (grown_cur hg HB.out.size hgb))
  have H := Lib.hid (show DrM m from ⟨h1, h2, h3⟩)
  obtain ⟨A2, c2, hh, _⟩ := hcc Q (by omega)
  have h5 := h3 Q (by omega)
  obtain ⟨n, hn⟩ : ∃ n, (m.getD Q []).length = n := ⟨_, rfl⟩
  rw [hn] at hh h5
  have HV := Lib.hid (vec_c n w2 w.heap.size g A len cap zs (HC.out.kept HB2.out) hu2 hlen (by have := HB.out.size; omega) (by omega))
  have HQ := Lib.hid hQ
  have hQ4 : Q ≤ 4 := by omega
  rw [hQ]
  clear hr hgb h1 h2 h3 hcc hn hu2 hQ
  have hqi : (Q : Int) < ((Q + 1 : Nat) : Int) := by omega
  go_wp2_with fail
  refine HV.out.mono ?_
  rintro e w3 ⟨A3, c3, v, lo, hi, rfl, hvl, _, ho, hlo, _, hg3⟩
  have hHI := ho.1
  have HR3 := Lib.hid (rowsIn_wid (HR.out.within (wi_gb hg3) (.inr (by omega))) HB.out.size hg3.size (Nat.le_refl _))
  have HI3 := Lib.hid (ho.ints.reads.widen (lo' := w.heap.size) (hi' := w3.heap.size) (by have := HB.out.size; omega) hHI (Nat.le_refl _))
  have HB3 := Lib.hid (HB2.out.trans (grown_cur hg (by have := HB.out.size; omega) hg3))
  have hv5 : v.length ≤ 5 := by omega
  clear ho hg3 hvl
  go_wp2_with fail
  refine bodyPost_ret (v := .tuple #[.slice (some ⟨b, off, none⟩) (Q + 1) c', .slice A3 v.length c3]) ?_ rfl ⟨some ⟨b, off, none⟩, c', m, A3, c3, v, by rw [HQ.out], H.out, hv5, HR3.out, HI3.out, HB3.out⟩
  simp [results, Try.results70, go_sem]
/-- The block that a literal row of numbers is laid in. -/
theorem lit_blk (W : World) (ns : List Int) : (W.alloc (.cells (ns.map (Value.int .i64)).toArray 3)).heap[W.heap.size]? = some (.cells (ns.map (Value.int .i64)).toArray 3 (0, 0)) := by
  show (W.heap.push _)[W.heap.size]? = _
  simp
theorem in64 {x : Int} (h1 : -9223372036854775808 ≤ x) (h2 : x ≤ 9223372036854775807) : InI64 x := ⟨h1, h2⟩
set_option maxHeartbeats 2000000 in
set_option maxRecDepth 100000 in
theorem drawGcd_c (w : World) (A : Option Addr) (len cap : Nat) (zs : Nat → Int) (hc : CodeIs w w.heap.size A len zs) (hlen : len ≤ 140737488351232) :
    Calls Try.prog 72 #[.slice A len cap] w fun e w' => ∃ x y, e = .returned (.tuple #[.int .i64 x, .int .i64 y]) ∧ InI64 x ∧ InI64 y ∧ Below w.heap.size w w' := by
  have HC := Lib.hid hc
  clear hc
  go_enter Try.func72, Try.ntmps72
  go_wp2_with fail
  refine (new_c w A len cap zs HC.out hlen).mono ?_
  rintro e w1 ⟨g, rfl, hu, hb⟩
  have HB := Lib.hid hb
  have hg := hu.1
  have hgl := hu.lt
  have HU := Lib.hid hu
  clear hu hb
  have hal := new_below w1 (.cells (([0, 12, -18, 7, 1000000007, -9223372036854775808, 9223372036854775807] : List Int).map (Value.int .i64)).toArray 3)
  have HBL := Lib.hid (lit_blk w1 [0, 12, -18, 7, 1000000007, -9223372036854775808, 9223372036854775807])
  have HU2 := Lib.hid (HU.out.below hal hgl)
  have HB2 := Lib.hid (below_on HB.out hal HB.out.size)
  have hs2 : (w1.alloc (.cells (([0, 12, -18, 7, 1000000007, -9223372036854775808, 9223372036854775807] : List Int).map (Value.int .i64)).toArray 3)).heap.size = w1.heap.size + 1 := by simp
  have HS2 := Lib.hid hs2
  clear hal hs2
  go_wp2_with fail
  refine (pickInt_c [0, 12, -18, 7, 1000000007, -9223372036854775808, 9223372036854775807] w1.heap.size _ w.heap.size g A len cap zs (HC.out.kept HB2.out) HU2.out hlen (by have := HB2.out.size; omega) (by decide) HBL.out (by omega) (by decide) (by intro x hx; simp at hx; unfold InI64; omega)).mono ?_
  rintro e w3 ⟨x, hx, rfl, hu3, hg3⟩
  have HX := Lib.hid hx
  have HU3 := Lib.hid hu3
  have HB3 := Lib.hid (HB2.out.trans (grown_cur hg (by have := HB2.out.size; omega) hg3))
  have hgl3 := hu3.lt
  clear hx hu3 hg3 HBL HU2
  have hal := new_below w3 (.cells (([0, 8, -6, 7, 30] : List Int).map (Value.int .i64)).toArray 3)
  have HBL := Lib.hid (lit_blk w3 [0, 8, -6, 7, 30])
  have HU4 := Lib.hid (HU3.out.below hal hgl3)
  have HB4 := Lib.hid (below_on HB3.out hal HB3.out.size)
  clear hal
  go_wp2_with fail
  refine (pickInt_c [0, 8, -6, 7, 30] w3.heap.size _ w.heap.size g A len cap zs (HC.out.kept HB4.out) HU4.out hlen (by have := HB4.out.size; omega) (by decide) HBL.out (by omega) (by decide) (by intro x hx; simp at hx; unfold InI64; omega)).mono ?_
  rintro e w5 ⟨y, hy, rfl, hu5, hg5⟩
  have HY := Lib.hid hy
  have HB5 := Lib.hid (HB4.out.trans (grown_cur hg (by have := HB4.out.size; omega) hg5))
  clear hy hu5 hg5
  go_wp2_with fail
  refine bodyPost_ret (v := .tuple #[.int .i64 x, .int .i64 y]) ?_ rfl ⟨x, y, rfl, HX.out, HY.out, HB5.out⟩
  simp [results, Try.results72, go_sem]
end Go.Proofs.Ytdkpmaahinbhlaa
/- What spec.DrawPrimitiveVector answers: a row of at most four numbers of the call's own. No condition. -/
namespace Go.Proofs.Ytdkpmaahinbhlaa
open Go.RowKit

theorem ownR_set {W : World} {lo hi c k : Nat} {A : Option Addr} {v : List Int} (h : OwnR W lo hi A c v) (hk : k < v.length) {g0 : Nat} (hA : A = some ⟨g0, 0, none⟩) :
    lo ≤ g0 ∧ g0 < hi ∧ W.cell? ⟨g0, k, none⟩ = some (.int .i64 (v.getD k 0)) ∧ W.frozen? ⟨g0, k, none⟩ = false ∧ ∀ y : Int, OwnR (W.setCell ⟨g0, k, none⟩ (.int .i64 y)) lo hi A c (v.set k y) ∧ Within g0 (g0 + 1) W (W.setCell ⟨g0, k, none⟩ (.int .i64 y)) := by
  rcases h.2 with ⟨_, _, e⟩ | ⟨g1, e, b1, b2, ho⟩
  · rw [e] at hk; exact absurd hk (Nat.not_lt_zero _)
  · rw [hA] at e
    cases e
    have hc0 := World.ownsRow.cellAt ho k (by omega)
    have hf := World.ownsRow.frozenAt ho k
    refine ⟨b1, b2, ?_, hf, fun y => ?_⟩
    · rw [show (intCells v)[k]? = some (Value.int .i64 (v.getD k 0)) by simp [intCells, List.getD, hk]] at hc0
      exact hc0
    · have hst := World.ownsRow.stored ho k (.int .i64 y)
      have hw : Within g0 (g0 + 1) W (W.setCell ⟨g0, k, none⟩ (.int .i64 y)) := ⟨hst.2.os, hst.2.tape, hst.2.output, hst.2.size, fun i hi hd => hst.2.block i hi (by simp; omega)⟩
      have hs := hst.1
      rw [show (intCells v).set k (.int .i64 y) = intCells (v.set k y) by simp [intCells]] at hs
      exact ⟨⟨Nat.le_trans h.1 hw.size, .inr ⟨g0, hA, b1, b2, by rw [List.length_set]; exact hs⟩⟩, hw⟩
theorem ownR_at {W : World} {lo hi c : Nat} {A : Option Addr} {v : List Int} (h : OwnR W lo hi A c v) (hk : 0 < v.length) : ∃ g0, A = some ⟨g0, 0, none⟩ := by
  rcases h.2 with ⟨_, _, e⟩ | ⟨g1, e, _⟩
  · rw [e] at hk; exact absurd hk (Nat.not_lt_zero _)
  · exact ⟨g1, e⟩

set_option maxHeartbeats 8000000 in
set_option maxRecDepth 100000 in
theorem drawPv_c (w : World) (A : Option Addr) (len cap : Nat) (zs : Nat → Int) (hc : CodeIs w w.heap.size A len zs) (hlen : len ≤ 140737488351232) :
    Calls Try.prog 71 #[.slice A len cap] w fun e w' => ∃ A' c' v, e = .returned (.slice A' v.length c') ∧ v.length ≤ 5 ∧ IntsIn w' w.heap.size w'.heap.size A' v ∧ Below w.heap.size w w' := by
  have HC0 := Lib.hid hc
  clear hc
  go_enter Try.func71, Try.ntmps71
  go_wp2_with fail
  refine (new_c w A len cap zs HC0.out hlen).mono ?_
  rintro e w1 ⟨g, rfl, hu, hb⟩
  have HB1 := Lib.hid hb
  have hg := hu.1
  have hgl := hu.lt
  have hs1 := hb.size
  have HC := Lib.hid (fun (W : World) (h : w1.grownBy W (some g)) => HC0.out.kept (HB1.out.trans (grown_cur hg HB1.out.size h)))
  have HD := Lib.hid (below_any 5 w1 w.heap.size g A len cap zs (HC.out _ (gb_refl w1 g)) hu hlen hb.size (by omega))
  clear hu hb
  go_wp2_with fail
  refine HD.out.mono ?_
  rintro e w2 ⟨x, ⟨hx0, hx1⟩, rfl, hu2, hg2⟩
  obtain ⟨n, rfl⟩ := Int.eq_ofNat_of_zero_le hx0
  have hs2 := hg2.size
  have HV := Lib.hid (vec_c n w2 w.heap.size g A len cap zs (HC.out _ hg2) hu2 hlen (by omega) (by omega))
  have HG2 := Lib.hid hg2
  clear hu2 hg2 HD
  go_wp2_with fail
  refine HV.out.mono ?_
  rintro e w3 ⟨A2, c2, v0, lo, hi, rfl, hvl, _, ho, hlo, hu3, hg3⟩
  have HO := Lib.hid ho
  have HU := Lib.hid hu3
  have HG := Lib.hid (HG2.out.trans_ hg3)
  have HV0 := Lib.hid hvl
  have hn5 : n ≤ 5 := by omega
  clear ho hu3 hg3 HV
  go_wp2_with fail
  clear hvl
  go_loopw [5] (fun i wr => ∃ (k : Nat) (v : List Int), k ≤ n ∧ i = .int .i64 k ∧ v.length = n ∧ OwnR wr lo hi A2 c2 v ∧ CurIs wr w.heap.size g A len cap ∧ w1.grownBy wr (some g)) (fun i _ => n - (intOf i).toNat)
  case atStart => exact ⟨0, v0, Nat.zero_le _, rfl, HV0.out, HO.out, HU.out, HG.out⟩
  case round =>
    clear HO HU HG HV0
    obtain ⟨k, v, hk, rfl, hvl, ho, hu, hg3⟩ := hrel
    have HO := Lib.hid ho
    have HU := Lib.hid hu
    have HG := Lib.hid hg3
    have HVL := Lib.hid hvl
    clear ho hu hg3
    by_cases hkn : k < n
    · have hki : (k : Int) < (n : Int) := by omega
      have hkv : k < v.length := by omega
      obtain ⟨g0, hA2⟩ := ownR_at HO.out (by omega)
      have hrg := ownR_set HO.out hkv hA2
      have hb1 := hrg.1
      have hb2 := hrg.2.1
      have hslot : (Value.slice A2 n c2) = Value.slice (some ⟨g0, 0, none⟩) n c2 := by rw [hA2]
      obtain ⟨y0, hy0⟩ : ∃ y, v.getD k 0 = y := ⟨_, rfl⟩
      have HY0 := Lib.hid hy0
      have hgw : g < w2.heap.size := by omega
      clear hrg hy0 hvl
      have HOD := Lib.hid (HO.out.within (within_of (show Below wr.heap.size wr wr.drew from (Below.refl _ _).drew)) (.inr (Nat.zero_le _)))
      have HUD := Lib.hid (HU.out.below (show Below wr.heap.size wr wr.drew from (Below.refl _ _).drew) HU.out.lt)
      have HGD := Lib.hid (gb_below HG.out (show Below wr.heap.size wr wr.drew from (Below.refl _ _).drew))
      rw [hslot]
      clear hslot HO HU HG
      go_wp2_with fail
      refine wp_region_held_drew (S := (fun _ => True)) (by kernel_rfl) ?_ (fun hHeld => ?_)
      · exact trivial
      generalize wr.drew = WD at *
      refine wpAnyH_take (i := 0) (v := .slice (some ⟨g0, 0, none⟩) n c2) rfl (by kernel_rfl) (by kernel_rfl) (by kernel_rfl) (fun _ _ _ h => h) (Or.inl ⟨by kernel_rfl, fun w hSw => by (try dsimp only at hSw); go_simp; all_goals first | omega | exact IntWalk.i64_in _ (by omega)⟩) (by assumption) ?_
      try simp only [Act.put, List.getElem_toArray, List.getElem_cons_zero, List.setIfInBounds_toArray, List.set_cons_zero, List.set_cons_succ]
      refine wpAnyH_take (i := 1) (v := .int .i64 (k : Int)) rfl (by kernel_rfl) (by kernel_rfl) (by kernel_rfl) (fun _ _ _ h => h) (Or.inl ⟨by kernel_rfl, fun w hSw => by (try dsimp only at hSw); go_simp; all_goals first | omega | exact IntWalk.i64_in _ (by omega)⟩) (by assumption) ?_
      try simp only [Act.put, List.getElem_toArray, List.getElem_cons_zero, List.getElem_cons_succ, List.setIfInBounds_toArray, List.set_cons_zero, List.set_cons_succ]
      refine wpAnyH_take (i := 2) (v := .slice (some ⟨g0, 0, none⟩) n c2) rfl (by kernel_rfl) (by kernel_rfl) (by kernel_rfl) (fun _ _ _ h => h) (Or.inl ⟨by kernel_rfl, fun w hSw => by (try dsimp only at hSw); go_simp; all_goals first | omega | exact IntWalk.i64_in _ (by omega)⟩) (by assumption) ?_
      try simp only [Act.put, List.getElem_toArray, List.getElem_cons_zero, List.getElem_cons_succ, List.setIfInBounds_toArray, List.set_cons_zero, List.set_cons_succ]
      refine wpAnyH_take (i := 3) (v := .int .i64 (k : Int)) rfl (by kernel_rfl) (by kernel_rfl) (by kernel_rfl) (fun _ _ _ h => h) (Or.inl ⟨by kernel_rfl, fun w hSw => by (try dsimp only at hSw); go_simp; all_goals first | omega | exact IntWalk.i64_in _ (by omega)⟩) (by assumption) ?_
      try simp only [Act.put, List.getElem_toArray, List.getElem_cons_zero, List.getElem_cons_succ, List.setIfInBounds_toArray, List.set_cons_zero, List.set_cons_succ]
      refine wpAnyH_take (i := 4) (v := .pointer (some ⟨g0, k, none⟩)) rfl (by kernel_rfl) (by kernel_rfl) (by kernel_rfl) (fun _ _ _ h => h) (Or.inl ⟨by kernel_rfl, fun w hSw => by (try dsimp only at hSw); go_simp; all_goals first | omega | exact IntWalk.i64_in _ (by omega)⟩) (by assumption) ?_
      try simp only [Act.put, List.getElem_toArray, List.getElem_cons_zero, List.getElem_cons_succ, List.setIfInBounds_toArray, List.set_cons_zero, List.set_cons_succ]
      refine wpAnyH_take (i := 6) (v := .pointer (some ⟨g, 0, none⟩)) rfl (by kernel_rfl) (by kernel_rfl) (by kernel_rfl) (fun _ _ _ h => h) (Or.inl ⟨by kernel_rfl, fun w hSw => by (try dsimp only at hSw); go_simp; all_goals first | omega | exact IntWalk.i64_in _ (by omega)⟩) (by assumption) ?_
      try simp only [Act.put, List.getElem_toArray, List.getElem_cons_zero, List.getElem_cons_succ, List.setIfInBounds_toArray, List.set_cons_zero, List.set_cons_succ]
      refine wpAnyH_ready (rs := [5, 7]) (by kernel_rfl) (by simp) (AllReadyH.cons rfl (fun K hK => ?_) (AllReadyH.cons rfl (fun K hK => ?_) AllReadyH.nil))
      · have hcl := (ownR_set HOD.out hkv hA2).2.2.1
        rw [HY0.out] at hcl
        go_simp
        clear hcl
        refine hK.out _ _ trivial (fun hHeld => ?_)
        clear hK K
        try simp only [Act.put, List.getElem_toArray, List.getElem_cons_zero, List.getElem_cons_succ, List.setIfInBounds_toArray, List.set_cons_zero, List.set_cons_succ]
        refine wpAnyH_ready (rs := [7]) (by kernel_rfl) (by simp) (AllReadyH.cons rfl (fun K hK => ?_) AllReadyH.nil)
        go_simp
        have hal := new_below WD (.cells #[.int .i64 2, .int .i64 2, .int .i64 6, .int .i64 0] 3)
        have HBL := Lib.hid (lit_blk WD [2, 2, 6, 0])
        have HOA := Lib.hid (HOD.out.within (within_of hal) (.inr (Nat.zero_le _)))
        have HUA := Lib.hid (HUD.out.below hal HUD.out.lt)
        have HGX := Lib.hid (gb_below HGD.out hal)
        have hsA : (WD.alloc (.cells #[.int .i64 2, .int .i64 2, .int .i64 6, .int .i64 0] 3)).heap.size = WD.heap.size + 1 := by simp
        have HSA := Lib.hid hsA
        have hgd := HUD.out.lt
        clear hal hsA
        obtain ⟨gl, hgl7⟩ : ∃ x, WD.heap.size = x := ⟨_, rfl⟩
        have HGL := Lib.hid hgl7
        skip
        rw [hgl7] at HBL hgd ⊢
        clear hgl7
        refine hK.out _ _ trivial (fun hHeld => ?_)
        clear hK K
        try simp only [Act.put, List.getElem_toArray, List.getElem_cons_zero, List.getElem_cons_succ, List.setIfInBounds_toArray, List.set_cons_zero, List.set_cons_succ]
        refine wpAnyH_ready (rs := [8]) (by kernel_rfl) (by simp) (AllReadyH.cons rfl (fun K hK => ?_) AllReadyH.nil)
        go_simp
        go_at_call 161
        refine (pickInt_c [2, 2, 6, 0] gl _ w.heap.size g A len cap zs (HC.out _ HGX.out) HUA.out hlen (by have := HGX.out.size; have := HB1.out.size; omega) (by decide) HBL.out (by omega) (by decide) (by intro x hx; simp at hx; unfold InI64; omega)).mono ?_
        rintro e w7 ⟨x, _, rfl, hu7, hg7⟩
        have HU7 := Lib.hid hu7
        have HG7 := Lib.hid (HGX.out.trans_ hg7)
        have HO7 := Lib.hid (HOA.out.within (wi_gb hg7) (.inr (by omega)))
        clear hu7 hg7
        refine hK.out _ _ trivial (fun hHeld => ?_)
        clear hK K
        try simp only [Act.put, List.getElem_toArray, List.getElem_cons_zero, List.getElem_cons_succ, List.setIfInBounds_toArray, List.set_cons_zero, List.set_cons_succ]
        refine wpAnyH_take (i := 9) (v := .int .i64 (IntKind.i64.wrap (y0 * x))) rfl (by kernel_rfl) (by kernel_rfl) (by kernel_rfl) (fun _ _ _ h => h) (Or.inl ⟨by kernel_rfl, fun w hSw => by (try dsimp only at hSw); go_simp; all_goals first | omega | exact IntWalk.i64_in _ (by omega)⟩) (by assumption) ?_
        try simp only [Act.put, List.getElem_toArray, List.getElem_cons_zero, List.getElem_cons_succ, List.setIfInBounds_toArray, List.set_cons_zero, List.set_cons_succ]
        refine wpAnyH_take (i := 10) (v := .pointer (some ⟨g0, k, none⟩)) rfl (by kernel_rfl) (by kernel_rfl) (by kernel_rfl) (fun _ _ _ h => h) (Or.inl ⟨by kernel_rfl, fun w hSw => by (try dsimp only at hSw); go_simp; all_goals first | omega | exact IntWalk.i64_in _ (by omega)⟩) (by assumption) ?_
        try simp only [Act.put, List.getElem_toArray, List.getElem_cons_zero, List.getElem_cons_succ, List.setIfInBounds_toArray, List.set_cons_zero, List.set_cons_succ]
        refine wpAnyH_ready (rs := [11]) (by kernel_rfl) (by simp) (AllReadyH.cons rfl (fun K hK => ?_) AllReadyH.nil)
        obtain ⟨_, _, hcl, hfz, hset⟩ := ownR_set HO7.out hkv hA2
        have HSET := Lib.hid (hset (wrap64 (y0 * x)))
        clear hset
        go_simp
        clear hcl hfz
        refine hK.out _ _ trivial (fun hHeld => ?_)
        clear hK K
        try simp only [Act.put, List.getElem_toArray, List.getElem_cons_zero, List.getElem_cons_succ, List.setIfInBounds_toArray, List.set_cons_zero, List.set_cons_succ]
        refine wpAnyH_done (by kernel_rfl) ?_ _
        clear hHeld
        have HUE := Lib.hid (cur_within HU7.out HSET.out.2 (.inl (by omega)))
        have HGE := Lib.hid (gb_within HG7.out HSET.out.2 (by omega))
        go_wp2_with fail
        go_roundw
        case rel => exact ⟨k + 1, v.set k (wrap64 (y0 * x)), by omega, by go_num, by rw [List.length_set]; exact HVL.out, HSET.out.1, HUE.out, HGE.out⟩
        case measure => simp [intOf]; omega
      · go_simp
        have hal := new_below WD (.cells #[.int .i64 2, .int .i64 2, .int .i64 6, .int .i64 0] 3)
        have HBL := Lib.hid (lit_blk WD [2, 2, 6, 0])
        have HOA := Lib.hid (HOD.out.within (within_of hal) (.inr (Nat.zero_le _)))
        have HUA := Lib.hid (HUD.out.below hal HUD.out.lt)
        have HGX := Lib.hid (gb_below HGD.out hal)
        have hsA : (WD.alloc (.cells #[.int .i64 2, .int .i64 2, .int .i64 6, .int .i64 0] 3)).heap.size = WD.heap.size + 1 := by simp
        have HSA := Lib.hid hsA
        have hgd := HUD.out.lt
        clear hal hsA
        obtain ⟨gl, hgl7⟩ : ∃ x, WD.heap.size = x := ⟨_, rfl⟩
        have HGL := Lib.hid hgl7
        skip
        rw [hgl7] at HBL hgd ⊢
        clear hgl7
        refine hK.out _ _ trivial (fun hHeld => ?_)
        clear hK K
        try simp only [Act.put, List.getElem_toArray, List.getElem_cons_zero, List.getElem_cons_succ, List.setIfInBounds_toArray, List.set_cons_zero, List.set_cons_succ]
        refine wpAnyH_ready (rs := [5, 8]) (by kernel_rfl) (by simp) (AllReadyH.cons rfl (fun K hK => ?_) (AllReadyH.cons rfl (fun K hK => ?_) AllReadyH.nil))
        · have hcl := (ownR_set HOA.out hkv hA2).2.2.1
          rw [HY0.out] at hcl
          go_simp
          clear hcl
          refine hK.out _ _ trivial (fun hHeld => ?_)
          clear hK K
          try simp only [Act.put, List.getElem_toArray, List.getElem_cons_zero, List.getElem_cons_succ, List.setIfInBounds_toArray, List.set_cons_zero, List.set_cons_succ]
          refine wpAnyH_ready (rs := [8]) (by kernel_rfl) (by simp) (AllReadyH.cons rfl (fun K hK => ?_) AllReadyH.nil)
          go_simp
          go_at_call 161
          refine (pickInt_c [2, 2, 6, 0] gl _ w.heap.size g A len cap zs (HC.out _ HGX.out) HUA.out hlen (by have := HGX.out.size; have := HB1.out.size; omega) (by decide) HBL.out (by omega) (by decide) (by intro x hx; simp at hx; unfold InI64; omega)).mono ?_
          rintro e w7 ⟨x, _, rfl, hu7, hg7⟩
          have HU7 := Lib.hid hu7
          have HG7 := Lib.hid (HGX.out.trans_ hg7)
          have HO7 := Lib.hid (HOA.out.within (wi_gb hg7) (.inr (by omega)))
          clear hu7 hg7
          refine hK.out _ _ trivial (fun hHeld => ?_)
          clear hK K
          try simp only [Act.put, List.getElem_toArray, List.getElem_cons_zero, List.getElem_cons_succ, List.setIfInBounds_toArray, List.set_cons_zero, List.set_cons_succ]
          refine wpAnyH_take (i := 9) (v := .int .i64 (IntKind.i64.wrap (y0 * x))) rfl (by kernel_rfl) (by kernel_rfl) (by kernel_rfl) (fun _ _ _ h => h) (Or.inl ⟨by kernel_rfl, fun w hSw => by (try dsimp only at hSw); go_simp; all_goals first | omega | exact IntWalk.i64_in _ (by omega)⟩) (by assumption) ?_
          try simp only [Act.put, List.getElem_toArray, List.getElem_cons_zero, List.getElem_cons_succ, List.setIfInBounds_toArray, List.set_cons_zero, List.set_cons_succ]
          refine wpAnyH_take (i := 10) (v := .pointer (some ⟨g0, k, none⟩)) rfl (by kernel_rfl) (by kernel_rfl) (by kernel_rfl) (fun _ _ _ h => h) (Or.inl ⟨by kernel_rfl, fun w hSw => by (try dsimp only at hSw); go_simp; all_goals first | omega | exact IntWalk.i64_in _ (by omega)⟩) (by assumption) ?_
          try simp only [Act.put, List.getElem_toArray, List.getElem_cons_zero, List.getElem_cons_succ, List.setIfInBounds_toArray, List.set_cons_zero, List.set_cons_succ]
          refine wpAnyH_ready (rs := [11]) (by kernel_rfl) (by simp) (AllReadyH.cons rfl (fun K hK => ?_) AllReadyH.nil)
          obtain ⟨_, _, hcl, hfz, hset⟩ := ownR_set HO7.out hkv hA2
          have HSET := Lib.hid (hset (wrap64 (y0 * x)))
          clear hset
          go_simp
          clear hcl hfz
          refine hK.out _ _ trivial (fun hHeld => ?_)
          clear hK K
          try simp only [Act.put, List.getElem_toArray, List.getElem_cons_zero, List.getElem_cons_succ, List.setIfInBounds_toArray, List.set_cons_zero, List.set_cons_succ]
          refine wpAnyH_done (by kernel_rfl) ?_ _
          clear hHeld
          have HUE := Lib.hid (cur_within HU7.out HSET.out.2 (.inl (by omega)))
          have HGE := Lib.hid (gb_within HG7.out HSET.out.2 (by omega))
          go_wp2_with fail
          go_roundw
          case rel => exact ⟨k + 1, v.set k (wrap64 (y0 * x)), by omega, by go_num, by rw [List.length_set]; exact HVL.out, HSET.out.1, HUE.out, HGE.out⟩
          case measure => simp [intOf]; omega
        · go_simp
          go_at_call 161
          refine (pickInt_c [2, 2, 6, 0] gl _ w.heap.size g A len cap zs (HC.out _ HGX.out) HUA.out hlen (by have := HGX.out.size; have := HB1.out.size; omega) (by decide) HBL.out (by omega) (by decide) (by intro x hx; simp at hx; unfold InI64; omega)).mono ?_
          rintro e w7 ⟨x, _, rfl, hu7, hg7⟩
          have HU7 := Lib.hid hu7
          have HG7 := Lib.hid (HGX.out.trans_ hg7)
          have HO7 := Lib.hid (HOA.out.within (wi_gb hg7) (.inr (by omega)))
          clear hu7 hg7
          refine hK.out _ _ trivial (fun hHeld => ?_)
          clear hK K
          try simp only [Act.put, List.getElem_toArray, List.getElem_cons_zero, List.getElem_cons_succ, List.setIfInBounds_toArray, List.set_cons_zero, List.set_cons_succ]
          refine wpAnyH_ready (rs := [5]) (by kernel_rfl) (by simp) (AllReadyH.cons rfl (fun K hK => ?_) AllReadyH.nil)
          have hcl := (ownR_set HO7.out hkv hA2).2.2.1
          rw [HY0.out] at hcl
          go_simp
          clear hcl
          refine hK.out _ _ trivial (fun hHeld => ?_)
          clear hK K
          try simp only [Act.put, List.getElem_toArray, List.getElem_cons_zero, List.getElem_cons_succ, List.setIfInBounds_toArray, List.set_cons_zero, List.set_cons_succ]
          refine wpAnyH_take (i := 9) (v := .int .i64 (IntKind.i64.wrap (y0 * x))) rfl (by kernel_rfl) (by kernel_rfl) (by kernel_rfl) (fun _ _ _ h => h) (Or.inl ⟨by kernel_rfl, fun w hSw => by (try dsimp only at hSw); go_simp; all_goals first | omega | exact IntWalk.i64_in _ (by omega)⟩) (by assumption) ?_
          try simp only [Act.put, List.getElem_toArray, List.getElem_cons_zero, List.getElem_cons_succ, List.setIfInBounds_toArray, List.set_cons_zero, List.set_cons_succ]
          refine wpAnyH_take (i := 10) (v := .pointer (some ⟨g0, k, none⟩)) rfl (by kernel_rfl) (by kernel_rfl) (by kernel_rfl) (fun _ _ _ h => h) (Or.inl ⟨by kernel_rfl, fun w hSw => by (try dsimp only at hSw); go_simp; all_goals first | omega | exact IntWalk.i64_in _ (by omega)⟩) (by assumption) ?_
          try simp only [Act.put, List.getElem_toArray, List.getElem_cons_zero, List.getElem_cons_succ, List.setIfInBounds_toArray, List.set_cons_zero, List.set_cons_succ]
          refine wpAnyH_ready (rs := [11]) (by kernel_rfl) (by simp) (AllReadyH.cons rfl (fun K hK => ?_) AllReadyH.nil)
          obtain ⟨_, _, hcl, hfz, hset⟩ := ownR_set HO7.out hkv hA2
          have HSET := Lib.hid (hset (wrap64 (y0 * x)))
          clear hset
          go_simp
          clear hcl hfz
          refine hK.out _ _ trivial (fun hHeld => ?_)
          clear hK K
          try simp only [Act.put, List.getElem_toArray, List.getElem_cons_zero, List.getElem_cons_succ, List.setIfInBounds_toArray, List.set_cons_zero, List.set_cons_succ]
          refine wpAnyH_done (by kernel_rfl) ?_ _
          clear hHeld
          have HUE := Lib.hid (cur_within HU7.out HSET.out.2 (.inl (by omega)))
          have HGE := Lib.hid (gb_within HG7.out HSET.out.2 (by omega))
          go_wp2_with fail
          go_roundw
          case rel => exact ⟨k + 1, v.set k (wrap64 (y0 * x)), by omega, by go_num, by rw [List.length_set]; exact HVL.out, HSET.out.1, HUE.out, HGE.out⟩
          case measure => simp [intOf]; omega
    · obtain rfl : k = n := by omega
      have HB5 := Lib.hid (HB1.out.trans (grown_cur hg HB1.out.size HG.out))
      have HI5 := Lib.hid (HO.out.ints.reads.widen (lo' := w.heap.size) (hi' := wr.heap.size) (by omega) HO.out.1 (Nat.le_refl _))
      have hv5 : v.length ≤ 5 := by omega
      have HVE := Lib.hid (show (Value.slice A2 k c2) = Value.slice A2 v.length c2 by rw [hvl])
      clear hvl
      by_cases h0 : 0 < k
      · have hk0 : (0 : Int) < (k : Int) := by omega
        have hkv : 0 < v.length := by have := HVL.out; omega
        obtain ⟨g0, hA2⟩ := ownR_at HO.out hkv
        have HON := Lib.hid (once_c 10 wr w.heap.size g A len cap zs (HC.out _ HG.out) HU.out hlen (by have := HG.out.size; omega) (by omega))
        go_wp2_with fail
        refine HON.out.mono ?_
        rintro e w5 ⟨⟨b, rfl⟩, hu5, hg5⟩
        have hgl2 : g + 1 ≤ lo := by omega
        have HO5 := Lib.hid (HO.out.within (wi_gb hg5) (.inr hgl2))
        have HG5 := Lib.hid (HG.out.trans_ hg5)
        have HB6 := Lib.hid (HB1.out.trans (grown_cur hg HB1.out.size HG5.out))
        clear hu5 hg5 HON HU HG HB5 HI5 HO
        cases b
        · go_wp2_with fail
          go_ret
          exact ⟨A2, c2, v, by rw [← HVE.out, hA2]; rfl, hv5, HO5.out.ints.reads.widen (by omega) HO5.out.1 (Nat.le_refl _), HB6.out⟩
        · have hrg := ownR_set HO5.out hkv hA2
          have hb1 := hrg.1
          have hcl := hrg.2.2.1
          have hfz := hrg.2.2.2.1
          have HSET := Lib.hid (hrg.2.2.2.2 (-9223372036854775808))
          have hslot : (Value.slice A2 k c2) = Value.slice (some ⟨g0, 0, none⟩) k c2 := by rw [hA2]
          have HA2 := Lib.hid hA2
          clear hrg hA2
          rw [hslot]
          clear hslot
          go_wp2_with fail
          go_ret
          exact ⟨A2, c2, v.set 0 (-9223372036854775808), by rw [List.length_set, ← HVE.out, HA2.out]; rfl, by rw [List.length_set]; exact hv5, HSET.out.1.ints.reads.widen (by omega) HSET.out.1.1 (Nat.le_refl _), within_on HB6.out HSET.out.2 HB6.out.size (.inl (by omega))⟩
      · obtain rfl : k = 0 := by omega
        go_wp2_with fail
        go_ret
        exact ⟨A2, c2, v, by rw [← HVE.out]; rfl, hv5, HI5.out, HB5.out⟩
end Go.Proofs.Ytdkpmaahinbhlaa
/- What a matrix of the document is, and its transposed one and its products, as words on lists. No condition. -/
namespace Go.Proofs.Ytdkpmaahinbhlaa

def atM (m : List (List Int)) (i j : Nat) : Int := (m.getD i []).getD j 0
def widM (m : List (List Int)) : Nat := (m.getD 0 []).length
/-- The squares of the first numbers of a row, added. -/
def sqsP (row : List Int) : Nat → Int
  | 0 => 0
  | j + 1 => sqsP row j + row.getD j 0 * row.getD j 0
def RngP (row : List Int) (k : Nat) : Prop := ∀ j, j < k → -8 ≤ row.getD j 0 ∧ row.getD j 0 ≤ 8
/-- The first k rows are rows of a matrix. -/
def RowsP1 (m : List (List Int)) (k : Nat) : Prop := ∀ i, i < k → (m.getD i []).length = widM m ∧ RngP (m.getD i []) (widM m)
structure MatP (m : List (List Int)) : Prop where
  h0 : 0 < m.length
  h9 : m.length ≤ 9
  w1 : 1 ≤ widM m
  w12 : widM m ≤ 12
  row : RowsP1 m m.length
  sq : ∀ i, i < m.length → sqsP (m.getD i []) (widM m) ≤ 64
noncomputable def isMatB (m : List (List Int)) : Bool := @decide (MatP m) (Classical.propDecidable _)
theorem isMatB_yes {m : List (List Int)} (h : MatP m) : isMatB m = true := by unfold isMatB; exact @decide_eq_true _ (Classical.propDecidable _) h
theorem isMatB_no {m : List (List Int)} (h : ¬ MatP m) : isMatB m = false := by unfold isMatB; exact @decide_eq_false _ (Classical.propDecidable _) h
theorem isMatB_iff {m : List (List Int)} : isMatB m = true ↔ MatP m :=
  ⟨fun h => Classical.byContradiction fun g => (by rw [isMatB_no g] at h; cases h), isMatB_yes⟩
theorem sqsP_pos (row : List Int) : ∀ k, 0 ≤ sqsP row k := by
  intro k
  induction k with
  | zero => exact Int.le_refl 0
  | succ k ih =>
    have := sq_pos (row.getD k 0)
    show 0 ≤ sqsP row k + _
    omega
theorem sqsP_le (row : List Int) {j k : Nat} (h : j ≤ k) : sqsP row j ≤ sqsP row k := by
  induction k with
  | zero => obtain rfl : j = 0 := by omega
            exact Int.le_refl _
  | succ k ih =>
    by_cases e : j = k + 1
    · subst e; exact Int.le_refl _
    · have h1 := ih (by omega)
      have h2 := sq_pos (row.getD k 0)
      show _ ≤ sqsP row k + _
      omega
theorem sq_bd {x : Int} (h : -8 ≤ x ∧ x ≤ 8) : x * x ≤ 64 := by
  have : x = -8 ∨ x = -7 ∨ x = -6 ∨ x = -5 ∨ x = -4 ∨ x = -3 ∨ x = -2 ∨ x = -1 ∨ x = 0 ∨ x = 1 ∨ x = 2 ∨ x = 3 ∨ x = 4 ∨ x = 5 ∨ x = 6 ∨ x = 7 ∨ x = 8 := by omega
  rcases this with rfl | rfl | rfl | rfl | rfl | rfl | rfl | rfl | rfl | rfl | rfl | rfl | rfl | rfl | rfl | rfl | rfl <;> decide
theorem sqsP_bd {row : List Int} {k : Nat} (h : RngP row k) : ∀ j, j ≤ k → sqsP row j ≤ 64 * (j : Int) := by
  intro j
  induction j with
  | zero => intro _; exact Int.le_refl 0
  | succ j ih =>
    intro hj
    have h1 := ih (by omega)
    have h2 := sq_bd (h j (by omega))
    show sqsP row j + row.getD j 0 * row.getD j 0 ≤ _
    omega
theorem sqsP_dot (row : List Int) : ∀ k, sqsP row k = dotV (fun j => row.getD j 0) (fun j => row.getD j 0) k := by
  intro k
  induction k with
  | zero => rfl
  | succ k ih => show sqsP row k + _ = dotV _ _ k + _; rw [ih]
/-- Rows that can be reduced: no number gets great on the way. -/
structure MatQ (m : List (List Int)) : Prop where
  h0 : 0 < m.length
  h9 : m.length ≤ 24
  w1 : 1 ≤ widM m
  w12 : widM m ≤ 12
  row : RowsP1 m m.length
  both : ∀ c, c ≤ widM m → RedS (widM m) m.length (Red.run m.length (atM m) c) c ∧ LimS (widM m) m.length (Red.run m.length (atM m) c)
theorem MatQ.red {m : List (List Int)} (h : MatQ m) {c : Nat} (hc : c ≤ widM m) : RedS (widM m) m.length (Red.run m.length (atM m) c) c := (h.both c hc).1
theorem MatQ.limS {m : List (List Int)} (h : MatQ m) {c : Nat} (hc : c ≤ widM m) : LimS (widM m) m.length (Red.run m.length (atM m) c) := (h.both c hc).2
theorem MatP.red {m : List (List Int)} (h : MatP m) {c : Nat} (hc : c ≤ widM m) : RedS (widM m) m.length (Red.run m.length (atM m) c) c :=
  RedS.run (fun i hi => by have := h.sq i hi; rw [sqsP_dot] at this; exact this) c hc
theorem MatP.q {m : List (List Int)} (h : MatP m) : MatQ m := ⟨h.h0, by have := h.h9; omega, h.w1, h.w12, h.row, fun _ hc => ⟨h.red hc, (h.red hc).limS h.h9⟩⟩
/-- Rows and columns exchanged. -/
def trL (m : List (List Int)) : List (List Int) := (List.range (widM m)).map fun j => rowF m.length fun i => atM m i j
noncomputable def trV (m : List (List Int)) : List (List Int) := if isMatB m = true then trL m else []
/-- A row times a vector, as ints wrap around. -/
def dotW64 (row v : List Int) : Nat → Int
  | 0 => 0
  | j + 1 => IntKind.i64.wrap (dotW64 row v j + IntKind.i64.wrap (row.getD j 0 * v.getD j 0))
def tmL (m : List (List Int)) (v : List Int) : List Int := rowF m.length fun i => dotW64 (m.getD i []) v v.length
noncomputable def tmV (m : List (List Int)) (v : List Int) : List Int := if isMatB m = true ∧ v.length = widM m then tmL m v else []
end Go.Proofs.Ytdkpmaahinbhlaa
/- The mathematics of a framework: which are valid, the squares of the lengths, mirror images and turns. No condition. -/
namespace Go.Proofs.Ytdkpmaahinbhlaa
open Go.RowKit

/-- A place of the grid. -/
def OnG (x : Int × Int) : Prop := (0 ≤ x.1 ∧ x.1 ≤ 4) ∧ 0 ≤ x.2 ∧ x.2 ≤ 4
instance (x : Int × Int) : Decidable (OnG x) := by unfold OnG; exact inferInstance
/-- The place of a joint. -/
def plc (m : List (Int × Int)) (v : Int) : Int × Int := m.getD v.toNat (0, 0)
/-- The bar at place i has a length, and is no second one of its kind. -/
def OkF (l m : List (Int × Int)) (i : Nat) : Prop :=
  plc m (l.getD i (0, 0)).1 ≠ plc m (l.getD i (0, 0)).2 ∧ (0 < i → l.getD (i - 1) (0, 0) ≠ l.getD i (0, 0))
/-- A framework. -/
structure IsF (p : Int) (l m : List (Int × Int)) : Prop where
  g : IsG p l
  six : p ≤ 6
  len : (m.length : Int) = p
  bars : l.length ≤ 15
  grid : ∀ i, i < m.length → OnG (m.getD i (0, 0))
  ok : ∀ i, i < l.length → OkF l m i
open Classical in
noncomputable def isFB (p : Int) (l m : List (Int × Int)) : Bool := if IsF p l m then true else false
theorem isFB_yes {p : Int} {l m : List (Int × Int)} (h : IsF p l m) : isFB p l m = true := by unfold isFB; rw [if_pos h]
theorem isFB_no {p : Int} {l m : List (Int × Int)} (h : ¬ IsF p l m) : isFB p l m = false := by unfold isFB; rw [if_neg h]
theorem isFB_iff {p : Int} {l m : List (Int × Int)} : isFB p l m = true ↔ IsF p l m := by
  constructor
  · intro h
    exact Classical.byContradiction fun hn => by rw [isFB_no hn] at h; cases h
  · exact isFB_yes
theorem IsF.ends {p : Int} {l m : List (Int × Int)} (h : IsF p l m) {i : Nat} (hi : i < l.length) :
    0 ≤ (l.getD i (0, 0)).1 ∧ (l.getD i (0, 0)).1 < (l.getD i (0, 0)).2 ∧ (l.getD i (0, 0)).2 < p := ⟨(h.g.2.2 i hi).1, (h.g.2.2 i hi).2.1, (h.g.2.2 i hi).2.2.1⟩
theorem IsF.on {p : Int} {l m : List (Int × Int)} (h : IsF p l m) {v : Int} (h0 : 0 ≤ v) (h1 : v < p) : OnG (plc m v) := h.grid _ (by have := h.len; omega)
/-- The square of the distance of two places. -/
def sqD (a b : Int × Int) : Int := (a.1 - b.1) * (a.1 - b.1) + (a.2 - b.2) * (a.2 - b.2)
def sqB (m : List (Int × Int)) (x : Int × Int) : Int := sqD (plc m x.1) (plc m x.2)
/-- What SquareLengths answers. -/
noncomputable def sqL (p : Int) (l m : List (Int × Int)) : List Int := if isFB p l m = true then l.map (sqB m) else []
theorem sqL_yes {p : Int} {l m : List (Int × Int)} (h : isFB p l m = true) : sqL p l m = l.map (sqB m) := by unfold sqL; rw [if_pos h]
theorem sqL_no {p : Int} {l m : List (Int × Int)} (h : isFB p l m = false) : sqL p l m = [] := by unfold sqL; rw [if_neg (by rw [h]; simp)]
theorem sqL_len (p : Int) (l m : List (Int × Int)) : (sqL p l m).length ≤ 15 := by
  by_cases h : isFB p l m = true
  · rw [sqL_yes h, List.length_map]
    exact (isFB_iff.1 h).bars
  · rw [sqL_no (by simpa using h)]
    simp
/-- A framework's places after a change of each. -/
noncomputable def chgL (f : Int × Int → Int × Int) (p : Int) (l m : List (Int × Int)) : List (Int × Int) := if isFB p l m = true then m.map f else m
theorem chgL_yes {f : Int × Int → Int × Int} {p : Int} {l m : List (Int × Int)} (h : isFB p l m = true) : chgL f p l m = m.map f := by unfold chgL; rw [if_pos h]
theorem chgL_no {f : Int × Int → Int × Int} {p : Int} {l m : List (Int × Int)} (h : isFB p l m = false) : chgL f p l m = m := by unfold chgL; rw [if_neg (by rw [h]; simp)]
theorem chgL_len (f : Int × Int → Int × Int) (p : Int) (l m : List (Int × Int)) : (chgL f p l m).length = m.length := by
  unfold chgL
  split <;> simp
def mirF (x : Int × Int) : Int × Int := (4 - x.1, x.2)
def turF (x : Int × Int) : Int × Int := (4 - x.2, x.1)
/-- The places of which the first k are changed. -/
theorem chg_step (f : Int × Int → Int × Int) (m : List (Int × Int)) (k : Nat) (h : k < m.length) :
    ((m.take k).map f ++ m.drop k).set k (f (m.getD k (0, 0))) = (m.take (k + 1)).map f ++ m.drop (k + 1) := by
  have hl : ((m.take k).map f).length = k := by simp; omega
  have e : m.getD k (0, 0) = m[k] := by simp [List.getD, List.getElem?_eq_getElem h]
  rw [e, List.set_append_right _ _ (by omega), hl, Nat.sub_self, List.drop_eq_getElem_cons h, List.set_cons_zero, List.take_succ_eq_append_getElem h, List.map_append, List.append_assoc]
  rfl
theorem chg_get (f : Int × Int → Int × Int) (m : List (Int × Int)) (k : Nat) (h : k < m.length) : ((m.take k).map f ++ m.drop k).getD k (0, 0) = m.getD k (0, 0) := by
  have hl : ((m.take k).map f).length = k := by simp; omega
  rw [List.getD_eq_getElem?_getD, List.getElem?_append_right (by omega), hl, Nat.sub_self, List.getElem?_drop, Nat.add_zero, ← List.getD_eq_getElem?_getD]
/-- What MoveJoint answers. -/
noncomputable def movB (p : Int) (l m : List (Int × Int)) (v : Int) (x : Int × Int) : Bool := if isFB p l m = true ∧ 0 ≤ v ∧ v < p then isFB p l (m.set v.toNat x) else false
noncomputable def movL (p : Int) (l m : List (Int × Int)) (v : Int) (x : Int × Int) : List (Int × Int) := if movB p l m v x = true then m.set v.toNat x else m
theorem movL_len (p : Int) (l m : List (Int × Int)) (v : Int) (x : Int × Int) : (movL p l m v x).length = m.length := by
  unfold movL
  split <;> simp
/-- Three places on a line. -/
def colB (a b c : Int × Int) : Bool := decide (OnG a) && (decide (OnG b) && (decide (OnG c) && decide ((b.1 - a.1) * (c.2 - a.2) = (b.2 - a.2) * (c.1 - a.1))))
/-- Equal lengths. -/
noncomputable def sameF (p : Int) (l m : List (Int × Int)) (q : Int) (l' m' : List (Int × Int)) : Bool :=
  isFB p l m && (isFB q l' m' && (decide (p = q ∧ l = l') && decide (sqL p l m = sqL q l' m')))
end Go.Proofs.Ytdkpmaahinbhlaa
/- The rigidity matrix of a framework, as words on lists, and that its rank is at most 9, so that no number gets great while it is reduced: the motions of the plane leave two columns and one more without a pivot. No condition. -/
namespace Go.Proofs.Ytdkpmaahinbhlaa
open Go.RowKit

theorem dotV_comb {D x y : Int} {u' u v : Nat → Int} (g : Nat → Int) : ∀ n, (∀ j, j < n → D * u' j = u j * x - v j * y) → D * dotV u' g n = dotV u g n * x - dotV v g n * y := by
  intro n
  induction n with
  | zero => intro _; show D * 0 = 0 * x - 0 * y; omega
  | succ n ih =>
    intro h
    have h1 := ih fun j hj => h j (by omega)
    have h2 := h n (by omega)
    show D * (dotV u' g n + u' n * g n) = (dotV u g n + u n * g n) * x - (dotV v g n + v n * g n) * y
    grind
theorem dotV_one {u g : Nat → Int} {t : Nat} {z : Int} : ∀ n, (∀ j, j < n → u j * g j = if j = t then z else 0) → dotV u g n = if t < n then z else 0 := by
  intro n
  induction n with
  | zero => intro _; rfl
  | succ n ih =>
    intro h
    show dotV u g n + u n * g n = _
    rw [ih fun j hj => h j (by omega), h n (by omega)]
    by_cases e : n = t
    · subst e; rw [if_neg (by omega), if_pos rfl, if_pos (by omega), Int.zero_add]
    · rw [if_neg e, Int.add_zero]
      by_cases e2 : t < n
      · rw [if_pos e2, if_pos (by omega)]
      · rw [if_neg e2, if_neg (by omega)]
theorem dotV_nil {u g : Nat → Int} (n : Nat) (h : ∀ j, j < n → u j * g j = 0) : dotV u g n = 0 := by
  induction n with
  | zero => rfl
  | succ n ih =>
    show dotV u g n + u n * g n = 0
    rw [ih fun j hj => h j (by omega), h n (by omega)]; rfl
/-- What every row takes to zero, every row of the reduction takes to zero. -/
theorem RedS.kill {n m c : Nat} {s : Red} (h : RedS n m s c) (hc : c < n) {g : Nat → Int} (hg : ∀ i, i < m → dotV (s.R i) g n = 0) : ∀ i, i < m → dotV ((s.take m c).R i) g n = 0 := by
  intro i hi
  by_cases hf : s.first m c < m
  · by_cases e : i = s.pv.length
    · have : (s.take m c).R i = s.R (s.first m c) := by
        unfold Red.take; rw [if_pos hf]
        show barStep _ _ _ _ i = _
        funext j
        unfold barStep barSwap
        rw [if_pos e, if_pos rfl]
      rw [this]; exact hg _ hf
    · have h1 := dotV_comb g n fun j hj => h.exact hc hf hi e hj
      have h2 : dotV (barSwap s.R s.pv.length (s.first m c) i) g n = 0 := by
        unfold barSwap
        rw [if_neg e]
        split
        · exact hg _ (h.first_nz hf).2.2
        · exact hg _ hi
      rw [h2, hg _ hf, Int.zero_mul, Int.zero_mul, Int.sub_self] at h1
      exact (Int.mul_eq_zero.1 h1).resolve_left h.bar.nz
  · rw [Red.take_no hf]; exact hg i hi
/-- The rows without a pivot are zero in the columns behind. -/
def Ech (m : Nat) (s : Red) (c : Nat) : Prop := ∀ i, s.pv.length ≤ i → i < m → ∀ j, j < c → s.R i j = 0
theorem first_no {m : Nat} {s : Red} {c : Nat} (hf : ¬ s.first m c < m) {i : Nat} (h1 : s.pv.length ≤ i) (h2 : i < m) : s.R i c = 0 := by
  obtain ⟨g1, g2, g3, g4⟩ := fstI_spec (fun i => s.R i c != 0) (m - s.pv.length) s.pv.length
  have := g4 i h1 (by show i < s.first m c; omega)
  simpa using this
theorem first_none {m : Nat} {s : Red} {c : Nat} (h : ∀ i, s.pv.length ≤ i → i < m → s.R i c = 0) : ¬ s.first m c < m := by
  intro hf
  obtain ⟨g1, g2, g3, g4⟩ := fstI_spec (fun i => s.R i c != 0) (m - s.pv.length) s.pv.length
  have g1' : s.pv.length ≤ s.first m c := g1
  have := g3 (by show s.first m c < _; omega)
  rw [show fstI _ _ _ = s.first m c from rfl] at this
  rw [h _ g1' hf] at this
  simp at this
theorem Ech.take {n m c : Nat} {s : Red} (h : RedS n m s c) (hE : Ech m s c) (hc : c < n) : Ech m (s.take m c) (c + 1) := by
  by_cases hf : s.first m c < m
  · intro i h1 h2 j hj
    rw [(Red.take_pv hf).1, List.length_append] at h1
    have h1' : s.pv.length + 1 ≤ i := h1
    have hx := h.exact hc hf h2 (by omega) (j := j) (by omega)
    have hfz := h.first_nz hf
    by_cases e : j = c
    · subst e
      rw [Int.mul_comm (s.R _ _) (barSwap _ _ _ _ _), Int.sub_self] at hx
      exact (Int.mul_eq_zero.1 hx).resolve_left h.bar.nz
    · have z1 : s.R (s.first m c) j = 0 := hE _ hfz.2.1 hf j (by omega)
      have z2 : barSwap s.R s.pv.length (s.first m c) i j = 0 := by
        unfold barSwap
        rw [if_neg (by omega)]
        split
        · exact hE _ (Nat.le_refl _) hfz.2.2 j (by omega)
        · exact hE _ (by omega) h2 j (by omega)
      rw [z1, z2, Int.zero_mul, Int.zero_mul, Int.sub_self] at hx
      exact (Int.mul_eq_zero.1 hx).resolve_left h.bar.nz
  · rw [Red.take_no hf]
    intro i h1 h2 j hj
    by_cases e : j = c
    · subst e; exact first_no hf h1 h2
    · exact hE i h1 h2 j (by omega)
/-- All that stands while the columns are taken. -/
theorem Red.run_all {n m : Nat} {A : Nat → Nat → Int} (hA : ∀ i, i < m → dotV (A i) (A i) n ≤ 64) : ∀ c, c ≤ n → RedS n m (Red.run m A c) c ∧ Ech m (Red.run m A c) c ∧ (∀ g, (∀ i, i < m → dotV (A i) g n = 0) → ∀ i, i < m → dotV ((Red.run m A c).R i) g n = 0) := by
  intro c
  induction c with
  | zero => intro _; exact ⟨RedS.run hA 0 (Nat.zero_le _), fun _ _ _ j hj => absurd hj (Nat.not_lt_zero _), fun _ h => h⟩
  | succ c ih =>
    intro hc
    obtain ⟨h1, h2, h3⟩ := ih (by omega)
    exact ⟨h1.take (by omega), h2.take h1 (by omega), fun g hg => h1.kill (by omega) (h3 g hg)⟩
theorem Red.take_le (m : Nat) (s : Red) (c : Nat) : s.pv.length ≤ (s.take m c).pv.length ∧ (s.take m c).pv.length ≤ s.pv.length + 1 ∧ ((s.take m c).pv.length = s.pv.length → s.take m c = s) := by
  by_cases hf : s.first m c < m
  · rw [(Red.take_pv hf).1, List.length_append]
    refine ⟨by simp, by simp, fun h => ?_⟩
    simp at h
  · rw [Red.take_no hf]
    exact ⟨Nat.le_refl _, Nat.le_succ _, fun _ => rfl⟩
theorem Red.run_le (m : Nat) (A : Nat → Nat → Int) (c : Nat) : ∀ d, (Red.run m A c).pv.length ≤ (Red.run m A (c + d)).pv.length ∧ ((Red.run m A (c + d)).pv.length = (Red.run m A c).pv.length → Red.run m A (c + d) = Red.run m A c) := by
  intro d
  induction d with
  | zero => exact ⟨Nat.le_refl _, fun _ => rfl⟩
  | succ d ih =>
    have h1 := Red.take_le m (Red.run m A (c + d)) (c + d)
    have e : Red.run m A (c + (d + 1)) = (Red.run m A (c + d)).take m (c + d) := rfl
    rw [e]
    refine ⟨by omega, fun h => ?_⟩
    rw [h1.2.2 (by omega)]
    exact ih.2 (by omega)
theorem Red.run_len (m : Nat) (A : Nat → Nat → Int) : ∀ c, (Red.run m A c).pv.length ≤ c ∧ ((Red.run m A c).pv.length = c → (Red.run m A c).pv = List.range c) := by
  intro c
  induction c with
  | zero => exact ⟨Nat.le_refl _, fun _ => rfl⟩
  | succ c ih =>
    have e : Red.run m A (c + 1) = (Red.run m A c).take m c := rfl
    rw [e]
    have h1 := Red.take_le m (Red.run m A c) c
    refine ⟨by omega, fun h => ?_⟩
    by_cases hf : (Red.run m A c).first m c < m
    · have h2 := (Red.take_pv hf).1
      rw [h2, List.length_append] at h
      have h3 : (Red.run m A c).pv.length = c := by simp at h; omega
      rw [h2, ih.2 h3, List.range_succ]
    · rw [Red.take_no hf] at h
      omega
/-- Where at most nine rows have pivots, no number is great. -/
theorem lim_run {n m : Nat} {A : Nat → Nat → Int} (hA : ∀ i, i < m → dotV (A i) (A i) n ≤ 64) (hk : (Red.run m A n).pv.length ≤ 9) {c : Nat} (hc : c ≤ n) : LimS n m (Red.run m A c) := by
  have h := (Red.run_all hA c hc).1
  obtain ⟨d, rfl⟩ : ∃ d, n = c + d := ⟨n - c, by omega⟩
  have hl := Red.run_le m A c d
  refine ⟨fun {i j} hi hj => ?_, ?_⟩
  · by_cases hz : (Red.run m A c).pv.length = 9 ∧ (Red.run m A c).pv.length ≤ i
    · have e := hl.2 (by omega)
      have hE := (Red.run_all hA (c + d) (Nat.le_refl _)).2.1
      rw [e] at hE
      rw [hE i hz.2 hi j hj]
      decide
    · apply abs_of_sq (by decide)
      refine Int.le_trans (h.bar.small hi hj) (pow64_le ?_)
      split <;> omega
  · apply abs_of_sq (by decide)
    exact Int.le_trans h.bar.dsmall (pow64_le (by omega))
/-- The motions of the plane along X and Y. -/
def txF : Nat → Int := fun j => if j % 2 = 0 then 1 else 0
def tyF : Nat → Int := fun j => if j % 2 = 0 then 0 else 1
/-- The last two columns have no pivot. -/
theorem run_two {k m : Nat} {A : Nat → Nat → Int} (hA : ∀ i, i < m → dotV (A i) (A i) (2 * k + 2) ≤ 64) (hx : ∀ i, i < m → dotV (A i) txF (2 * k + 2) = 0) (hy : ∀ i, i < m → dotV (A i) tyF (2 * k + 2) = 0) :
    Red.run m A (2 * k + 2) = Red.run m A (2 * k) := by
  have e1 : Red.run m A (2 * k + 1) = Red.run m A (2 * k) := by
    refine Red.take_no (first_none fun i h1 h2 => ?_)
    obtain ⟨r1, r2, r3⟩ := Red.run_all hA (2 * k) (by omega)
    have h3 := r3 txF hx i h2
    have h4 : dotV ((Red.run m A (2 * k)).R i) txF (2 * k) = 0 := dotV_nil _ fun j hj => by rw [r2 i h1 h2 j hj, Int.zero_mul]
    have h5 : dotV ((Red.run m A (2 * k)).R i) txF (2 * k) + (Red.run m A (2 * k)).R i (2 * k) * txF (2 * k) + (Red.run m A (2 * k)).R i (2 * k + 1) * txF (2 * k + 1) = 0 := h3
    have t1 : txF (2 * k) = 1 := if_pos (by omega)
    have t2 : txF (2 * k + 1) = 0 := if_neg (by omega)
    rw [h4, t1, t2, Int.mul_zero, Int.mul_one] at h5
    omega
  have e2 : Red.run m A (2 * k + 2) = Red.run m A (2 * k + 1) := by
    refine Red.take_no (first_none fun i h1 h2 => ?_)
    obtain ⟨r1, r2, r3⟩ := Red.run_all hA (2 * k + 1) (by omega)
    have h3 := r3 tyF hy i h2
    have h4 : dotV ((Red.run m A (2 * k + 1)).R i) tyF (2 * k + 1) = 0 := dotV_nil _ fun j hj => by rw [r2 i h1 h2 j hj, Int.zero_mul]
    have h5 : dotV ((Red.run m A (2 * k + 1)).R i) tyF (2 * k + 1) + (Red.run m A (2 * k + 1)).R i (2 * k + 1) * tyF (2 * k + 1) = 0 := h3
    have t2 : tyF (2 * k + 1) = 1 := if_neg (by omega)
    rw [h4, t2, Int.mul_one] at h5
    omega
  rw [e2, e1]

/-- A row of the rigidity matrix: bar from joint a to joint b, with the offset dx, dy. -/
def rigF (dx dy : Int) (a b : Nat) : Nat → Int := fun j => if j = 2 * a then dx else if j = 2 * a + 1 then dy else if j = 2 * b then -dx else if j = 2 * b + 1 then -dy else 0
theorem rigF_dot (dx dy : Int) (a b : Nat) (hab : a ≠ b) (g : Nat → Int) : ∀ k, dotV (rigF dx dy a b) g (2 * k) = (if a < k then dx * g (2 * a) + dy * g (2 * a + 1) else 0) + (if b < k then -(dx * g (2 * b) + dy * g (2 * b + 1)) else 0) := by
  intro k
  induction k with
  | zero => rfl
  | succ k ih =>
    show dotV (rigF dx dy a b) g (2 * k) + rigF dx dy a b (2 * k) * g (2 * k) + rigF dx dy a b (2 * k + 1) * g (2 * k + 1) = _
    rw [ih]
    unfold rigF
    by_cases e1 : k = a
    · subst e1
      rw [if_pos (show 2 * k = 2 * k from rfl), if_neg (show ¬ 2 * k + 1 = 2 * k by omega), if_pos (show 2 * k + 1 = 2 * k + 1 from rfl), if_neg (Nat.lt_irrefl k), if_pos (Nat.lt_succ_self k)]
      by_cases e3 : b < k
      · rw [if_pos e3, if_pos (by omega)]; omega
      · rw [if_neg e3, if_neg (by omega)]; omega
    · rw [if_neg (show ¬ 2 * k = 2 * a by omega), if_neg (show ¬ 2 * k = 2 * a + 1 by omega), if_neg (show ¬ 2 * k + 1 = 2 * a by omega), if_neg (show ¬ 2 * k + 1 = 2 * a + 1 by omega)]
      have ea : (if a < k + 1 then dx * g (2 * a) + dy * g (2 * a + 1) else 0) = (if a < k then dx * g (2 * a) + dy * g (2 * a + 1) else 0) := by
        by_cases e3 : a < k
        · rw [if_pos e3, if_pos (by omega)]
        · rw [if_neg e3, if_neg (by omega)]
      rw [ea]
      by_cases e2 : k = b
      · subst e2
        rw [if_pos (show 2 * k = 2 * k from rfl), if_neg (show ¬ 2 * k + 1 = 2 * k by omega), if_pos (show 2 * k + 1 = 2 * k + 1 from rfl), if_neg (Nat.lt_irrefl k), if_pos (Nat.lt_succ_self k), Int.neg_mul, Int.neg_mul]; omega
      · rw [if_neg (show ¬ 2 * k = 2 * b by omega), if_neg (show ¬ 2 * k = 2 * b + 1 by omega), if_neg (show ¬ 2 * k + 1 = 2 * b by omega), if_neg (show ¬ 2 * k + 1 = 2 * b + 1 by omega)]
        have eb : (if b < k + 1 then -(dx * g (2 * b) + dy * g (2 * b + 1)) else 0) = (if b < k then -(dx * g (2 * b) + dy * g (2 * b + 1)) else 0) := by
          by_cases e3 : b < k
          · rw [if_pos e3, if_pos (by omega)]
          · rw [if_neg e3, if_neg (by omega)]
        rw [eb]; omega
theorem sq4 {x : Int} (h : -4 ≤ x ∧ x ≤ 4) : x * x ≤ 16 := by
  have : x = -4 ∨ x = -3 ∨ x = -2 ∨ x = -1 ∨ x = 0 ∨ x = 1 ∨ x = 2 ∨ x = 3 ∨ x = 4 := by omega
  rcases this with rfl | rfl | rfl | rfl | rfl | rfl | rfl | rfl | rfl <;> decide
def dxB (m : List (Int × Int)) (x : Int × Int) : Int := (plc m x.1).1 - (plc m x.2).1
def dyB (m : List (Int × Int)) (x : Int × Int) : Int := (plc m x.1).2 - (plc m x.2).2
def rigR (m : List (Int × Int)) (n : Nat) (x : Int × Int) : List Int := rowF n (rigF (dxB m x) (dyB m x) x.1.toNat x.2.toNat)
def rigL (p : Int) (l m : List (Int × Int)) : List (List Int) := l.map (rigR m (2 * p.toNat))
/-- What RigidityMatrix answers. -/
noncomputable def rigV (p : Int) (l m : List (Int × Int)) : List (List Int) := if isFB p l m = true then rigL p l m else []
theorem rigV_yes {p : Int} {l m : List (Int × Int)} (h : isFB p l m = true) : rigV p l m = rigL p l m := if_pos h
theorem rigV_no {p : Int} {l m : List (Int × Int)} (h : isFB p l m = false) : rigV p l m = [] := if_neg (by rw [h]; simp)
theorem rigL_len (p : Int) (l m : List (Int × Int)) : (rigL p l m).length = l.length := List.length_map ..
theorem rigL_get {p : Int} {l m : List (Int × Int)} {i : Nat} (h : i < l.length) : (rigL p l m).getD i [] = rigR m (2 * p.toNat) (l.getD i (0, 0)) := by
  unfold rigL
  rw [List.getD_eq_getElem?_getD, List.getElem?_map, List.getElem?_eq_getElem h, List.getD_eq_getElem?_getD, List.getElem?_eq_getElem h]; rfl
theorem rigL_wid {p : Int} {l m : List (Int × Int)} (h : 0 < l.length) : widM (rigL p l m) = 2 * p.toNat := by
  unfold widM; rw [rigL_get h]; exact rowF_len ..
theorem rigL_at {p : Int} {l m : List (Int × Int)} {i j : Nat} (h : i < l.length) (hj : j < 2 * p.toNat) : atM (rigL p l m) i j = rigF (dxB m (l.getD i (0, 0))) (dyB m (l.getD i (0, 0))) (l.getD i (0, 0)).1.toNat (l.getD i (0, 0)).2.toNat j := by
  unfold atM; rw [rigL_get h]; exact rowF_getD hj
theorem dotV_congr {u u' g g' : Nat → Int} : ∀ n, (∀ j, j < n → u j = u' j ∧ g j = g' j) → dotV u g n = dotV u' g' n := by
  intro n
  induction n with
  | zero => intro _; rfl
  | succ n ih =>
    intro h
    show dotV u g n + u n * g n = dotV u' g' n + u' n * g' n
    rw [ih fun j hj => h j (by omega), (h n (by omega)).1, (h n (by omega)).2]
/-- What a vector does at a bar. -/
theorem rig_dot {p : Int} {l m : List (Int × Int)} (h : IsF p l m) (g : Nat → Int) {i : Nat} (hi : i < l.length) :
    dotV (atM (rigL p l m) i) g (2 * p.toNat) = dxB m (l.getD i (0, 0)) * (g (2 * (l.getD i (0, 0)).1.toNat) - g (2 * (l.getD i (0, 0)).2.toNat)) + dyB m (l.getD i (0, 0)) * (g (2 * (l.getD i (0, 0)).1.toNat + 1) - g (2 * (l.getD i (0, 0)).2.toNat + 1)) := by
  have he := h.ends hi
  rw [dotV_congr (g' := g) _ fun j hj => ⟨rigL_at hi hj, rfl⟩, rigF_dot _ _ _ _ (by omega), if_pos (by omega), if_pos (by omega), Int.mul_sub, Int.mul_sub]
  omega
theorem rig_off {p : Int} {l m : List (Int × Int)} (h : IsF p l m) {i : Nat} (hi : i < l.length) : (-4 ≤ dxB m (l.getD i (0, 0)) ∧ dxB m (l.getD i (0, 0)) ≤ 4) ∧ -4 ≤ dyB m (l.getD i (0, 0)) ∧ dyB m (l.getD i (0, 0)) ≤ 4 := by
  have he := h.ends hi
  have h1 := h.on he.1 (by omega)
  have h2 := h.on (v := (l.getD i (0, 0)).2) (by omega) (by omega)
  unfold OnG at h1 h2
  unfold dxB dyB
  omega
theorem rig_sq {p : Int} {l m : List (Int × Int)} (h : IsF p l m) {i : Nat} (hi : i < l.length) : dotV (atM (rigL p l m) i) (atM (rigL p l m) i) (2 * p.toNat) ≤ 64 := by
  have he := h.ends hi
  rw [rig_dot h _ hi, rigL_at hi (by omega), rigL_at hi (by omega), rigL_at hi (by omega), rigL_at hi (by omega)]
  unfold rigF
  rw [if_pos rfl, if_neg (by omega), if_neg (by omega), if_pos rfl, if_neg (by omega), if_pos rfl, if_neg (by omega), if_neg (by omega), if_neg (by omega), if_pos rfl]
  have ho := rig_off h hi
  have b1 := sq4 ho.1
  have b2 := sq4 ho.2
  grind
/-- The turn of the plane about a joint. -/
def turnF (m : List (Int × Int)) (c : Int × Int) : Nat → Int := fun j => if j % 2 = 0 then -((m.getD (j / 2) (0, 0)).2 - c.2) else (m.getD (j / 2) (0, 0)).1 - c.1
theorem turnF_x (m : List (Int × Int)) (c : Int × Int) (v : Nat) : turnF m c (2 * v) = -((m.getD v (0, 0)).2 - c.2) := by
  unfold turnF; rw [if_pos (by omega), show 2 * v / 2 = v by omega]
theorem turnF_y (m : List (Int × Int)) (c : Int × Int) (v : Nat) : turnF m c (2 * v + 1) = (m.getD v (0, 0)).1 - c.1 := by
  unfold turnF; rw [if_neg (by omega), show (2 * v + 1) / 2 = v by omega]
theorem rig_turn {p : Int} {l m : List (Int × Int)} (h : IsF p l m) (c : Int × Int) {i : Nat} (hi : i < l.length) : dotV (atM (rigL p l m) i) (turnF m c) (2 * p.toNat) = 0 := by
  rw [rig_dot h _ hi, turnF_x, turnF_x, turnF_y, turnF_y]
  unfold dxB dyB plc
  generalize m.getD (l.getD i (0, 0)).1.toNat (0, 0) = a
  generalize m.getD (l.getD i (0, 0)).2.toNat (0, 0) = b
  grind
theorem rig_tx {p : Int} {l m : List (Int × Int)} (h : IsF p l m) {i : Nat} (hi : i < l.length) : dotV (atM (rigL p l m) i) txF (2 * p.toNat) = 0 := by
  rw [rig_dot h _ hi]
  unfold txF
  rw [if_pos (by omega), if_pos (by omega), if_neg (by omega), if_neg (by omega)]; simp
theorem rig_ty {p : Int} {l m : List (Int × Int)} (h : IsF p l m) {i : Nat} (hi : i < l.length) : dotV (atM (rigL p l m) i) tyF (2 * p.toNat) = 0 := by
  rw [rig_dot h _ hi]
  unfold tyF
  rw [if_pos (by omega), if_pos (by omega), if_neg (by omega), if_neg (by omega)]; simp
/-- At most nine rows have pivots. -/
theorem rig_nine {p : Int} {l m : List (Int × Int)} (h : IsF p l m) (h0 : 0 < l.length) : (Red.run l.length (atM (rigL p l m)) (2 * p.toNat)).pv.length ≤ 9 := by
  have he := h.ends h0
  have h6 := h.six
  have hS : ∀ i, i < l.length → dotV (atM (rigL p l m) i) (atM (rigL p l m) i) (2 * p.toNat) ≤ 64 := fun i hi => rig_sq h hi
  have hX : ∀ i, i < l.length → dotV (atM (rigL p l m) i) txF (2 * p.toNat) = 0 := fun i hi => rig_tx h hi
  have hY : ∀ i, i < l.length → dotV (atM (rigL p l m) i) tyF (2 * p.toNat) = 0 := fun i hi => rig_ty h hi
  have hT : ∀ c, ∀ i, i < l.length → dotV (atM (rigL p l m) i) (turnF m c) (2 * p.toNat) = 0 := fun c i hi => rig_turn h c hi
  obtain ⟨k, hk⟩ : ∃ k, 2 * p.toNat = 2 * k + 2 := ⟨p.toNat - 1, by omega⟩
  rw [hk] at hS hX hY hT ⊢
  have e := run_two hS hX hY
  have hl := Red.run_len l.length (atM (rigL p l m)) (2 * k)
  by_cases h9 : (Red.run l.length (atM (rigL p l m)) (2 * k + 2)).pv.length ≤ 9
  · exact h9
  · exfalso
    obtain rfl : k = 5 := by rw [e] at h9; omega
    have hp : p = 6 := by omega
    have hpv : (Red.run l.length (atM (rigL p l m)) (2 * 5 + 2)).pv = List.range 10 := by rw [e] at h9 ⊢; exact hl.2 (by omega)
    obtain ⟨r1, r2, r3⟩ := Red.run_all hS (2 * 5 + 2) (Nat.le_refl _)
    have hz := r3 _ (hT (m.getD 5 (0, 0)))
    generalize Red.run l.length (atM (rigL p l m)) (2 * 5 + 2) = s at *
    have hlen : s.pv.length = 10 := by rw [hpv]; rfl
    have hget : ∀ t (ht : t < s.pv.length), s.pv[t] = t := fun t ht => by simp [hpv]
    have hle := r1.bar.le
    have g0 : ∀ t, t < 10 → turnF m (m.getD 5 (0, 0)) t = 0 := by
      intro t ht
      have h1 := dotV_one (u := s.R t) (g := turnF m (m.getD 5 (0, 0))) (t := t) (z := s.D * turnF m (m.getD 5 (0, 0)) t) (2 * 5 + 2) (fun j hj => by
        by_cases h10 : j < 10
        · by_cases ej : j = t
          · subst ej
            have := r1.own j (by omega)
            rw [hget] at this
            rw [if_pos rfl, this]
          · have := r1.zer j (by omega) t (by omega) (fun x => ej x.symm)
            rw [hget] at this
            rw [if_neg ej, this, Int.zero_mul]
        · have : j = 10 ∨ j = 11 := by omega
          rw [if_neg (by omega)]
          rcases this with rfl | rfl
          · rw [show 10 = 2 * 5 from rfl, turnF_x, Int.sub_self]; simp
          · rw [show 11 = 2 * 5 + 1 from rfl, turnF_y, Int.sub_self]; simp)
      rw [hz t (by omega), if_pos (by omega)] at h1
      exact (Int.mul_eq_zero.1 h1.symm).resolve_left r1.bar.nz
    have same : ∀ v : Nat, v < 6 → m.getD v (0, 0) = m.getD 5 (0, 0) := by
      intro v hv
      by_cases e5 : v = 5
      · rw [e5]
      · have h1 := g0 (2 * v) (by omega)
        have h2 := g0 (2 * v + 1) (by omega)
        rw [turnF_x] at h1
        rw [turnF_y] at h2
        exact Prod.ext (by omega) (by omega)
    apply (h.ok 0 h0).1
    unfold plc
    exact (same _ (by omega)).trans (same _ (by omega)).symm
theorem rig_q {p : Int} {l m : List (Int × Int)} (h : IsF p l m) (h0 : 0 < l.length) : MatQ (rigL p l m) := by
  have he := h.ends h0
  have h6 := h.six
  have hb := h.bars
  have hw := rigL_wid (p := p) (m := m) h0
  refine ⟨by rw [rigL_len]; exact h0, by rw [rigL_len]; omega, by omega, by omega, fun i hi => ?_, fun c hc => ?_⟩
  · rw [rigL_len] at hi
    rw [rigL_get hi, hw]
    refine ⟨rowF_len .., fun j hj => ?_⟩
    unfold rigR
    rw [rowF_getD hj]
    have := rig_off h hi
    unfold rigF
    split
    · omega
    · split
      · omega
      · split
        · omega
        · split <;> omega
  · rw [hw] at hc
    rw [hw, rigL_len]
    exact ⟨(Red.run_all (fun i hi => rig_sq h hi) c hc).1, lim_run (fun i hi => rig_sq h hi) (rig_nine h h0) hc⟩
/-- The columns with a pivot. -/
noncomputable def rigP (p : Int) (l m : List (Int × Int)) : Nat := (Red.run (rigL p l m).length (atM (rigL p l m)) (widM (rigL p l m))).pv.length
/-- What FrameworkRank answers. -/
noncomputable def frkV (p : Int) (l m : List (Int × Int)) : Int := if isFB p l m = true then (rigP p l m : Int) else -1
theorem frkV_yes {p : Int} {l m : List (Int × Int)} (h : isFB p l m = true) : frkV p l m = (rigP p l m : Int) := if_pos h
theorem frkV_no {p : Int} {l m : List (Int × Int)} (h : isFB p l m = false) : frkV p l m = -1 := if_neg (by rw [h]; simp)
theorem rigP_le {p : Int} {l m : List (Int × Int)} (h : IsF p l m) : rigP p l m ≤ 9 := by
  by_cases h0 : 0 < l.length
  · have := rig_nine h h0
    unfold rigP
    rw [rigL_len, rigL_wid h0]; exact this
  · obtain rfl : l = [] := List.length_eq_zero_iff.1 (by omega)
    exact Nat.zero_le _
theorem rigP_nil (p : Int) (m : List (Int × Int)) : rigP p [] m = 0 := rfl
open Classical in
/-- By how many motions the plane moves the joints. -/
noncomputable def triV (m : List (Int × Int)) : Int := if ∃ i, i < m.length ∧ m.getD i (0, 0) ≠ m.getD 0 (0, 0) then 3 else 2
theorem triV_two {m : List (Int × Int)} (h : ∀ i, i < m.length → m.getD i (0, 0) = m.getD 0 (0, 0)) : triV m = 2 := by
  unfold triV
  rw [if_neg]
  rintro ⟨i, h1, h2⟩
  exact h2 (h i h1)
theorem triV_three {m : List (Int × Int)} {i : Nat} (h : i < m.length) (h2 : m.getD i (0, 0) ≠ m.getD 0 (0, 0)) : triV m = 3 := by
  unfold triV
  rw [if_pos ⟨i, h, h2⟩]
theorem triV_or (m : List (Int × Int)) : triV m = 2 ∨ triV m = 3 := by
  unfold triV
  split
  · exact .inr rfl
  · exact .inl rfl
theorem triV_bd (m : List (Int × Int)) : 2 ≤ triV m ∧ triV m ≤ 3 := by
  rcases triV_or m with h | h <;> omega
/-- Whether all joints are at one place. -/
noncomputable def oneB (m : List (Int × Int)) : Bool := triV m == 2
/-- What FrameworkFreedom answers. -/
noncomputable def ffrV (p : Int) (l m : List (Int × Int)) : Int := if isFB p l m = true then 2 * p - triV m - frkV p l m else -1
theorem ffrV_yes {p : Int} {l m : List (Int × Int)} (h : isFB p l m = true) : ffrV p l m = 2 * p - triV m - frkV p l m := if_pos h
theorem ffrV_no {p : Int} {l m : List (Int × Int)} (h : isFB p l m = false) : ffrV p l m = -1 := if_neg (by rw [h]; simp)
noncomputable def stfB (p : Int) (l m : List (Int × Int)) : Bool := ffrV p l m == 0
noncomputable def idfB (p : Int) (l m : List (Int × Int)) : Bool := isFB p l m && (frkV p l m == (l.length : Int))
end Go.Proofs.Ytdkpmaahinbhlaa
/- Rows and columns of a matrix have the same rank, as the reduction counts it: the columns with a pivot are told by the vectors that the rows take to zero. Words on numbers. No condition. -/
namespace Go.Proofs.Ytdkpmaahinbhlaa

/-- f 0 + .. + f (k - 1). -/
def sumT (f : Nat → Int) : Nat → Int
  | 0 => 0
  | t + 1 => sumT f t + f t
theorem sumT_zero {f : Nat → Int} : ∀ k, (∀ t, t < k → f t = 0) → sumT f k = 0 := by
  intro k
  induction k with
  | zero => intro _; rfl
  | succ k ih =>
    intro h
    show sumT f k + f k = 0
    rw [ih fun t ht => h t (by omega), h k (by omega)]; rfl
theorem sumT_congr {f g : Nat → Int} : ∀ k, (∀ t, t < k → f t = g t) → sumT f k = sumT g k := by
  intro k
  induction k with
  | zero => intro _; rfl
  | succ k ih =>
    intro h
    show sumT f k + f k = sumT g k + g k
    rw [ih fun t ht => h t (by omega), h k (by omega)]
theorem sumT_one {f : Nat → Int} {u : Nat} {z : Int} : ∀ k, (∀ t, t < k → f t = if t = u then z else 0) → sumT f k = if u < k then z else 0 := by
  intro k
  induction k with
  | zero => intro _; rfl
  | succ k ih =>
    intro h
    show sumT f k + f k = _
    rw [ih fun t ht => h t (by omega), h k (by omega)]
    by_cases e : k = u
    · subst e; rw [if_neg (by omega), if_pos rfl, if_pos (by omega), Int.zero_add]
    · rw [if_neg e, Int.add_zero]
      by_cases e2 : u < k
      · rw [if_pos e2, if_pos (by omega)]
      · rw [if_neg e2, if_neg (by omega)]
theorem dotV_add (u f e : Nat → Int) : ∀ n, dotV u (fun j => f j + e j) n = dotV u f n + dotV u e n := by
  intro n
  induction n with
  | zero => rfl
  | succ n ih =>
    show dotV u (fun j => f j + e j) n + u n * (f n + e n) = (dotV u f n + u n * f n) + (dotV u e n + u n * e n)
    rw [ih, Int.mul_add]; omega
theorem dotV_addl (u v g : Nat → Int) : ∀ n, dotV (fun j => u j + v j) g n = dotV u g n + dotV v g n := by
  intro n
  induction n with
  | zero => rfl
  | succ n ih =>
    show dotV (fun j => u j + v j) g n + (u n + v n) * g n = (dotV u g n + u n * g n) + (dotV v g n + v n * g n)
    rw [ih, Int.add_mul]; omega
theorem dotV_scale (u g : Nat → Int) (r : Int) : ∀ n, dotV (fun j => u j * r) g n = r * dotV u g n := by
  intro n
  induction n with
  | zero => show (0 : Int) = r * 0; omega
  | succ n ih =>
    show dotV (fun j => u j * r) g n + u n * r * g n = r * (dotV u g n + u n * g n)
    rw [ih]; grind
theorem dotV_sum (F : Nat → Nat → Int) (r : Nat → Int) (g : Nat → Int) (m : Nat) : ∀ k, dotV (fun i => sumT (fun t => F i t * r t) k) g m = sumT (fun t => r t * dotV (fun i => F i t) g m) k := by
  intro k
  induction k with
  | zero => exact dotV_nil m fun j _ => Int.zero_mul _
  | succ k ih =>
    show dotV (fun i => sumT (fun t => F i t * r t) k + F i k * r k) g m = sumT (fun t => r t * dotV (fun i => F i t) g m) k + r k * dotV (fun i => F i k) g m
    rw [dotV_addl, ih, dotV_scale]
/-- What all rows of a reduction take to zero, the rows before the column was taken take to zero. -/
theorem RedS.back {n m c : Nat} {s : Red} (h : RedS n m s c) (hc : c < n) {g : Nat → Int} (hg : ∀ i, i < m → dotV ((s.take m c).R i) g n = 0) : ∀ i, i < m → dotV (s.R i) g n = 0 := by
  by_cases hf : s.first m c < m
  · have hz := h.first_nz hf
    have hRf : dotV (s.R (s.first m c)) g n = 0 := by
      have : (s.take m c).R s.pv.length = s.R (s.first m c) := by
        unfold Red.take; rw [if_pos hf]
        show barStep _ _ _ _ s.pv.length = _
        funext j
        unfold barStep barSwap
        rw [if_pos rfl, if_pos rfl]
      rw [← this]; exact hg _ hz.2.2
    have hsw : ∀ i, i < m → i ≠ s.pv.length → dotV (barSwap s.R s.pv.length (s.first m c) i) g n = 0 := by
      intro i hi hne
      have h1 := dotV_comb g n fun j hj => h.exact hc hf hi hne hj
      rw [hg i hi, hRf, Int.mul_zero, Int.zero_mul, Int.sub_zero] at h1
      exact (Int.mul_eq_zero.1 h1.symm).resolve_right hz.1
    intro i hi
    by_cases e1 : i = s.first m c
    · rw [e1]; exact hRf
    · by_cases e2 : i = s.pv.length
      · have h2 := hsw (s.first m c) hf (fun e => e1 (e2.trans e.symm))
        unfold barSwap at h2
        rw [if_neg (fun e => e1 (e2.trans e.symm)), if_pos rfl] at h2
        rw [e2]; exact h2
      · have h2 := hsw i hi e2
        unfold barSwap at h2
        rw [if_neg e2, if_neg e1] at h2
        exact h2
  · rw [Red.take_no hf] at hg; exact hg
theorem Red.run_back {n m : Nat} {A : Nat → Nat → Int} (hA : ∀ i, i < m → dotV (A i) (A i) n ≤ 64) {g : Nat → Int} : ∀ c, c ≤ n → (∀ i, i < m → dotV ((Red.run m A c).R i) g n = 0) → ∀ i, i < m → dotV (A i) g n = 0 := by
  intro c
  induction c with
  | zero => intro _ h; exact h
  | succ c ih =>
    intro hc h
    exact ih (by omega) ((Red.run_all hA c (by omega)).1.back (by omega) h)
/-- A row with a pivot is zero in the columns before it. -/
def Fro (s : Red) : Prop := ∀ t (h : t < s.pv.length), ∀ j, j < s.pv[t]'h → s.R t j = 0
theorem Fro.take {n m c : Nat} {s : Red} (h : RedS n m s c) (hE : Ech m s c) (hF : Fro s) (hc : c < n) : Fro (s.take m c) := by
  by_cases hf : s.first m c < m
  · have hz := h.first_nz hf
    have hx := fun (i : Nat) (hi : i < m) (hne : i ≠ s.pv.length) (j : Nat) (hj : j < n) => h.exact hc hf hi hne hj
    have hpv := (Red.take_pv hf).1
    intro t ht j hj
    have ht' : t < s.pv.length + 1 := by rw [hpv, List.length_append] at ht; exact ht
    have hget : (s.take m c).pv[t]'ht = (s.pv ++ [c])[t]'(by rw [List.length_append]; exact ht') := by
      simp only [hpv]
    rw [hget] at hj
    by_cases e : t = s.pv.length
    · subst e
      rw [List.getElem_append_right (Nat.le_refl _)] at hj
      simp only [Nat.sub_self, List.getElem_cons_zero] at hj
      have : (s.take m c).R s.pv.length = s.R (s.first m c) := by
        unfold Red.take; rw [if_pos hf]
        show barStep _ _ _ _ s.pv.length = _
        funext j
        unfold barStep barSwap
        rw [if_pos rfl, if_pos rfl]
      rw [this]; exact hE _ hz.2.1 hf j hj
    · have htl : t < s.pv.length := by omega
      rw [List.getElem_append_left htl] at hj
      have hcl := h.asc _ (List.getElem_mem htl)
      have h1 := hx t (by omega) e j (by omega)
      have h2 : barSwap s.R s.pv.length (s.first m c) t j = 0 := by
        unfold barSwap
        rw [if_neg e, if_neg (by omega)]
        exact hF t htl j hj
      rw [h2, hE _ hz.2.1 hf j (by omega), Int.zero_mul, Int.zero_mul, Int.sub_zero] at h1
      exact (Int.mul_eq_zero.1 h1).resolve_left h.bar.nz
  · rw [Red.take_no hf]; exact hF
theorem Red.run_fro {n m : Nat} {A : Nat → Nat → Int} (hA : ∀ i, i < m → dotV (A i) (A i) n ≤ 64) : ∀ c, c ≤ n → Fro (Red.run m A c) := by
  intro c
  induction c with
  | zero => intro _ t h; exact absurd h (Nat.not_lt_zero _)
  | succ c ih =>
    intro hc
    have h := Red.run_all hA c (by omega)
    exact Fro.take h.1 h.2.1 (ih (by omega)) (by omega)
/-- Pivots stand in different columns. -/
theorem RedS.pv_ne {n m c : Nat} {s : Red} (h : RedS n m s c) {t u : Nat} (ht : t < s.pv.length) (hu : u < s.pv.length) (hne : t ≠ u) : s.pv.getD t 0 ≠ s.pv.getD u 0 := by
  rw [List.getD_eq_getElem?_getD, List.getElem?_eq_getElem ht, Option.getD_some, List.getD_eq_getElem?_getD, List.getElem?_eq_getElem hu, Option.getD_some]
  intro e
  have h1 := h.own t ht
  have h2 := h.zer u hu t (Nat.lt_of_lt_of_le ht h.bar.le) hne
  rw [e, h2] at h1
  exact h.bar.nz h1.symm
theorem RedS.at_pv {n m c : Nat} {s : Red} (h : RedS n m s c) {t u : Nat} (ht : t < m) (hu : u < s.pv.length) : s.R t (s.pv.getD u 0) = if t = u then s.D else 0 := by
  rw [List.getD_eq_getElem?_getD, List.getElem?_eq_getElem hu, Option.getD_some]
  by_cases e : t = u
  · subst e; rw [if_pos rfl]; exact h.own t hu
  · rw [if_neg e]; exact h.zer u hu t ht e
theorem nullF_cons (s : Red) (free t j : Nat) : nullF s free (t + 1) j = if j = free then s.D else if s.pv.getD t 0 = j then -s.R t free else nullF s free t j := by
  show (if j = free then _ else _) = _
  rfl
theorem nullF_off {s : Red} {free j : Nat} (hj : j ≠ free) : ∀ t, (∀ u, u < t → s.pv.getD u 0 = j → s.R u free = 0) → nullF s free t j = 0 := by
  intro t
  induction t with
  | zero => intro _; unfold nullF; rw [if_neg hj]
  | succ t ih =>
    intro h
    rw [nullF_cons, if_neg hj]
    split
    · rename_i e
      rw [h t (by omega) e]; rfl
    · exact ih fun u hu => h u (by omega)
theorem RedS.dot_null {n m c : Nat} {s : Red} (h : RedS n m s c) (hc : c ≤ n) {free : Nat} (hf : free < n) (hnf : ∀ t, t < s.pv.length → s.pv.getD t 0 ≠ free) (u : Nat → Int) :
    ∀ t, t ≤ s.pv.length → dotV u (nullF s free t) n = u free * s.D - sumT (fun t => u (s.pv.getD t 0) * s.R t free) t := by
  intro t
  induction t with
  | zero =>
    intro _
    rw [dotV_one (t := free) (z := u free * s.D) n fun j _ => by
      unfold nullF
      by_cases e : j = free
      · rw [if_pos e, if_pos e, e]
      · rw [if_neg e, if_neg e, Int.mul_zero], if_pos hf]
    show _ = _ - 0
    omega
  | succ t ih =>
    intro ht
    have e0 : dotV u (nullF s free (t + 1)) n = dotV u (fun j => nullF s free t j + (if j = s.pv.getD t 0 then -s.R t free else 0)) n := dotV_congr n fun j _ => ⟨rfl, by
      rw [nullF_cons]
      by_cases e1 : j = free
      · rw [if_pos e1, if_neg (fun e => hnf t (by omega) (e.symm.trans e1))]
        have : nullF s free t j = s.D := by subst e1; unfold nullF; rw [if_pos rfl]
        rw [this, Int.add_zero]
      · rw [if_neg e1]
        by_cases e2 : s.pv.getD t 0 = j
        · rw [if_pos e2, if_pos e2.symm, nullF_off e1 t fun v hv e3 => absurd (e3.trans e2.symm) (h.pv_ne (by omega) (by omega) (by omega)), Int.zero_add]
        · rw [if_neg e2, if_neg (fun e => e2 e.symm), Int.add_zero]⟩
    rw [e0, dotV_add, ih (by omega), dotV_one (t := s.pv.getD t 0) (z := u (s.pv.getD t 0) * -s.R t free) n fun j _ => by
      by_cases e : j = s.pv.getD t 0
      · rw [if_pos e, if_pos e, e]
      · rw [if_neg e, if_neg e, Int.mul_zero], if_pos (Nat.lt_of_lt_of_le (h.pv_lt (by omega)).1 hc)]
    show _ = _ - (sumT _ t + u (s.pv.getD t 0) * s.R t free)
    rw [Int.mul_neg]; omega
/-- The vector of a free column: the rows of the reduction take it to zero. -/
theorem RedS.null_kill {n m : Nat} {s : Red} (h : RedS n m s n) (hE : Ech m s n) {free : Nat} (hf : free < n) (hnf : ∀ t, t < s.pv.length → s.pv.getD t 0 ≠ free) : ∀ i, i < m → dotV (s.R i) (nullF s free s.pv.length) n = 0 := by
  intro i hi
  rw [h.dot_null (Nat.le_refl _) hf hnf (s.R i) _ (Nat.le_refl _)]
  by_cases hk : i < s.pv.length
  · rw [sumT_one (u := i) (z := s.R i free * s.D) _ fun t ht => by
      rw [h.at_pv hi ht]
      by_cases e : t = i
      · subst e; rw [if_pos rfl, if_pos rfl, Int.mul_comm]
      · rw [if_neg (fun x => e x.symm), if_neg e, Int.zero_mul], if_pos hk, Int.sub_self]
  · rw [hE i (by omega) hi free hf, Int.zero_mul, sumT_zero _ fun t ht => by
      rw [h.at_pv hi ht, if_neg (by omega), Int.zero_mul], Int.sub_self]
theorem pv_has {s : Red} {c : Nat} : c ∈ s.pv ↔ ∃ t, t < s.pv.length ∧ s.pv.getD t 0 = c := by
  constructor
  · intro h
    obtain ⟨t, ht, e⟩ := List.getElem_of_mem h
    exact ⟨t, ht, by rw [List.getD_eq_getElem?_getD, List.getElem?_eq_getElem ht, Option.getD_some]; exact e⟩
  · rintro ⟨t, ht, e⟩
    rw [List.getD_eq_getElem?_getD, List.getElem?_eq_getElem ht, Option.getD_some] at e
    rw [← e]; exact List.getElem_mem ht
/-- A column has a pivot unless it depends on those before it. -/
theorem pivot_iff {n m : Nat} {A : Nat → Nat → Int} (hA : ∀ i, i < m → dotV (A i) (A i) n ≤ 64) {c : Nat} (hc : c < n) :
    c ∈ (Red.run m A n).pv ↔ ¬ ∃ g : Nat → Int, (∀ i, i < m → dotV (A i) g n = 0) ∧ g c ≠ 0 ∧ ∀ j, c < j → j < n → g j = 0 := by
  obtain ⟨h1, h2, h3⟩ := Red.run_all hA n (Nat.le_refl _)
  have hF := Red.run_fro hA n (Nat.le_refl _)
  have hB := fun g => Red.run_back hA (g := g) n (Nat.le_refl _)
  generalize Red.run m A n = s at *
  constructor
  · rintro hm ⟨g, k1, k2, k3⟩
    obtain ⟨t, ht, e⟩ := List.getElem_of_mem hm
    have hk := h3 g k1 t (Nat.lt_of_lt_of_le ht h1.bar.le)
    rw [dotV_one (t := c) (z := s.D * g c) n fun j hj => by
      by_cases ej : j = c
      · subst ej
        have := h1.own t ht
        rw [e] at this
        rw [if_pos rfl, this]
      · rw [if_neg ej]
        by_cases hjc : j < c
        · rw [hF t ht j (by rw [e]; exact hjc), Int.zero_mul]
        · rw [k3 j (by omega) hj, Int.mul_zero], if_pos hc] at hk
    rcases Int.mul_eq_zero.1 hk with x | x
    · exact h1.bar.nz x
    · exact k2 x
  · intro hn
    apply Classical.byContradiction
    intro hm
    have hnf : ∀ t, t < s.pv.length → s.pv.getD t 0 ≠ c := fun t ht e => hm (pv_has.2 ⟨t, ht, e⟩)
    refine hn ⟨nullF s c s.pv.length, hB _ (h1.null_kill h2 hc hnf), ?_, fun j hj hjn => nullF_off (by omega) _ fun u hu e => ?_⟩
    · have : nullF s c s.pv.length c = s.D := by unfold nullF; rw [if_pos rfl]
      rw [this]; exact h1.bar.nz
    · have e' : s.pv[u] = j := by
        rw [List.getD_eq_getElem?_getD, List.getElem?_eq_getElem hu, Option.getD_some] at e; exact e
      exact hF u hu c (by rw [e']; exact hj)
theorem take_has {m c : Nat} {s : Red} (hlt : ∀ x ∈ s.pv, x < c) : c ∈ (s.take m c).pv ↔ (s.take m c).pv.length = s.pv.length + 1 := by
  by_cases hf : s.first m c < m
  · rw [(Red.take_pv hf).1]; simp
  · rw [Red.take_no hf]
    constructor
    · intro h; exact absurd (hlt c h) (Nat.lt_irrefl _)
    · intro h; omega
theorem Red.run_asc (m : Nat) (A : Nat → Nat → Int) : ∀ c, ∀ x ∈ (Red.run m A c).pv, x < c := by
  intro c
  induction c with
  | zero => intro x hx; cases hx
  | succ c ih =>
    intro x hx
    have hx' : x ∈ ((Red.run m A c).take m c).pv := hx
    by_cases hf : (Red.run m A c).first m c < m
    · rw [(Red.take_pv hf).1] at hx'
      rcases List.mem_append.1 hx' with h | h
      · have := ih x h; omega
      · rw [List.mem_singleton.1 h]; omega
    · rw [Red.take_no hf] at hx'
      have := ih x hx'; omega
theorem run_has (m : Nat) (A : Nat → Nat → Int) (c : Nat) : ∀ d, c ∈ (Red.run m A (c + 1 + d)).pv ↔ c ∈ (Red.run m A (c + 1)).pv := by
  intro d
  induction d with
  | zero => exact Iff.rfl
  | succ d ih =>
    rw [← ih]
    show c ∈ ((Red.run m A (c + 1 + d)).take m (c + 1 + d)).pv ↔ _
    by_cases hf : (Red.run m A (c + 1 + d)).first m (c + 1 + d) < m
    · rw [(Red.take_pv hf).1, List.mem_append, List.mem_singleton]
      constructor
      · rintro (h | h)
        · exact h
        · omega
      · exact .inl
    · rw [Red.take_no hf]
/-- Rows that take the same vectors to zero have pivots in the same columns. -/
theorem same_rank {n a b : Nat} {X Y : Nat → Nat → Int} (hX : ∀ i, i < a → dotV (X i) (X i) n ≤ 64) (hY : ∀ i, i < b → dotV (Y i) (Y i) n ≤ 64)
    (h : ∀ g : Nat → Int, (∀ i, i < a → dotV (X i) g n = 0) ↔ ∀ i, i < b → dotV (Y i) g n = 0) : (Red.run a X n).pv.length = (Red.run b Y n).pv.length := by
  have key : ∀ c, c ≤ n → (Red.run a X c).pv.length = (Red.run b Y c).pv.length := by
    intro c
    induction c with
    | zero => intro _; rfl
    | succ c ih =>
      intro hc
      have i1 := ih (by omega)
      have p : c ∈ (Red.run a X n).pv ↔ c ∈ (Red.run b Y n).pv := by
        rw [pivot_iff hX (by omega), pivot_iff hY (by omega)]
        constructor
        · rintro k ⟨g, g1, g2⟩; exact k ⟨g, (h g).2 g1, g2⟩
        · rintro k ⟨g, g1, g2⟩; exact k ⟨g, (h g).1 g1, g2⟩
      obtain ⟨d, rfl⟩ : ∃ d, n = c + 1 + d := ⟨n - (c + 1), by omega⟩
      rw [run_has, run_has] at p
      have t1 := take_has (m := a) (Red.run_asc a X c)
      have t2 := take_has (m := b) (Red.run_asc b Y c)
      have l1 := Red.take_le a (Red.run a X c) c
      have l2 := Red.take_le b (Red.run b Y c) c
      have p' : c ∈ ((Red.run a X c).take a c).pv ↔ c ∈ ((Red.run b Y c).take b c).pv := p
      rw [t1, t2] at p'
      show ((Red.run a X c).take a c).pv.length = ((Red.run b Y c).take b c).pv.length
      omega
  exact key n (Nat.le_refl _)
/-- Each number of a row out of the row's numbers at the pivots. -/
theorem row_of {n m : Nat} {A : Nat → Nat → Int} (hA : ∀ i, i < m → dotV (A i) (A i) n ≤ 64) {i j : Nat} (hi : i < m) (hj : j < n) :
    (Red.run m A n).D * A i j = sumT (fun t => A i ((Red.run m A n).pv.getD t 0) * (Red.run m A n).R t j) (Red.run m A n).pv.length := by
  obtain ⟨h1, h2, h3⟩ := Red.run_all hA n (Nat.le_refl _)
  have hB := fun g => Red.run_back hA (g := g) n (Nat.le_refl _)
  generalize Red.run m A n = s at *
  by_cases hm : j ∈ s.pv
  · obtain ⟨u, hu, e⟩ := pv_has.1 hm
    rw [sumT_one (u := u) (z := s.D * A i j) _ fun t ht => by
      rw [← e, h1.at_pv (Nat.lt_of_lt_of_le ht h1.bar.le) hu]
      by_cases e2 : t = u
      · subst e2; rw [if_pos rfl, if_pos rfl, Int.mul_comm]
      · rw [if_neg e2, if_neg e2, Int.mul_zero], if_pos hu]
  · have hnf : ∀ t, t < s.pv.length → s.pv.getD t 0 ≠ j := fun t ht e => hm (pv_has.2 ⟨t, ht, e⟩)
    have hk := hB _ (h1.null_kill h2 hj hnf) i hi
    rw [h1.dot_null (Nat.le_refl _) hj hnf (A i) _ (Nat.le_refl _)] at hk
    rw [Int.mul_comm]; omega
theorem rank_le {n m : Nat} {A : Nat → Nat → Int} (hA : ∀ i, i < m → dotV (A i) (A i) n ≤ 64) (hT : ∀ j, j < n → dotV (fun i => A i j) (fun i => A i j) m ≤ 64) :
    (Red.run n (fun j i => A i j) m).pv.length ≤ (Red.run m A n).pv.length := by
  have h1 := (Red.run_all hA n (Nat.le_refl _)).1
  have hr := fun i (hi : i < m) j (hj : j < n) => row_of hA hi hj
  generalize Red.run m A n = s at *
  have hV : ∀ t, t < s.pv.length → dotV (fun i => A i (s.pv.getD t 0)) (fun i => A i (s.pv.getD t 0)) m ≤ 64 := fun t ht => hT _ (h1.pv_lt ht).1
  have e := same_rank (n := m) (a := n) (b := s.pv.length) (X := fun j i => A i j) (Y := fun t i => A i (s.pv.getD t 0)) hT hV (fun g => by
    constructor
    · intro k t ht; exact k _ (h1.pv_lt ht).1
    · intro k j hj
      have e1 : s.D * dotV (fun i => A i j) g m = dotV (fun i => sumT (fun t => A i (s.pv.getD t 0) * s.R t j) s.pv.length) g m := by
        rw [← dotV_scale]
        exact dotV_congr m fun i hi => ⟨by rw [← hr i hi j hj, Int.mul_comm], rfl⟩
      rw [dotV_sum, sumT_zero _ fun t ht => by rw [k t ht, Int.mul_zero]] at e1
      exact (Int.mul_eq_zero.1 e1).resolve_left h1.bar.nz)
  rw [e]
  exact (Red.run_all hV m (Nat.le_refl _)).1.bar.le
/-- Rows and columns have the same rank. -/
theorem rank_tr {n m : Nat} {A : Nat → Nat → Int} (hA : ∀ i, i < m → dotV (A i) (A i) n ≤ 64) (hT : ∀ j, j < n → dotV (fun i => A i j) (fun i => A i j) m ≤ 64) :
    (Red.run n (fun j i => A i j) m).pv.length = (Red.run m A n).pv.length :=
  Nat.le_antisymm (rank_le hA hT) (rank_le (A := fun j i => A i j) hT hA)
end Go.Proofs.Ytdkpmaahinbhlaa
/- The numbers of spec.l9Without stay small. Words on numbers. No condition. -/
namespace Go.Proofs.Ytdkpmaahinbhlaa

/-- A row of n numbers of at most 2 to the power of 27. -/
def Sm (P : List Int) (n : Nat) : Prop := P.length = n ∧ ∀ j, j < n → -134217728 ≤ P.getD j 0 ∧ P.getD j 0 ≤ 134217728
theorem mul_bd {x y b c : Int} (h1 : -b ≤ x ∧ x ≤ b) (h2 : -c ≤ y ∧ y ≤ c) : -(b * c) ≤ x * y ∧ x * y ≤ b * c := by
  have hx : (x.natAbs : Int) ≤ b := by omega
  have hy : (y.natAbs : Int) ≤ c := by omega
  have hp : (x.natAbs : Int) * (y.natAbs : Int) ≤ b * c := Int.mul_le_mul hx hy (by omega) (by omega)
  rw [← Int.natCast_mul, ← Int.natAbs_mul] at hp
  omega
theorem tdiv_bd {x d : Int} : -(x.natAbs : Int) ≤ Int.tdiv x d ∧ Int.tdiv x d ≤ x.natAbs := by
  have h1 := Int.natAbs_tdiv x d
  have h2 : x.natAbs.div d.natAbs ≤ x.natAbs := Nat.div_le_self x.natAbs d.natAbs
  rw [← h1] at h2
  clear h1
  generalize Int.tdiv x d = q at *
  omega
theorem tdiv_sm {x d : Int} (h : -134217728 ≤ x ∧ x ≤ 134217728) : -134217728 ≤ Int.tdiv x d ∧ Int.tdiv x d ≤ 134217728 := by
  have := tdiv_bd (x := x) (d := d)
  generalize Int.tdiv x d = q at *
  omega
theorem wOut_len (P Q : List Int) (c n : Nat) : (wOut P Q c n).length = n := rowF_len ..
theorem wOut_cell {P Q : List Int} {c n : Nat} (hP : Sm P n) (hQ : Sm Q n) (hc : c < n) {j : Nat} (hj : j < n) :
    (-18014398509481984 ≤ P.getD j 0 * Int.tdiv (Q.getD c 0) (Int.gcd (P.getD c 0) (Q.getD c 0)) ∧ P.getD j 0 * Int.tdiv (Q.getD c 0) (Int.gcd (P.getD c 0) (Q.getD c 0)) ≤ 18014398509481984) ∧
    (-18014398509481984 ≤ Q.getD j 0 * Int.tdiv (P.getD c 0) (Int.gcd (P.getD c 0) (Q.getD c 0)) ∧ Q.getD j 0 * Int.tdiv (P.getD c 0) (Int.gcd (P.getD c 0) (Q.getD c 0)) ≤ 18014398509481984) :=
  ⟨mul_bd (hP.2 j hj) (tdiv_sm (hQ.2 c hc)), mul_bd (hQ.2 j hj) (tdiv_sm (hP.2 c hc))⟩
theorem wOut_ok {P Q : List Int} {c n : Nat} (hP : Sm P n) (hQ : Sm Q n) (hc : c < n) : pV (wOut P Q c n) = primV (wOut P Q c n) := by
  apply pV_ok
  intro j hj
  rw [wOut_len] at hj
  unfold wOut
  rw [rowF_getD hj]
  have := wOut_cell hP hQ hc hj
  unfold OkG
  omega
theorem pV_sm {P : List Int} {n : Nat} (h : Sm P n) : pV P = primV P := by
  apply pV_ok
  intro j hj
  have := h.2 j (by rw [← h.1]; exact hj)
  unfold OkG
  omega
theorem RedS.psm {n m c : Nat} {s : Red} (h : RedS n m s c) (hm : LimS n m s) {i : Nat} (hi : i < m) : Sm (primV (rowF n (s.R i))) n :=
  ⟨by rw [primV_len, rowF_len], fun _ hj => pcell_lim h hm hi hj⟩
end Go.Proofs.Ytdkpmaahinbhlaa
/- What spec.l9Without and l9Clean answer. No condition. -/
namespace Go.Proofs.Ytdkpmaahinbhlaa
open Go.RowKit

theorem clean_c (v : List Int) (A : Option Addr) (cap lo hi : Nat) (w : World) (hl : IntsIn w lo hi A v) (hn : v.length ≤ 1048576) :
    Calls Try.prog 201 #[.slice A v.length cap] w fun e w' => ∃ A' c', e = .returned (.slice A' (pV v).length c') ∧ OwnInts w' w.heap.size w'.heap.size A' c' (pV v) ∧ Below w.heap.size w w' := by
  have HP := Lib.hid (specPv v A cap lo hi w hl hn)
  clear hl
  go_enter Try.func201, Try.ntmps201
  go_wp2_with fail
  refine HP.out.mono ?_
  rintro e w1 ⟨A2, c2, rfl, ho, hb⟩
  have HO := Lib.hid ho
  have HB := Lib.hid hb
  clear ho hb
  go_wp2_with fail
  go_ret
  exact ⟨A2, c2, rfl, HO.out, HB.out⟩

set_option maxHeartbeats 4000000 in
set_option maxRecDepth 100000 in
theorem wout_c (P Q : List Int) (c n : Nat) (A1 A2 : Option Addr) (c1 c2 l1 h1 l2 h2 : Nat) (w : World) (hl1 : IntsIn w l1 h1 A1 P) (hl2 : IntsIn w l2 h2 A2 Q) (hP : Sm P n) (hQ : Sm Q n) (hc : c < n) (hn : n ≤ 12) (hz : Q.getD c 0 ≠ 0) :
    Calls Try.prog 202 #[.slice A1 n c1, .slice A2 n c2, .int .i64 c] w fun e w' => ∃ A' c', e = .returned (.slice A' n c') ∧ OwnInts w' w.heap.size w'.heap.size A' c' (primV (wOut P Q c n)) ∧ Below w.heap.size w w' := by
  have hP1 := hP.1
  have hQ1 := hQ.1
  obtain ⟨b1, o1, rfl, _, q1, hc1⟩ := hl1.2 (by omega)
  obtain ⟨b2, o2, rfl, _, q2, hc2⟩ := hl2.2 (by omega)
  have hb1 : b1 < w.heap.size := Nat.lt_of_lt_of_le q1 hl1.1
  have hb2 : b2 < w.heap.size := Nat.lt_of_lt_of_le q2 hl2.1
  have d1 := hc1 c (by omega)
  have d2 := hc2 c (by omega)
  have HC1 := Lib.hid hc1
  have HC2 := Lib.hid hc2
  have HPV := Lib.hid (show pV (wOut P Q c n) = primV (wOut P Q c n) from wOut_ok hP hQ hc)
  have HW := Lib.hid (show wOut P Q c n = rowF n fun j => P.getD j 0 * Int.tdiv (Q.getD c 0) (Int.gcd (P.getD c 0) (Q.getD c 0)) - Q.getD j 0 * Int.tdiv (P.getD c 0) (Int.gcd (P.getD c 0) (Q.getD c 0)) from rfl)
  have HBD := Lib.hid (fun (j : Nat) (hj : j < n) => wOut_cell hP hQ hc hj)
  have hpc := hP.2 c hc
  have hqc := hQ.2 c hc
  have HPL := Lib.hid hP1
  have HQL := Lib.hid hQ1
  clear hc1 hc2 hl1 hl2 q1 q2
  obtain ⟨r, hr⟩ : ∃ r, wOut P Q c n = r := ⟨_, rfl⟩
  have HRL := Lib.hid (show r.length = n by rw [← hr]; exact wOut_len ..)
  rw [hr] at HPV HW ⊢
  clear hr
  obtain ⟨x, hx⟩ : ∃ x, P.getD c 0 = x := ⟨_, rfl⟩
  obtain ⟨y, hy⟩ : ∃ y, Q.getD c 0 = y := ⟨_, rfl⟩
  rw [hx] at d1 hpc HW HBD
  rw [hy] at d2 hqc HW HBD hz
  clear hx hy hP hQ hP1 hQ1
  have hg0 : Int.gcd x y ≠ 0 := fun h => hz (Int.gcd_eq_zero_iff.1 h).2
  have hgv : gcdV x y = (Int.gcd x y : Int) := if_pos ⟨by unfold OkG; omega, by unfold OkG; omega⟩
  have HGC := Lib.hid (fun W : World => specGcd x y W)
  rw [hgv] at HGC
  obtain ⟨g, hg⟩ : ∃ g : Int, (Int.gcd x y : Int) = g := ⟨_, rfl⟩
  have hgz : ¬ g = 0 := by omega
  have hgz' : (g != 0) = true := by simpa using hgz
  rw [hg] at HGC HW HBD
  have k1 := tdiv_sm (d := g) hqc
  have k2 := tdiv_sm (d := g) hpc
  obtain ⟨u, hu⟩ : ∃ u, Int.tdiv y g = u := ⟨_, rfl⟩
  obtain ⟨v, hv⟩ : ∃ v, Int.tdiv x g = v := ⟨_, rfl⟩
  rw [hu] at k1 HW HBD
  rw [hv] at k2 HW HBD
  have e1 : IntKind.i64.wrap (Int.tdiv y g) = u := by rw [hu]; exact IntWalk.i64_in _ (by omega)
  have e2 : IntKind.i64.wrap (Int.tdiv x g) = v := by rw [hv]; exact IntWalk.i64_in _ (by omega)
  clear hg hgv hg0 hu hv hz
  have hci : (c : Int) < (n : Int) := by omega
  go_enter Try.func202, Try.ntmps202
  go_wp2_with fail
  go_still_tail 8, (by kernel_rfl)
  change wpList _ _ _ _ _ w.drew
  have d1' : w.drew.cell? ⟨b1, o1 + c, none⟩ = some (.int .i64 x) := d1
  have d2' : w.drew.cell? ⟨b2, o2 + c, none⟩ = some (.int .i64 y) := d2
  have HBD0 := Lib.hid (show Below w.heap.size w w.drew from (Below.refl _ _).drew)
  have HSS := Lib.hid (show w.drew.heap.size = w.heap.size from rfl)
  generalize w.drew = wd at *
  go_wp2_with fail
  refine (HGC.out _).mono ?_
  rintro e w1 ⟨rfl, rfl⟩
  have hal := new_below wd (.cells #[] 3)
  have HAL := Lib.hid hal
  have HB1 := Lib.hid (HBD0.out.trans (hal.mono (by rw [HSS.out]; exact Nat.le_refl _)))
  have HOE := Lib.hid (ownR_empty wd)
  have HSZ := Lib.hid (show (wd.alloc (.cells #[] 3)).heap.size = wd.heap.size + 1 by simp)
  have HG0 := Lib.hid (show GrowP wd.heap.size (wd.heap.size + 1) (wd.alloc (.cells #[] 3)) (wd.alloc (.cells #[] 3)) (rowF 0 fun j => P.getD j 0 * u - Q.getD j 0 * v) (some ⟨wd.heap.size, 0, none⟩) 0 wd.heap.size (wd.heap.size + 1) from ⟨HOE.out, .inl ⟨rfl, rfl⟩, (by have := HSZ.out; omega), Within.refl _ _ _⟩)
  clear hal
  go_wp2_with fail
  clear d1 d2 d1' d2'
  generalize wd.alloc (.cells #[] 3) = wA at *
  go_loopw [10, 11] (fun o i w' => ∃ (k lo3 hi3 : Nat) (Ar : Option Addr) (cr : Nat), k ≤ n ∧ i = .int .i64 k ∧ o = .slice Ar (rowF k fun j => P.getD j 0 * u - Q.getD j 0 * v).length cr ∧ OwnR w' lo3 hi3 Ar cr (rowF k fun j => P.getD j 0 * u - Q.getD j 0 * v) ∧ (w.heap.size ≤ lo3 ∧ lo3 ≤ w'.heap.size) ∧ Below w.heap.size w w') (fun _ i _ => n - (intOf i).toNat)
  case atStart => exact ⟨0, _, _, _, _, by omega, rfl, rfl, HG0.out.row, ⟨by rw [HSS.out]; exact Nat.le_refl _, (by have := HSZ.out; have := HSS.out; omega)⟩, HB1.out⟩
  case round =>
    obtain ⟨k, lo3, hi3, Ar, cr, hk, rfl, rfl, ho, hlo3, hb⟩ := hrel
    have HO := Lib.hid ho
    have HB := Lib.hid hb
    clear ho hb
    have HSTEP := Lib.hid (rowF_succ k fun j => P.getD j 0 * u - Q.getD j 0 * v)
    have hlk : (rowF k fun j => P.getD j 0 * u - Q.getD j 0 * v).length ≤ 1048576 := by rw [rowF_len]; omega
    have HEQ := Lib.hid (fun h : k = n => (show (rowF k fun j => P.getD j 0 * u - Q.getD j 0 * v) = r by rw [HW.out, h]))
    obtain ⟨ys, hys⟩ : ∃ ys, (rowF k fun j => P.getD j 0 * u - Q.getD j 0 * v) = ys := ⟨_, rfl⟩
    rw [hys] at HO hlk HSTEP HEQ ⊢
    clear hys
    by_cases hlt : k < n
    · have hki : (k : Int) < (n : Int) := by omega
      have d1 := (HB.out.cell (p := ⟨b1, o1 + k, none⟩) hb1).trans (HC1.out k (by have := HPL.out; omega))
      have d2 := (HB.out.cell (p := ⟨b2, o2 + k, none⟩) hb2).trans (HC2.out k (by have := HQL.out; omega))
      have hbd := HBD.out k hlt
      obtain ⟨p, hp⟩ : ∃ p, P.getD k 0 = p := ⟨_, rfl⟩
      obtain ⟨q, hq⟩ : ∃ q, Q.getD k 0 = q := ⟨_, rfl⟩
      rw [hp] at d1 hbd HSTEP
      rw [hq] at d2 hbd HSTEP
      obtain ⟨pu, hpu⟩ : ∃ pu, p * u = pu := ⟨_, rfl⟩
      obtain ⟨qv, hqv⟩ : ∃ qv, q * v = qv := ⟨_, rfl⟩
      rw [hpu, hqv] at hbd HSTEP
      have f1 : IntKind.i64.wrap (p * u) = pu := by rw [hpu]; exact IntWalk.i64_in _ (by omega)
      have f2 : IntKind.i64.wrap (q * v) = qv := by rw [hqv]; exact IntWalk.i64_in _ (by omega)
      have hbd2 : -18014398509481984 ≤ pu ∧ pu ≤ 18014398509481984 := hbd.1
      have hbd3 : -18014398509481984 ≤ qv ∧ qv ≤ 18014398509481984 := hbd.2
      obtain ⟨z, hz⟩ : ∃ z, pu - qv = z := ⟨_, rfl⟩
      have f3 : IntKind.i64.wrap (pu - qv) = z := by rw [hz]; exact IntWalk.i64_in _ (by omega)
      rw [hz] at HSTEP
      clear hz
      have HBD2 := Lib.hid HB.out.drew
      have HOD := Lib.hid (show OwnR wr.drew lo3 hi3 Ar cr ys from HO.out)
      clear hp hq hpu hqv hbd
      go_wp2_with fail
      go_region_law (refine step_pushZ wr.drew (by rfl) _ _ (by rfl) lo3 hi3 Ar cr ys z (by rfl) HOD.out _ (by rfl) (by omega) hlo3.2 ?_; intro A6 c6 w16 lo6 hi6 hr6 hor6 hw6; have HR6 := Lib.hid hr6; have HOR := Lib.hid hor6; have HW6 := Lib.hid hw6; clear hr6 hor6 hw6)
      all_goals
        go_wp2_with fail
        go_roundw
        case rel => exact ⟨k + 1, lo6, hi6, A6, c6, by omega, by go_num, by rw [HSTEP.out, List.length_append]; rfl, by rw [HSTEP.out]; exact HR6.out, (by have := HOR.out; have := HW6.out.size; have : wr.drew.heap.size = wr.heap.size := rfl; omega), within_on HBD2.out HW6.out HBD2.out.size (.inl hlo3.1)⟩
        case measure => simp [intOf]; omega
    · obtain rfl : k = n := by omega
      have HE := Lib.hid (HEQ.out rfl)
      have hyl : ys.length = k := by rw [HE.out, HRL.out]
      have HCL := Lib.hid (clean_c ys Ar cr lo3 hi3 wr HO.out.ints.reads hlk)
      have HYL := Lib.hid hyl
      clear hyl
      go_wp2_with fail
      refine HCL.out.mono ?_
      rintro e w5 ⟨A5, c5, rfl, ho5, hb5⟩
      have HO5 := Lib.hid ho5
      have HB5 := Lib.hid (below_on HB.out hb5 HB.out.size)
      have hs5 := HB.out.size
      have hs6 := hb5.size
      clear ho5 hb5
      go_wp2_with fail
      go_ret
      refine ⟨A5, c5, by rw [pV_len, HYL.out]; rfl, ?_, HB5.out⟩
      have := HO5.out
      rw [HE.out, HPV.out] at this
      exact this.widen hs5 (Nat.le_refl _) (Nat.le_refl _)
end Go.Proofs.Ytdkpmaahinbhlaa
/- The specification's test of a matrix (spec.IsMatrix, l9Small). No condition. -/
namespace Go.Proofs.Ytdkpmaahinbhlaa
open Go.RowKit

theorem rows_fn {W : World} {lo hi : Nat} {A : Option Addr} {rs : List (List Int)} (h : RowsIn W lo hi A rs) (h0 : 0 < rs.length) : ∃ (b off : Nat) (S : Nat → Option Addr × Nat), A = some ⟨b, off, none⟩ ∧ b < W.heap.size ∧
    ∀ i, i < rs.length → W.cell? ⟨b, off + i, none⟩ = some (.slice (S i).1 (rs.getD i []).length (S i).2) ∧ IntsIn W lo hi (S i).1 (rs.getD i []) := by
  obtain ⟨b, off, e, h1, h2, hc⟩ := h.2 h0
  have key : ∀ i, ∃ s : Option Addr × Nat, i < rs.length → W.cell? ⟨b, off + i, none⟩ = some (.slice s.1 (rs.getD i []).length s.2) ∧ IntsIn W lo hi s.1 (rs.getD i []) := fun i => by
    by_cases hi : i < rs.length
    · obtain ⟨A', c', q⟩ := hc i hi
      exact ⟨(A', c'), fun _ => q⟩
    · exact ⟨(none, 0), fun hh => absurd hh hi⟩
  obtain ⟨S, hS⟩ := Classical.axiomOfChoice key
  exact ⟨b, off, S, e, Nat.lt_of_lt_of_le h2 h.1, hS⟩
/-- A row's cell, and one of its numbers, behind a call. -/
theorem rows_cell {W W' : World} {lo hi b off : Nat} {S : Nat → Option Addr × Nat} {rs : List (List Int)} (hb : b < W.heap.size)
    (hc : ∀ i, i < rs.length → W.cell? ⟨b, off + i, none⟩ = some (.slice (S i).1 (rs.getD i []).length (S i).2) ∧ IntsIn W lo hi (S i).1 (rs.getD i [])) (hB : Below W.heap.size W W') {i : Nat} (hi : i < rs.length) :
    W'.cell? ⟨b, off + i, none⟩ = some (.slice (S i).1 (rs.getD i []).length (S i).2) := (hB.cell (p := ⟨b, off + i, none⟩) hb).trans (hc i hi).1
theorem rows_num {W W' : World} {lo hi b off : Nat} {S : Nat → Option Addr × Nat} {rs : List (List Int)}
    (hc : ∀ i, i < rs.length → W.cell? ⟨b, off + i, none⟩ = some (.slice (S i).1 (rs.getD i []).length (S i).2) ∧ IntsIn W lo hi (S i).1 (rs.getD i [])) (hB : Below W.heap.size W W') {i j : Nat} (hi : i < rs.length) (hj : j < (rs.getD i []).length) :
    ∃ bi oi, (S i).1 = some ⟨bi, oi, none⟩ ∧ W'.cell? ⟨bi, oi + j, none⟩ = some (.int .i64 (atM rs i j)) := by
  have hI := (hc i hi).2
  obtain ⟨bi, oi, e, h1, h2, hq⟩ := hI.2 (by omega)
  exact ⟨bi, oi, e, (hB.cell (p := ⟨bi, oi + j, none⟩) (Nat.lt_of_lt_of_le h2 hI.1)).trans (hq j hj)⟩

noncomputable def sqOkB (m : List (List Int)) : Bool := decide (∀ i, i < m.length → sqsP (m.getD i []) (widM m) ≤ 64)
set_option maxHeartbeats 2000000 in
set_option maxRecDepth 100000 in
theorem specSmall (m : List (List Int)) (A : Option Addr) (cap lo hi : Nat) (w : World) (hl : RowsIn w lo hi A m) (h0 : 0 < m.length) (h9 : m.length ≤ 9) (h12 : widM m ≤ 12) (hr : RowsP1 m m.length) :
    Calls Try.prog 155 #[.slice A m.length cap] w fun e w' => e = .returned (.bool (sqOkB m)) ∧ Below w.heap.size w w' := by
  obtain ⟨b, off, S, rfl, hbw, hc⟩ := rows_fn hl h0
  have HC := Lib.hid hc
  have HR := Lib.hid hr
  clear hc hl hr
  go_enter Try.func155, Try.ntmps155
  go_wp2_with fail
  go_loopw [3, 4, 5] (fun i _ _ wr => ∃ k : Nat, k ≤ m.length ∧ i = .int .i64 k ∧ (∀ t, t < k → sqsP (m.getD t []) (widM m) ≤ 64) ∧ Below w.heap.size w wr) (fun i _ _ _ => m.length - (intOf i).toNat)
  case atStart => exact ⟨0, by omega, rfl, fun t ht => absurd ht (Nat.not_lt_zero t), Below.refl _ _⟩
  case round =>
    obtain ⟨k, hk, rfl, hs, hb⟩ := hrel
    have HS := Lib.hid hs
    have HB := Lib.hid hb
    clear hs hb
    by_cases hlt : k < m.length
    · have hki : (k : Int) < (m.length : Int) := by omega
      have hw := (HR.out k hlt).1
      have HRG := Lib.hid (HR.out k hlt).2
      obtain ⟨row, hrow⟩ : ∃ row, m.getD k [] = row := ⟨_, rfl⟩
      obtain ⟨⟨A', c'⟩, hSk⟩ : ∃ s, S k = s := ⟨_, rfl⟩
      rw [hrow] at hw HRG
      have hlen12 : row.length ≤ 12 := by omega
      have HW := Lib.hid hw
      have HROW := Lib.hid hrow
      have HSK := Lib.hid hSk
      clear hw hrow hSk
      obtain ⟨wq, hwq⟩ : ∃ x, x = wr := ⟨_, rfl⟩
      rw [← hwq] at HB ⊢
      clear hwq
      go_wp2_with fail
      go_loopw [4, 5] (fun n j wr2 => ∃ t : Nat, t ≤ row.length ∧ j = .int .i64 t ∧ n = .int .i64 (sqsP row t) ∧ Below w.heap.size w wr2) (fun _ j _ => row.length - (intOf j).toNat)
      case atStart => exact ⟨0, by omega, rfl, rfl, HB.out⟩
      case round =>
        obtain ⟨t, ht, rfl, rfl, hb2⟩ := hrel
        have HB2 := Lib.hid hb2
        clear hb2
        have c1 := rows_cell hbw HC.out HB2.out hlt
        rw [HROW.out, HSK.out] at c1
        dsimp only at c1
        by_cases htl : t < row.length
        · have hti : (t : Int) < (row.length : Int) := by omega
          obtain ⟨bi, oi, e1, c2⟩ := rows_num HC.out HB2.out hlt (show t < (m.getD k []).length by rw [HROW.out]; exact htl)
          rw [HSK.out] at e1
          dsimp only at e1
          subst e1
          have hrg := HRG.out t (by rw [← HW.out]; exact htl)
          have hv : atM m k t = row.getD t 0 := by unfold atM; rw [HROW.out]
          rw [hv] at c2
          have hsq := sq_bd hrg
          have hp := sqsP_pos row t
          have hq := sqsP_bd HRG.out t (by rw [← HW.out]; exact ht)
          have hsq0 := sq_pos (row.getD t 0)
          have hnx : sqsP row (t + 1) = sqsP row t + row.getD t 0 * row.getD t 0 := rfl
          have HNX := Lib.hid hnx
          clear hnx hv
          obtain ⟨x, hx⟩ : ∃ x, row.getD t 0 = x := ⟨_, rfl⟩
          obtain ⟨y, hy⟩ : ∃ y, sqsP row t = y := ⟨_, rfl⟩
          rw [hx] at hrg c2 hsq hsq0 HNX
          rw [hy] at hp hq HNX ⊢
          clear hx hy
          obtain ⟨z, hz⟩ : ∃ z, x * x = z := ⟨_, rfl⟩
          have hz1 : IntKind.i64.wrap (x * x) = z := by rw [hz]; exact IntWalk.i64_in _ (by omega)
          rw [hz] at hsq hsq0 HNX
          have HZ := Lib.hid hz
          clear hz
          go_wp2_with fail
          go_quiet (fail)
          go_wp2_with fail
          go_roundw
          case rel => exact ⟨t + 1, by omega, by go_num, by rw [HNX.out], HB2.out.trans (below_drewN _ _ _)⟩
          case measure => simp [intOf]; omega
        · obtain rfl : t = row.length := by omega
          have hq := sqsP_bd HRG.out row.length (by rw [← HW.out]; exact Nat.le_refl _)
          have hp := sqsP_pos row row.length
          by_cases h64 : sqsP row row.length ≤ 64
          · have h64' : decide (64 < sqsP row row.length) = false := by simpa using h64
            go_wp2_with fail
            go_roundw
            case rel => exact ⟨k + 1, by omega, by go_num, fun t ht => by
              by_cases e : t = k
              · subst e; rw [HROW.out, ← HW.out]; exact h64
              · exact HS.out t (by omega), HB2.out⟩
            case measure => simp [intOf]; omega
          · have h64' : decide (64 < sqsP row row.length) = true := by simp; omega
            have hno : sqOkB m = false := by
              unfold sqOkB
              apply decide_eq_false
              intro h
              have := h k hlt
              rw [HROW.out, ← HW.out] at this
              exact h64 this
            go_wp2_with fail
            go_ret
            exact ⟨rfl, HB2.out⟩
    · obtain rfl : k = m.length := by omega
      have hyes : sqOkB m = true := by unfold sqOkB; exact decide_eq_true HS.out
      go_wp2_with fail
      go_ret
      exact ⟨by rw [hyes]; rfl, HB.out⟩

set_option maxHeartbeats 4000000 in
set_option maxRecDepth 100000 in
theorem specMat (m : List (List Int)) (A : Option Addr) (cap lo hi : Nat) (w : World) (hl : RowsIn w lo hi A m) (hn : m.length ≤ 1048576) (hr : ∀ k, k < m.length → (m.getD k []).length ≤ 1048576) :
    Calls Try.prog 65 #[.slice A m.length cap] w fun e w' => e = .returned (.bool (isMatB m)) ∧ Below w.heap.size w w' := by
  by_cases h0 : m.length = 0
  · have hno : isMatB m = false := isMatB_no fun h => by have := h.h0; omega
    rw [hno, h0]
    go_enter Try.func65, Try.ntmps65
    go_wp2_with fail
    refine wp_loop_rounds 1 ?_
    rw [rounds_succ]
    go_wp2_with fail
    go_ret
    exact ⟨rfl, Below.refl _ _⟩
  · have HL := Lib.hid hl
    have HRR := Lib.hid hr
    obtain ⟨b, off, S, rfl, hbw, hc⟩ := rows_fn hl (by omega)
    have HC := Lib.hid hc
    clear hc hl hr
    obtain ⟨bm, hbm⟩ : ∃ bm, isMatB m = bm := ⟨_, rfl⟩
    rw [hbm]
    have HBM := Lib.hid hbm
    clear hbm
    go_enter Try.func65, Try.ntmps65
    go_wp2_with fail
    go_loopw [3, 4] (fun i _ wr => ∃ k : Nat, k ≤ m.length ∧ i = .int .i64 k ∧ RowsP1 m k ∧ Below w.heap.size w wr) (fun i _ _ => m.length - (intOf i).toNat)
    case atStart => exact ⟨0, by omega, rfl, fun t ht => absurd ht (Nat.not_lt_zero t), Below.refl _ _⟩
    case round =>
      obtain ⟨k, hk, rfl, hs, hb⟩ := hrel
      have HS := Lib.hid hs
      have HB := Lib.hid hb
      clear hs hb
      have c0 := rows_cell hbw HC.out HB.out (i := 0) (by omega)
      rw [Nat.add_zero] at c0
      have hr0 := HRR.out 0 (by omega)
      obtain ⟨W, hW⟩ : ∃ W, (m.getD 0 []).length = W := ⟨_, rfl⟩
      rw [hW] at c0 hr0
      have HWD := Lib.hid (show widM m = W from hW)
      clear hW
      obtain ⟨⟨A0, cz⟩, hS0⟩ : ∃ s, S 0 = s := ⟨_, rfl⟩
      rw [hS0] at c0
      dsimp only at c0
      clear hS0
      by_cases hlt : k < m.length
      · have hki : (k : Int) < (m.length : Int) := by omega
        have c1 := rows_cell hbw HC.out HB.out hlt
        have hrk := HRR.out k hlt
        obtain ⟨row, hrow⟩ : ∃ row, m.getD k [] = row := ⟨_, rfl⟩
        obtain ⟨⟨A', c'⟩, hSk⟩ : ∃ s, S k = s := ⟨_, rfl⟩
        rw [hrow] at c1 hrk
        rw [hSk] at c1
        dsimp only at c1
        have HROW := Lib.hid hrow
        have HSK := Lib.hid hSk
        clear hrow hSk
        by_cases hlw : row.length = W
        · have hne : ((row.length : Int) != (W : Int)) = false := by simp [hlw]
          have HLW := Lib.hid hlw
          clear hlw
          obtain ⟨wq, hwq⟩ : ∃ x, x = wr := ⟨_, rfl⟩
          rw [← hwq] at HB c0 c1 ⊢
          clear hwq
          go_wp2_with fail
          go_quiet (fail)
          clear c0 c1
          have HBQ := Lib.hid (HB.out.trans (below_drewN _ wq nq))
          go_wp2_with fail
          go_loopw [4] (fun j wr2 => ∃ t : Nat, t ≤ row.length ∧ j = .int .i64 t ∧ RngP row t ∧ Below w.heap.size w wr2) (fun j _ => row.length - (intOf j).toNat)
          case atStart => exact ⟨0, by omega, rfl, fun t ht => absurd ht (Nat.not_lt_zero t), HBQ.out⟩
          case round =>
            obtain ⟨t, ht, rfl, hg, hb2⟩ := hrel
            have HB2 := Lib.hid hb2
            have HG := Lib.hid hg
            clear hb2 hg
            have c1 := rows_cell hbw HC.out HB2.out hlt
            rw [HROW.out, HSK.out] at c1
            dsimp only at c1
            by_cases htl : t < row.length
            · have hti : (t : Int) < (row.length : Int) := by omega
              obtain ⟨bi, oi, e1, c2⟩ := rows_num HC.out HB2.out hlt (show t < (m.getD k []).length by rw [HROW.out]; exact htl)
              rw [HSK.out] at e1
              dsimp only at e1
              subst e1
              have hv : atM m k t = row.getD t 0 := by unfold atM; rw [HROW.out]
              rw [hv] at c2
              clear hv
              obtain ⟨x, hxv⟩ : ∃ x, row.getD t 0 = x := ⟨_, rfl⟩
              rw [hxv] at c2
              have HXV := Lib.hid hxv
              clear hxv
              by_cases hx : -8 ≤ x ∧ x ≤ 8
              · have HX := Lib.hid hx
                clear hx
                go_wp2_with fail
                refine (l1In_yes x (-8) 8 _ HX.out.1 HX.out.2).mono ?_
                rintro e w3 ⟨rfl, rfl⟩
                go_wp2_with fail
                go_roundw
                case rel => exact ⟨t + 1, by omega, by go_num, fun u hu => by
                  by_cases e : u = t
                  · subst e; rw [HXV.out]; exact HX.out
                  · exact HG.out u (by omega), HB2.out⟩
                case measure => simp [intOf]; omega
              · have HX := Lib.hid hx
                clear hx
                have hno : bm = false := by
                  rw [← HBM.out]
                  refine isMatB_no fun h => HX.out ?_
                  have := (h.row k hlt).2 t (by rw [HWD.out, ← HLW.out]; exact htl)
                  rw [HROW.out, HXV.out] at this
                  exact this
                go_wp2_with fail
                refine (l1In_no x (-8) 8 _ (by have := HX.out; omega)).mono ?_
                rintro e w3 ⟨rfl, rfl⟩
                go_wp2_with fail
                go_ret
                exact ⟨by rw [hno]; rfl, HB2.out⟩
            · obtain rfl : t = row.length := by omega
              go_wp2_with fail
              go_roundw
              case rel => exact ⟨k + 1, by omega, by go_num, fun u hu => by
                by_cases e : u = k
                · subst e; rw [HROW.out, HWD.out, ← HLW.out]; exact ⟨rfl, HG.out⟩
                · exact HS.out u (by omega), HB2.out⟩
              case measure => simp [intOf]; omega
        · have hne : ((row.length : Int) != (W : Int)) = true := by simp; omega
          have hno : bm = false := by
            rw [← HBM.out]
            refine isMatB_no fun h => hlw ?_
            have := (h.row k hlt).1
            rw [HROW.out, HWD.out] at this
            exact this
          go_wp2_with fail
          go_quiet (fail)
          go_wp2_with fail
          go_ret
          exact ⟨by rw [hno]; rfl, HB.out.trans (below_drewN _ _ _)⟩
      · obtain rfl : k = m.length := by omega
        have h0' : decide ((0 : Int) < (m.length : Int)) = true := by simp; omega
        have h0i : (0 : Int) < (m.length : Int) := by omega
        by_cases h9 : m.length ≤ 9
        · have h9' : decide ((m.length : Int) ≤ 9) = true := by simp; omega
          by_cases h12 : 1 ≤ W ∧ W ≤ 12
          · have hv : bm = sqOkB m := by
              rw [← HBM.out]
              by_cases hq : ∀ i, i < m.length → sqsP (m.getD i []) (widM m) ≤ 64
              · rw [isMatB_yes ⟨by omega, h9, by rw [HWD.out]; exact h12.1, by rw [HWD.out]; exact h12.2, HS.out, hq⟩]
                unfold sqOkB
                exact (decide_eq_true hq).symm
              · rw [isMatB_no fun h => hq h.sq]
                unfold sqOkB
                exact (decide_eq_false hq).symm
            have HSM := Lib.hid (fun (W' : World) (h : RowsIn W' lo hi (some ⟨b, off, none⟩) m) => specSmall m (some ⟨b, off, none⟩) cap lo hi W' h (by omega) h9 (by rw [HWD.out]; exact h12.2) HS.out)
            rw [← hv] at HSM
            clear hv
            go_wp2_with fail
            refine (l1In_yes (W : Int) 1 12 _ (by omega) (by omega)).mono ?_
            rintro e w3 ⟨rfl, rfl⟩
            go_wp2_with fail
            refine (HSM.out _ (HL.out.within (within_of HB.out) (.inr (Nat.zero_le _)))).mono ?_
            rintro e w3 ⟨rfl, hb3⟩
            have HB3 := Lib.hid (below_on HB.out hb3 HB.out.size)
            clear hb3
            go_wp2_with fail
            go_ret
            exact ⟨rfl, HB3.out⟩
          · have hno : bm = false := by
              rw [← HBM.out]
              refine isMatB_no fun h => h12 ?_
              have h1 := h.w1
              have h2 := h.w12
              rw [HWD.out] at h1 h2
              exact ⟨h1, h2⟩
            have H12 := Lib.hid h12
            clear h12
            go_wp2_with fail
            refine (l1In_no (W : Int) 1 12 _ (by have := H12.out; omega)).mono ?_
            rintro e w3 ⟨rfl, rfl⟩
            go_wp2_with fail
            go_ret
            exact ⟨by rw [hno]; rfl, HB.out⟩
        · have h9' : decide ((m.length : Int) ≤ 9) = false := by simp; omega
          have hno : bm = false := by
            rw [← HBM.out]
            exact isMatB_no fun h => h9 h.h9
          go_wp2_with fail
          go_ret
          exact ⟨by rw [hno]; rfl, HB.out⟩
end Go.Proofs.Ytdkpmaahinbhlaa
