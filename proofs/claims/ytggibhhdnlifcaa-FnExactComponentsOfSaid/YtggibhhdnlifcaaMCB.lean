/- Several texts in one, in the order in which they build on each other: what stands on the way to the law; each names its own matter. No condition. -/
import Derived.Test.YtggibhhdnlifcaaMC
import Derived.Test.YtggibhhdnlifcaaIntsO
import Derived.Test.YtggibhhdnlifcaaNewPI
import Derived.Test.YtggibhhdnlifcaaRowAt
import Derived.Test.YtggibhhdnlifcaaOwnF
import Derived.Test.YtggibhhdnlifcaaPullM
import Derived.Deep.RegionHeld3
import Derived.Laws.CopyOwn
import Derived.Test.YtggibhhdnlifcaaPlaM
import Derived.Test.YtggibhhdnlifcaaOwnR
import Derived.Test.YtggibhhdnlifcaaRng
import Derived.Test.YtggibhhdnlifcaaBox
import Derived.Test.YtggibhhdnlifcaaSetM
import Derived.Test.YtggibhhdnlifcaaState
import Derived.Test.YtggibhhdnlifcaaHas
import Derived.Deep.RegionWith
import Derived.BigQuiet
import Derived.Test.YtggibhhdnlifcaaInts
import Derived.Test.YtggibhhdnlifcaaPebA
/- Rows of rows of the call's own: the laws' marks in them (laws.markIntSS, heldIntSS). No condition. -/
namespace Go.Proofs.Ytggibhhdnlifcaa
open Go.RowKit

/-- The rows rs of the call's own: their row lies in a block from lo to hi, each of them in a range of its own. -/
def RowsOwn (W : World) (lo hi : Nat) (A : Option Addr) (rs : List (List Int)) : Prop :=
  hi ≤ W.heap.size ∧ (0 < rs.length → ∃ (g : Nat) (r : Nat → Nat × Nat) (S : Nat → Option Addr × Nat), A = some ⟨g, 0, none⟩ ∧ lo ≤ g ∧ g < hi ∧ (∀ j k, j < k → k < rs.length → Dis (r j) (r k)) ∧
    ∀ k, k < rs.length → W.cell? ⟨g, k, none⟩ = some (.slice (S k).1 (rs.getD k []).length (S k).2) ∧ OwnInts W (r k).1 (r k).2 (S k).1 (S k).2 (rs.getD k []) ∧ lo ≤ (r k).1 ∧ (r k).2 ≤ hi ∧ (g < (r k).1 ∨ (r k).2 ≤ g))
theorem RowsOwn.within {W W' : World} {lo hi lo' hi' : Nat} {A : Option Addr} {rs : List (List Int)} (h : RowsOwn W lo hi A rs) (hw : Within lo' hi' W W') (hd : hi ≤ lo' ∨ hi' ≤ lo) : RowsOwn W' lo hi A rs :=
  ⟨Nat.le_trans h.1 hw.size, fun hl => by
    obtain ⟨g, r, S, e, h1, h2, hdis, hc⟩ := h.2 hl
    have hk := hw.block g (Nat.lt_of_lt_of_le h2 h.1) (by omega)
    refine ⟨g, r, S, e, h1, h2, hdis, fun k hk' => ?_⟩
    obtain ⟨c1, c2, c3, c4, c5⟩ := hc k hk'
    exact ⟨(World.cell?_of_block (a := ⟨g, k, none⟩) hk).trans c1, c2.within hw (by omega), c3, c4, c5⟩⟩
theorem RowsOwn.reads {W : World} {lo hi : Nat} {A : Option Addr} {rs : List (List Int)} (h : RowsOwn W lo hi A rs) : RowsIn W lo hi A rs :=
  ⟨h.1, fun hl => by
    obtain ⟨g, r, S, e, h1, h2, _, hc⟩ := h.2 hl
    refine ⟨g, 0, e, h1, h2, fun k hk => ?_⟩
    obtain ⟨c1, c2, c3, c4, _⟩ := hc k hk
    exact ⟨(S k).1, (S k).2, by rw [Nat.zero_add]; exact c1, c2.reads.widen c3 c4 h.1⟩⟩

/-- The number of ints in the first n rows. -/
def tot (rs : List (List Int)) : Nat → Nat
  | 0 => 0
  | n + 1 => tot rs n + (rs.getD n []).length
theorem tot_le (rs : List (List Int)) {j n : Nat} (h : j ≤ n) : tot rs j ≤ tot rs n := by
  induction n with
  | zero =>
    obtain rfl : j = 0 := by omega
    exact Nat.le_refl _
  | succ n ih =>
    by_cases e : j = n + 1
    · subst e; exact Nat.le_refl _
    · have := ih (by omega)
      rw [tot]; omega
theorem tot_bound (rs : List (List Int)) (m n : Nat) (h : ∀ k, k < n → (rs.getD k []).length ≤ m) : tot rs n ≤ n * m := by
  induction n with
  | zero => simp [tot]
  | succ n ih =>
    have h1 := ih fun k hk => h k (by omega)
    have h2 := h n (by omega)
    rw [tot, Nat.add_mul]
    omega
/-- The rows that the marks from k on make. -/
def marksR (k : Int) (rs : List (List Int)) : List (List Int) := (List.range rs.length).map fun j => marksI (k + (tot rs j : Int)) (rs.getD j []).length
theorem marksR_len (k : Int) (rs : List (List Int)) : (marksR k rs).length = rs.length := by simp [marksR]
theorem marksR_get (k : Int) (rs : List (List Int)) (j : Nat) (h : j < rs.length) : (marksR k rs).getD j [] = marksI (k + (tot rs j : Int)) (rs.getD j []).length := by simp [marksR, List.getD, h]
/-- The row j while the first n rows are marked. -/
def stg (k : Int) (rs : List (List Int)) (n j : Nat) : List Int := if j < n then marksI (k + (tot rs j : Int)) (rs.getD j []).length else rs.getD j []
theorem stg_len (k : Int) (rs : List (List Int)) (n j : Nat) : (stg k rs n j).length = (rs.getD j []).length := by
  unfold stg
  split
  · rw [marksI_len]
  · rfl
theorem stg_now (k : Int) (rs : List (List Int)) (n : Nat) : stg k rs n n = rs.getD n [] := by unfold stg; rw [if_neg (by omega)]
theorem stg_next (k : Int) (rs : List (List Int)) (n : Nat) : stg k rs (n + 1) n = marksI (k + (tot rs n : Int)) (rs.getD n []).length := by unfold stg; rw [if_pos (by omega)]
theorem stg_else (k : Int) (rs : List (List Int)) (n j : Nat) (h : j ≠ n) : stg k rs (n + 1) j = stg k rs n j := by
  unfold stg
  by_cases e : j < n
  · rw [if_pos e, if_pos (by omega)]
  · rw [if_neg e, if_neg (by omega)]
/-- The rows while the first n of them are marked. -/
def MarkSt (W : World) (lo hi g : Nat) (r : Nat → Nat × Nat) (S : Nat → Option Addr × Nat) (k0 : Int) (rs : List (List Int)) (n : Nat) : Prop :=
  hi ≤ W.heap.size ∧ ∀ k, k < rs.length → W.cell? ⟨g, k, none⟩ = some (.slice (S k).1 (rs.getD k []).length (S k).2) ∧ OwnInts W (r k).1 (r k).2 (S k).1 (S k).2 (stg k0 rs n k) ∧ lo ≤ (r k).1 ∧ (r k).2 ≤ hi ∧ (g < (r k).1 ∨ (r k).2 ≤ g)
theorem MarkSt.below {W W' : World} {lo hi g : Nat} {r : Nat → Nat × Nat} {S : Nat → Option Addr × Nat} {k0 : Int} {rs : List (List Int)} {n : Nat} (h : MarkSt W lo hi g r S k0 rs n) (hg : g < hi) (hb : Below W.heap.size W W') : MarkSt W' lo hi g r S k0 rs n :=
  ⟨Nat.le_trans h.1 hb.size, fun k hk => by
    obtain ⟨c1, c2, c3, c4, c5⟩ := h.2 k hk
    have := h.1
    exact ⟨(hb.cell (p := ⟨g, k, none⟩) (show g < W.heap.size by omega)).trans c1, c2.within (within_of hb) (.inr (Nat.zero_le _)), c3, c4, c5⟩⟩
theorem MarkSt.next {W W' : World} {lo hi g : Nat} {r : Nat → Nat × Nat} {S : Nat → Option Addr × Nat} {k0 : Int} {rs : List (List Int)} {n : Nat} (h : MarkSt W lo hi g r S k0 rs n) (hg : g < hi) (hn : n < rs.length) (hd : ∀ j k, j < k → k < rs.length → Dis (r j) (r k))
    (hw : Within (r n).1 (r n).2 W W') (ho : OwnInts W' (r n).1 (r n).2 (S n).1 (S n).2 (marksI (k0 + (tot rs n : Int)) (rs.getD n []).length)) : MarkSt W' lo hi g r S k0 rs (n + 1) :=
  ⟨Nat.le_trans h.1 hw.size, fun k hk => by
    obtain ⟨c1, c2, c3, c4, c5⟩ := h.2 k hk
    obtain ⟨_, _, _, _, d5⟩ := h.2 n hn
    have := h.1
    refine ⟨(World.cell?_of_block (a := ⟨g, k, none⟩) (hw.block g (by omega) (by omega))).trans c1, ?_, c3, c4, c5⟩
    by_cases e : k = n
    · subst e
      rw [stg_next]
      exact ho
    · rw [stg_else _ _ _ _ e]
      refine c2.within hw ?_
      rcases Nat.lt_or_gt_of_ne e with e1 | e1
      · exact hd k n e1 hn
      · exact (hd n k e1 hk).symm⟩

set_option maxHeartbeats 2000000 in
set_option maxRecDepth 100000 in
theorem markRows_c (rs : List (List Int)) (A : Option Addr) (cap lo hi : Nat) (k0 : Int) (w : World) (h : RowsOwn w lo hi A rs) (hn : rs.length ≤ 1048576) (hr : ∀ k, k < rs.length → (rs.getD k []).length ≤ 1048576) (hk0 : 0 ≤ k0) (hk1 : k0 + (tot rs rs.length : Int) ≤ 10000000) :
    Calls Try.prog 18 #[.slice A rs.length cap, .int .i64 k0] w fun e w' => e = .returned (.int .i64 (k0 + (tot rs rs.length : Int))) ∧ Within lo hi w w' ∧ RowsOwn w' lo hi A (marksR k0 rs) := by
  by_cases h0 : rs.length = 0
  · have hs := h.1
    have ht : tot rs rs.length = 0 := by rw [h0]; rfl
    rw [ht]
    rw [h0]
    go_enter Try.func18, Try.ntmps18
    go_wp2_with fail
    refine wp_loop_rounds 1 ?_
    rw [rounds_succ]
    go_wp2_with fail
    go_ret
    exact ⟨by simp, Within.refl _ _ _, hs, fun hl => by rw [marksR_len] at hl; omega⟩
  · obtain ⟨g, r, S, rfl, h1, h2, hd, hc⟩ := h.2 (by omega)
    have HD := Lib.hid hd
    have HR := Lib.hid hr
    have HM := Lib.hid (show MarkSt w lo hi g r S k0 rs 0 from ⟨h.1, fun k hk => by
      have := hc k hk
      unfold stg
      rw [if_neg (by omega)]
      exact this⟩)
    clear hd hr hc h
    go_enter Try.func18, Try.ntmps18
    go_wp2_with fail
    go_loopw [1, 5] (fun m i wr => ∃ j : Nat, j ≤ rs.length ∧ i = .int .i64 j ∧ m = .int .i64 (k0 + (tot rs j : Int)) ∧ MarkSt wr lo hi g r S k0 rs j ∧ Within lo hi w wr) (fun _ i _ => rs.length - (intOf i).toNat)
    case atStart => exact ⟨0, by omega, rfl, by simp [tot], HM.out, Within.refl _ _ _⟩
    case round =>
      obtain ⟨j, hj, rfl, rfl, hm, hw⟩ := hrel
      have HW := Lib.hid hw
      have HM := Lib.hid hm
      clear hm hw
      by_cases hlt : j < rs.length
      · have hij : (j : Int) < (rs.length : Int) := by omega
        obtain ⟨c1, c2, c3, c4, c5⟩ := HM.out.2 j hlt
        rw [stg_now] at c2
        have hz := HR.out j hlt
        have ht := tot_le rs (j := j + 1) (n := rs.length) (by omega)
        have hs : tot rs (j + 1) = tot rs j + (rs.getD j []).length := rfl
        obtain ⟨zs, hzs⟩ : ∃ zs, rs.getD j [] = zs := ⟨_, rfl⟩
        rw [hzs] at c1 c2 hz hs
        have HZS := Lib.hid hzs
        have HO := Lib.hid c2
        have HS := Lib.hid hs
        have HQ := Lib.hid (And.intro c3 c4)
        clear c2 hzs hs c3 c4 c5
        obtain ⟨⟨A', cp⟩, hS⟩ : ∃ s, S j = s := ⟨_, rfl⟩
        rw [hS] at c1 HO
        have HSJ := Lib.hid hS
        clear hS
        go_wp2_with fail
        refine (markInts_o A' cp zs (k0 + (tot rs j : Int)) (r j).1 (r j).2 _ HO.out hz (by omega) (by have := HS.out; omega)).mono ?_
        rintro e w3 ⟨rfl, hw3, ho3⟩
        have HM3 := Lib.hid (HM.out.next h2 hlt HD.out hw3 (by rw [HZS.out, HSJ.out]; exact ho3))
        have HW3 := Lib.hid (show Within lo hi w w3 from ⟨hw3.os.trans HW.out.os, hw3.tape.trans HW.out.tape, hw3.output.trans HW.out.output, Nat.le_trans HW.out.size hw3.size, fun i hi' hd' => (hw3.block i (Nat.lt_of_lt_of_le hi' HW.out.size) (by have := HQ.out; omega)).trans (HW.out.block i hi' hd')⟩)
        have hnx : k0 + (tot rs j : Int) + (zs.length : Int) = k0 + (tot rs (j + 1) : Int) := by rw [HS.out]; omega
        clear hw3 ho3
        rw [hnx]
        go_wp2_with fail
        go_roundw
        case rel => exact ⟨j + 1, by omega, by go_num, rfl, HM3.out, HW3.out⟩
        case measure => simp [intOf]; omega
      · obtain rfl : j = rs.length := by omega
        go_wp2_with fail
        go_ret
        refine ⟨rfl, HW.out, HM.out.1, fun _ => ⟨g, r, S, rfl, h1, h2, fun j k hjk hk => HD.out j k hjk (by rw [marksR_len] at hk; exact hk), fun k hk => ?_⟩⟩
        rw [marksR_len] at hk
        obtain ⟨c1, c2, c3, c4, c5⟩ := HM.out.2 k hk
        rw [marksR_get _ _ _ hk, marksI_len]
        unfold stg at c2
        rw [if_pos hk] at c2
        exact ⟨c1, c2, c3, c4, c5⟩

set_option maxHeartbeats 2000000 in
set_option maxRecDepth 100000 in
theorem heldRows_c (rs : List (List Int)) (A : Option Addr) (cap lo hi : Nat) (k0 : Int) (w : World) (h : RowsIn w lo hi A (marksR k0 rs)) (hn : rs.length ≤ 1048576) (hr : ∀ k, k < rs.length → (rs.getD k []).length ≤ 1048576) (hk0 : 0 ≤ k0) (hk1 : k0 + (tot rs rs.length : Int) ≤ 10000000) :
    Calls Try.prog 19 #[.slice A rs.length cap, .int .i64 k0] w fun e w' => e = .returned (.int .i64 (k0 + (tot rs rs.length : Int))) ∧ Below w.heap.size w w' := by
  have HL := Lib.hid h
  have HR := Lib.hid hr
  clear h hr
  go_enter Try.func19, Try.ntmps19
  go_wp2_with fail
  go_loopw [1, 5] (fun m i wr => ∃ j : Nat, j ≤ rs.length ∧ i = .int .i64 j ∧ m = .int .i64 (k0 + (tot rs j : Int)) ∧ Below w.heap.size w wr) (fun _ i _ => rs.length - (intOf i).toNat)
  case atStart => exact ⟨0, by omega, rfl, by simp [tot], Below.refl _ _⟩
  case round =>
    obtain ⟨j, hj, rfl, rfl, hb⟩ := hrel
    have HQ := Lib.hid (HL.out.within (within_low hb) (.inl HL.out.1))
    have HB := Lib.hid hb
    clear hb
    by_cases hlt : j < rs.length
    · have hi : (j : Int) < (rs.length : Int) := by omega
      obtain ⟨b, off, rfl, _, _, hcell⟩ := HQ.out.2 (by rw [marksR_len]; omega)
      obtain ⟨A1, c1, hc1, hi1⟩ := hcell j (by rw [marksR_len]; exact hlt)
      rw [marksR_get _ _ _ hlt] at hc1 hi1
      rw [marksI_len] at hc1
      have hz := HR.out j hlt
      have ht := tot_le rs (j := j + 1) (n := rs.length) (by omega)
      have hs : tot rs (j + 1) = tot rs j + (rs.getD j []).length := rfl
      obtain ⟨m, hm⟩ : ∃ m, (rs.getD j []).length = m := ⟨_, rfl⟩
      rw [hm] at hc1 hi1 hz hs
      have HI1 := Lib.hid hi1
      have HS := Lib.hid hs
      clear hcell hi1 hm hs
      go_wp2_with fail
      refine (heldInts_c m A1 c1 (k0 + (tot rs j : Int)) _ _ _ HI1.out hz (by omega) (by have := HS.out; omega)).mono ?_
      rintro e w3 ⟨rfl, hb3⟩
      have HB3 := Lib.hid (below_on HB.out hb3 HB.out.size)
      have hnx : k0 + (tot rs j : Int) + (m : Int) = k0 + (tot rs (j + 1) : Int) := by rw [HS.out]; omega
      clear hb3
      rw [hnx]
      have hnn : ¬ k0 + (tot rs (j + 1) : Int) < 0 := by omega
      go_wp2_with fail
      go_roundw
      case rel => exact ⟨j + 1, by omega, by go_num, rfl, HB3.out⟩
      case measure => simp [intOf]; omega
    · obtain rfl : j = rs.length := by omega
      go_wp2_with fail
      go_ret
      exact ⟨rfl, HB.out⟩
end Go.Proofs.Ytggibhhdnlifcaa
/- Rows of slices of the call's own: what an append onto them asks and does. No condition. -/
namespace Go.Proofs.Ytggibhhdnlifcaa
open Go.RowKit

/-- A row of slices of the call's own in a block from lo to hi, or no block; an empty one too can be appended to. -/
def OwnS (W : World) (lo hi : Nat) (A : Option Addr) (cap : Nat) (zs : List Value) : Prop :=
  hi ≤ W.heap.size ∧ ((A = none ∧ cap = 0 ∧ zs = []) ∨ ∃ g, A = some ⟨g, 0, none⟩ ∧ lo ≤ g ∧ g < hi ∧ W.ownsRow lo 61 1 (.slice (some ⟨g, 0, none⟩) zs.length cap) zs.length zs)
theorem OwnS.within {W W' : World} {lo hi lo' hi' : Nat} {A : Option Addr} {cap : Nat} {zs : List Value} (h : OwnS W lo hi A cap zs) (hw : Within lo' hi' W W') (hd : hi ≤ lo' ∨ hi' ≤ lo) : OwnS W' lo hi A cap zs :=
  ⟨Nat.le_trans h.1 hw.size, by
    rcases h.2 with h2 | ⟨g, e, h1, h2, ho⟩
    · exact .inl h2
    · exact .inr ⟨g, e, h1, h2, own_block ho (hw.block g (Nat.lt_of_lt_of_le h2 h.1) (by omega))⟩⟩
/-- What an append onto the row asks. -/
theorem OwnS.row {W : World} {lo hi : Nat} {A : Option Addr} {cap : Nat} {zs : List Value} (h : OwnS W lo hi A cap zs) : W.ownsRow lo 61 1 (.slice A zs.length cap) zs.length zs := by
  rcases h.2 with ⟨rfl, rfl, rfl⟩ | ⟨g, rfl, _, _, ho⟩
  · exact ⟨rfl, .inl ⟨rfl, rfl⟩⟩
  · exact ho
theorem own_s {w' : World} {base : Nat} {A : Option Addr} {cap : Nat} {zs : List Value} (h : w'.ownsRow base 61 1 (.slice A zs.length cap) zs.length zs) : OwnS w' base w'.heap.size A cap zs := by
  rcases h.2 with ⟨h1, h0⟩ | ⟨g, cap', cur, h1, h2⟩
  · injection h1 with e1 e2 e3
    exact ⟨Nat.le_refl _, .inl ⟨e1, e3, List.eq_nil_of_length_eq_zero h0⟩⟩
  · cases h1
    exact ⟨Nat.le_refl _, .inr ⟨g, rfl, (h.lt g rfl).1, (h.lt g rfl).2, h⟩⟩
theorem infoInts : (Try.prog.info? 61).map (fun i => (i.zero, i.size, i.bytes)) = some (some (.slice none 0 0), 1, 24) := by kernel_rfl
theorem wpList_pushS (w : World) {ops : Array Oper} {rest : List Oper} {o : Oper} {a : Act} {Q : Exit → Act → World → Prop} (hgd : o.guard = none) (s x : Operand)
    (ho : o.op = .call { callee := .builtin .append, args := #[s, x], argTypes := #[26, 26] }) (lo hi : Nat) (A : Option Addr) (cap : Nat) (zs : List Value) (y : Value) (hy : y.oneCell' = true) (hs : a.eval s = .slice A zs.length cap) (hr : OwnS w lo hi A cap zs)
    (tb : TypeId) (hx : a.eval x = .slice (some ⟨w.heap.size, 0, none⟩) 1 1) (hn : zs.length ≤ 1048576) (hlo : lo ≤ w.heap.size)
    (h : ∀ A' c' w' lo' hi', OwnS w' lo' hi' A' c' (zs ++ [y]) → ((lo' = lo ∧ hi' = hi) ∨ (w.heap.size ≤ lo' ∧ lo' ≤ w'.heap.size ∧ hi' ≤ w'.heap.size)) → Within lo hi w w' → wpList Try.prog ops Q rest (a.put o.dst (.slice A' (zs.length + 1) c')) w') : wpList Try.prog ops Q (o :: rest) a (w.alloc (.cells #[y] tb)) := by
  have hlen : (zs ++ [y]).length = zs.length + 1 := by simp
  refine wpList_at w hgd s x 26 ho lo 61 (.slice none 0 0) 1 24 Try.underlying26 infoInts rfl (by decide) _ _ _ hs hr.row #[y] 1 rfl (by intro u hu; simp at hu; subst hu; exact hy) tb 1 hx (by omega) (by unfold maxLen; omega) hlo ?_
  intro v' w' hown hg hat _
  obtain ⟨A', c', rfl⟩ := own_shape hown
  rw [show zs ++ (#[y] : Array Value).toList = zs ++ [y] from rfl, ← hlen] at hown
  rw [← hlen] at hat
  have hw : Within lo hi w w' := ⟨hg.os, hg.tape, hg.output, hg.size, fun k hk hd => hg.block k hk fun e => by
    rcases hr.2 with ⟨rfl, rfl, rfl⟩ | ⟨g, rfl, g1, g2, _⟩
    · cases e
    · have : k = g := by simpa [Value.ownBlock] using e
      omega⟩
  rcases hown.2 with ⟨_, e0⟩ | ⟨g', cap', cur, e1, _⟩
  · rw [hlen] at e0; omega
  · injection e1 with q1 q2 q3
    subst q1
    have hlt := hown.lt g' rfl
    rcases hat with e | e
    · rcases hr.2 with ⟨rfl, rfl, rfl⟩ | ⟨g, rfl, g1, g2, _⟩
      · cases e
      · have : g' = g := by simpa [Value.ownBlock] using e
        subst this
        exact h _ c' w' lo hi ⟨Nat.le_trans hr.1 hg.size, .inr ⟨g', rfl, g1, g2, hown⟩⟩ (.inl ⟨rfl, rfl⟩) hw
    · have : g' = w.heap.size + 1 := by simpa [Value.ownBlock] using e
      exact h _ c' w' g' (g' + 1) ⟨hlt.2, .inr ⟨g', rfl, Nat.le_refl _, by omega, own_rebase hown (Nat.le_refl _)⟩⟩ (.inr ⟨by omega, by omega, hlt.2⟩) hw
end Go.Proofs.Ytggibhhdnlifcaa
/- Rows of rows of the call's own while they grow. No condition. -/
namespace Go.Proofs.Ytggibhhdnlifcaa
open Go.RowKit

/-- The rows rs of the call's own: their row lies in a block from lo to hi, each of them in a range of its own; all lie from B to T. -/
structure RowsG (W : World) (B T lo hi : Nat) (A : Option Addr) (cap : Nat) (rs : List (List Int)) : Prop where
  top : T ≤ W.heap.size
  out : B ≤ lo ∧ lo ≤ T ∧ hi ≤ T
  rows : ∃ (zs : List Value) (r : Nat → Nat × Nat) (S : Nat → Option Addr × Nat), zs.length = rs.length ∧ OwnS W lo hi A cap zs ∧ (∀ j k, j < k → k < rs.length → Dis (r j) (r k)) ∧
    ∀ k, k < rs.length → zs.getD k (.slice none 0 0) = .slice (S k).1 (rs.getD k []).length (S k).2 ∧ OwnInts W (r k).1 (r k).2 (S k).1 (S k).2 (rs.getD k []) ∧ B ≤ (r k).1 ∧ (r k).2 ≤ T ∧ Dis (lo, hi) (r k)
theorem RowsG.below {W W' : World} {B T lo hi : Nat} {A : Option Addr} {cap : Nat} {rs : List (List Int)} (h : RowsG W B T lo hi A cap rs) (hb : Below W.heap.size W W') : RowsG W' B T lo hi A cap rs := by
  obtain ⟨ht, ho, zs, r, S, h1, h2, h3, h4⟩ := h
  refine ⟨Nat.le_trans ht hb.size, ho, zs, r, S, h1, h2.within (within_of hb) (.inr (Nat.zero_le _)), h3, fun k hk => ?_⟩
  obtain ⟨c1, c2, c3, c4, c5⟩ := h4 k hk
  exact ⟨c1, c2.within (within_of hb) (.inr (Nat.zero_le _)), c3, c4, c5⟩
/-- What lies below B may change. -/
theorem RowsG.far {W W' : World} {B T lo hi : Nat} {A : Option Addr} {cap : Nat} {rs : List (List Int)} (h : RowsG W B T lo hi A cap rs) {a b : Nat} (hw : Within a b W W') (hab : b ≤ B) : RowsG W' B T lo hi A cap rs := by
  obtain ⟨ht, ho, zs, r, S, h1, h2, h3, h4⟩ := h
  refine ⟨Nat.le_trans ht hw.size, ho, zs, r, S, h1, h2.within hw (.inr (by omega)), h3, fun k hk => ?_⟩
  obtain ⟨c1, c2, c3, c4, c5⟩ := h4 k hk
  exact ⟨c1, c2.within hw (.inr (by omega)), c3, c4, c5⟩
theorem RowsG.nil (W : World) : RowsG W W.heap.size W.heap.size W.heap.size W.heap.size none 0 [] :=
  ⟨Nat.le_refl _, ⟨Nat.le_refl _, Nat.le_refl _, Nat.le_refl _⟩, [], fun _ => (0, 0), fun _ => (none, 0), rfl, ⟨Nat.le_refl _, .inl ⟨rfl, rfl, rfl⟩⟩, fun _ _ _ hk => absurd hk (by simp), fun _ hk => absurd hk (by simp)⟩
theorem RowsG.made (W : World) : RowsG (W.alloc (.cells #[] 61)) W.heap.size (W.heap.size + 1) W.heap.size (W.heap.size + 1) (some ⟨W.heap.size, 0, none⟩) 0 [] := by
  have hm := World.ownsRow_made (base := W.heap.size) (e := 61) (size := 1) W #[] 0 (Nat.le_refl _) (by unfold maxLen; omega) (by simp)
  exact ⟨by simp, ⟨Nat.le_refl _, by omega, Nat.le_refl _⟩, [], fun _ => (0, 0), fun _ => (none, 0), rfl, ⟨by simp, .inr ⟨W.heap.size, rfl, Nat.le_refl _, Nat.lt_succ_self _, hm⟩⟩, fun _ _ _ hk => absurd hk (by simp), fun _ hk => absurd hk (by simp)⟩
theorem getD_old {α : Type} {rs : List α} {x z : α} {k : Nat} (h : k < rs.length) : (rs ++ [x]).getD k z = rs.getD k z := by
  simp [List.getD, List.getElem?_append_left h]
theorem getD_new {α : Type} {rs : List α} {x z : α} : (rs ++ [x]).getD rs.length z = x := by
  simp [List.getD]
/-- The values zs are the rows rs, each in a range of its own. -/
def RowsP (W : World) (B T lo hi : Nat) (zs : List Value) (rs : List (List Int)) : Prop :=
  ∃ (r : Nat → Nat × Nat) (S : Nat → Option Addr × Nat), (∀ j k, j < k → k < rs.length → Dis (r j) (r k)) ∧ ∀ k, k < rs.length → zs.getD k (.slice none 0 0) = .slice (S k).1 (rs.getD k []).length (S k).2 ∧ OwnInts W (r k).1 (r k).2 (S k).1 (S k).2 (rs.getD k []) ∧ B ≤ (r k).1 ∧ (r k).2 ≤ T ∧ Dis (lo, hi) (r k)
/-- One row more, whose ints lie from q.1 to q.2. -/
theorem RowsG.push {W W' : World} {B T lo hi lo' hi' : Nat} {A A' : Option Addr} {cap c' : Nat} {rs : List (List Int)} (h : RowsG W B T lo hi A cap rs) {q : Nat × Nat} {Ax : Option Addr} {cx : Nat} {x : List Int} (hx : OwnInts W q.1 q.2 Ax cx x) (hq : T ≤ q.1)
    {zs : List Value} (_hz : zs.length = rs.length) (hzs : RowsP W B T lo hi zs rs)
    (ho : OwnS W' lo' hi' A' c' (zs ++ [.slice Ax x.length cx])) (hd : (lo' = lo ∧ hi' = hi) ∨ (W.heap.size ≤ lo' ∧ lo' ≤ W'.heap.size ∧ hi' ≤ W'.heap.size)) (hw : Within lo hi W W') : RowsG W' B W'.heap.size lo' hi' A' c' (rs ++ [x]) := by
  obtain ⟨r, S, h3, h4⟩ := hzs
  have ht := h.top
  have hoB := h.out
  have hs := hw.size
  have hx1 := hx.1
  refine ⟨Nat.le_refl _, by omega, zs ++ [.slice Ax x.length cx], fun k => if k < rs.length then r k else q, fun k => if k < rs.length then S k else (Ax, cx), by simp [_hz], ho, fun j k hjk hk => ?_, fun k hk => ?_⟩
  · have hk' : k < rs.length + 1 := by simpa using hk
    by_cases e : k < rs.length
    · have e' : j < rs.length := by omega
      simp only [e, e', if_true]
      exact h3 j k hjk e
    · have e' : j < rs.length := by omega
      simp only [e, e', if_true, if_false]
      have := (h4 j e').2.2.2.1
      exact .inl (by omega)
  · have hk' : k < rs.length + 1 := by simpa using hk
    by_cases e : k < rs.length
    · simp only [e, if_true]
      obtain ⟨c1, c2, c3, c4, c5⟩ := h4 k e
      rw [getD_old (by omega), getD_old e]
      refine ⟨c1, c2.within hw ?_, c3, by omega, ?_⟩
      · unfold Dis at c5
        omega
      · unfold Dis at c5 ⊢
        dsimp only at c5 ⊢
        omega
    · obtain rfl : k = rs.length := by omega
      simp only [Nat.lt_irrefl, if_false]
      rw [← _hz, getD_new, _hz, getD_new]
      refine ⟨rfl, hx.within hw (by omega), by omega, by omega, ?_⟩
      unfold Dis
      dsimp only
      omega
theorem RowsG.cells {W : World} {B T lo hi : Nat} {A : Option Addr} {cap : Nat} {rs : List (List Int)} (h : RowsG W B T lo hi A cap rs) : RowsOwn W B T A rs := by
  obtain ⟨ht, hoB, zs, r, S, h1, h2, h3, h4⟩ := h
  refine ⟨ht, fun hl => ?_⟩
  rcases h2.2 with ⟨_, _, e⟩ | ⟨g, rfl, g1, g2, hown⟩
  · rw [e] at h1
    simp at h1
    omega
  · refine ⟨g, r, S, rfl, by omega, by omega, h3, fun k hk => ?_⟩
    obtain ⟨c1, c2, c3, c4, c5⟩ := h4 k hk
    refine ⟨?_, c2, c3, c4, ?_⟩
    · rw [← c1, World.ownsRow.cellAt hown k (by omega)]
      simp [List.getD, List.getElem?_eq_getElem (show k < zs.length by omega)]
    · unfold Dis at c5
      dsimp only at c5
      omega
end Go.Proofs.Ytggibhhdnlifcaa
/- What spec.ComponentsOf answers. No condition. -/
namespace Go.Proofs.Ytggibhhdnlifcaa
open Go.RowKit

/-- Rows of rows that are read. -/
def RowsR (w : World) (rs : List (List Int)) (e : Ending) (w' : World) : Prop :=
  ∃ A cap, e = .returned (.slice A rs.length cap) ∧ RowsIn w' w.heap.size w'.heap.size A rs ∧ Below w.heap.size w w'
theorem take_mem (ys : List (List Int)) (x : List Int) (j : Nat) (h : j < ys.length) : decide (x ∈ ys.take (j + 1)) = (decide (x ∈ ys.take j) || decide (ys.getD j [] = x)) := by
  have e : ys.take (j + 1) = ys.take j ++ [ys.getD j []] := take_getD ys [] j h
  have k : x ∈ ys.take (j + 1) ↔ (x ∈ ys.take j ∨ ys.getD j [] = x) := by
    rw [e, List.mem_append, List.mem_singleton]
    exact or_congr Iff.rfl eq_comm
  rw [decide_eq_decide.2 k, Bool.decide_or]
theorem RowsIn.widen {W : World} {lo hi lo' hi' : Nat} {A : Option Addr} {rs : List (List Int)} (h : RowsIn W lo hi A rs) (h1 : lo' ≤ lo) (h2 : hi ≤ hi') (h3 : hi' ≤ W.heap.size) : RowsIn W lo' hi' A rs :=
  ⟨h3, fun hl => by
    obtain ⟨b, off, e, q1, q2, hc⟩ := h.2 hl
    refine ⟨b, off, e, by omega, by omega, fun k hk => ?_⟩
    obtain ⟨A', c', h3', h4⟩ := hc k hk
    exact ⟨A', c', h3', h4.widen h1 h2 h3⟩⟩

set_option maxHeartbeats 8000000 in
set_option maxRecDepth 100000 in
theorem specComs (p : Int) (l : List (Int × Int)) (A : Option Addr) (cap : Nat) (w : World) (hl : BarsAt w w.heap.size A l) (hn : l.length ≤ 1048576) :
    Calls Try.prog 12 #[.agg #[.int .i64 p, .slice A l.length cap]] w (RowsR w (comV p l)) := by
  have hA1 := new_below w (.cells #[.int .i64 p, .slice A l.length cap] 30)
  have HA1 := Lib.hid hA1
  have HS1 := Lib.hid (show (w.alloc (.cells #[.int .i64 p, .slice A l.length cap] 30)).heap.size = w.heap.size + 1 by simp)
  have hA2 := new_below (w.alloc (.cells #[.int .i64 p, .slice A l.length cap] 30)) (.cells #[] 61)
  have HA2 := Lib.hid hA2
  have HL1 := Lib.hid (hl.on hA1)
  have BX1 := Lib.hid (box_new w p (.slice A l.length cap) 30)
  have RG := Lib.hid (RowsG.made (w.alloc (.cells #[.int .i64 p, .slice A l.length cap] 30)))
  clear hl hA1 hA2
  cases hg : isGB p l with
  | false =>
    have HR := Lib.hid (comV_no hg)
    have HISG := Lib.hid (fun (W : World) (h : BarsAt W W.heap.size A l) => specIsGraph' p l A cap W h hn)
    rw [hg] at HISG
    clear hg
    go_enter Try.func12, Try.ntmps12
    go_wp2_with fail
    have BX2 := Lib.hid (BX1.out.kept HA2.out)
    have HL2 := Lib.hid (HL1.out.on HA2.out)
    obtain ⟨g0, g1, g2⟩ := BX2.out
    refine wp_loop_rounds 1 ?_
    rw [rounds_succ]
    by_cases h0 : l.length = 0
    · have h0' : ¬ (0 : Int) < (l.length : Int) := by omega
      clear h0
      go_wp2_with fail
      go_ret
      refine ⟨_, _, by rw [HR.out] <;> rfl, ?_, below_on HA1.out HA2.out HA1.out.size⟩
      rw [HR.out]
      exact ⟨Nat.le_refl _, fun h => absurd h (by simp)⟩
    · have h0' : (0 : Int) < (l.length : Int) := by omega
      clear h0
      go_wp2_with fail
      refine (HISG.out _ HL2.out).mono ?_
      rintro e w3 ⟨rfl, hb⟩
      have HB3 := Lib.hid (below_on (below_on HA1.out HA2.out HA1.out.size) hb (below_on HA1.out HA2.out HA1.out.size).size)
      clear hb g0 g1 g2
      go_wp2_with fail
      go_ret
      refine ⟨_, _, by rw [HR.out] <;> rfl, ?_, HB3.out⟩
      rw [HR.out]
      exact ⟨Nat.le_refl _, fun h => absurd h (by simp)⟩
  | true =>
    have hG : IsG p l := Classical.byContradiction fun g => by rw [isGB_no g] at hg; cases hg
    have hp := hG.1
    have h24 := hG.2.1
    obtain ⟨P, rfl⟩ : ∃ P : Nat, p = (P : Int) := ⟨p.toNat, by omega⟩
    have HR := Lib.hid (comV_yes hg)
    have HCOB := Lib.hid (fun (k : Nat) (h : k < l.length) => cobV_yes hg h)
    have HISG := Lib.hid (fun (W : World) (h : BarsAt W W.heap.size A l) => specIsGraph' (P : Int) l A cap W h hn)
    rw [hg] at HISG
    have HKL := Lib.hid (fun (k : Nat) => comK_len (P : Int) l P k)
    have HKR := Lib.hid (fun (k : Nat) => comK_rows (P : Int) l P k)
    clear hg hG
    go_enter Try.func12, Try.ntmps12
    go_wp2_with fail
    generalize ((w.alloc (.cells #[.int .i64 (P : Int), .slice A l.length cap] 30)).alloc (.cells #[] 61)) = w2 at *
    generalize (w.alloc (.cells #[.int .i64 (P : Int), .slice A l.length cap] 30)) = w1 at *
    go_loopw [3, 4] (fun o i wr => ∃ (k T lo hi : Nat) (A' : Option Addr) (c' : Nat), k ≤ l.length ∧ i = .int .i64 k ∧ o = .slice A' (comK (P : Int) l P k).length c' ∧ RowsG wr w1.heap.size T lo hi A' c' (comK (P : Int) l P k) ∧ Below w1.heap.size w1 wr) (fun _ i _ => l.length - (intOf i).toNat)
    case atStart => exact ⟨0, w1.heap.size + 1, w1.heap.size, w1.heap.size + 1, some ⟨w.heap.size + 1, 0, none⟩, 0, by omega, rfl, rfl, by rw [← HS1.out]; exact RG.out, HA2.out⟩
    case round =>
      obtain ⟨k, T, lo, hi, A', c', hk, rfl, rfl, hrg, hb⟩ := hrel
      have HB := Lib.hid hb
      have BXR := Lib.hid (BX1.out.kept hb)
      have HLR := Lib.hid (HL1.out.on hb)
      have hkl := HKL.out k
      have hkr := HKR.out k
      have HK1 := Lib.hid (show comK (P : Int) l P (k + 1) = addU (comK (P : Int) l P k) (cobK (P : Int) l (l.getD k (0, 0)) P) from rfl)
      have HKE := Lib.hid (show k = l.length → comV (P : Int) l = comK (P : Int) l P k from fun e => by rw [e]; exact HR.out)
      obtain ⟨ys, hys⟩ : ∃ ys, comK (P : Int) l P k = ys := ⟨_, rfl⟩
      rw [hys] at hrg hkl hkr HK1 HKE ⊢
      have HRG := Lib.hid hrg
      have HKRR := Lib.hid hkr
      clear hb hrg hys hkr
      obtain ⟨g0, g1, g2⟩ := BXR.out
      by_cases hlt : k < l.length
      · have hi' : (k : Int) < (l.length : Int) := by omega
        have HCV := Lib.hid (HCOB.out k hlt)
        go_wp2_with fail
        refine (HISG.out _ HLR.out).mono ?_
        rintro e w3 ⟨rfl, hb3⟩
        have HB3 := Lib.hid (below_on HB.out hb3 HB.out.size)
        have HRG3 := Lib.hid (HRG.out.below hb3)
        clear hb3 g0 g1 g2
        obtain ⟨g0, g1, g2⟩ := BX1.out.kept HB3.out
        go_wp2_with fail
        refine (specCob (P : Int) (k : Int) l A cap _ (HL1.out.on HB3.out) hn).mono ?_
        rintro e w4 ⟨Ax, cx, rfl, hx, hb4⟩
        rw [HCV.out] at hx ⊢
        obtain ⟨x, hxe⟩ : ∃ x, cobK (P : Int) l (l.getD k (0, 0)) P = x := ⟨_, rfl⟩
        rw [hxe] at hx HK1 ⊢
        have HX4 := Lib.hid hx
        have HB4 := Lib.hid (below_on HB3.out hb4 HB3.out.size)
        have HRG4 := Lib.hid (HRG3.out.below hb4)
        have HTOP := Lib.hid (show T ≤ w3.heap.size from HRG3.out.top)
        clear hb4 hx hxe g0 g1 g2
        go_wp2_with fail
        go_loopw [6, 7] (fun f i wq => ∃ j : Nat, j ≤ ys.length ∧ i = .int .i64 j ∧ f = .bool (decide (x ∈ ys.take j)) ∧ Below w4.heap.size w4 wq) (fun _ i _ => ys.length - (intOf i).toNat)
        case atStart => exact ⟨0, by omega, rfl, by simp, Below.refl _ _⟩
        case round =>
          obtain ⟨j, hj, rfl, rfl, hb⟩ := hrel
          have HBI := Lib.hid hb
          have HRGI := Lib.hid (HRG4.out.below hb)
          have HXI := Lib.hid (HX4.out.within (within_of hb) (.inr (Nat.zero_le _)))
          clear hb
          by_cases hjl : j < ys.length
          · have hij : (j : Int) < (ys.length : Int) := by omega
            have HTM := Lib.hid (take_mem ys x j hjl)
            cases hf : decide (x ∈ ys.take j) with
            | true =>
              rw [hf] at HTM
              clear hf
              go_wp2_with fail
              go_roundw
              case rel => exact ⟨j + 1, by omega, by go_num, by rw [HTM.out]; rfl, HBI.out⟩
              case measure => simp [intOf]; omega
            | false =>
              rw [hf] at HTM
              clear hf
              obtain ⟨b, off, rfl, _, _, hcell⟩ := HRGI.out.cells.reads.2 (by omega)
              obtain ⟨A1, c1, hc1, hi1⟩ := hcell j hjl
              have hz := HKRR.out (ys.getD j []) (by
                have := List.getElem_mem hjl
                rw [show ys.getD j [] = ys[j] by simp [List.getD, List.getElem?_eq_getElem hjl]]
                exact this)
              obtain ⟨zs, hzs⟩ : ∃ zs, ys.getD j [] = zs := ⟨_, rfl⟩
              rw [hzs] at hc1 hi1 hz HTM
              have HI1 := Lib.hid hi1
              clear hcell hi1 hzs
              go_wp2_with fail
              refine (same6_c zs x A1 Ax c1 cx _ _ _ _ _ HI1.out HXI.out.reads (by omega)).mono ?_
              rintro e w5 ⟨rfl, hb5⟩
              have HB5 := Lib.hid (below_on HBI.out hb5 HBI.out.size)
              clear hb5
              go_wp2_with fail
              go_roundw
              case rel => exact ⟨j + 1, by omega, by go_num, by rw [HTM.out]; rfl, HB5.out⟩
              case measure => simp [intOf]; omega
          · obtain rfl : j = ys.length := by omega
            rw [List.take_length]
            have HBQ := Lib.hid (below_on HB4.out HBI.out HB4.out.size)
            by_cases hm : x ∈ ys
            · have HAD := Lib.hid (show comK (P : Int) l P (k + 1) = ys by rw [HK1.out, addU_in hm])
              have hd : decide (x ∈ ys) = true := decide_eq_true hm
              rw [hd]
              clear hm hd
              go_wp2_with fail
              go_roundw
              case rel => exact ⟨k + 1, _, _, _, _, _, by omega, by go_num, by rw [HAD.out], by rw [HAD.out]; exact HRGI.out, HBQ.out⟩
              case measure => simp [intOf]; omega
            · have HAD := Lib.hid (show comK (P : Int) l P (k + 1) = ys ++ [x] by rw [HK1.out, addU_out hm])
              have hd : decide (x ∈ ys) = false := decide_eq_false hm
              rw [hd]
              clear hm hd
              obtain ⟨zs, r, S, z1, z2, z3, z4⟩ := HRGI.out.rows
              have HZ1 := Lib.hid z1
              have HZ2 := Lib.hid z2
              have HZ3 := Lib.hid (show RowsP _ w1.heap.size T lo hi zs ys from ⟨r, S, z3, z4⟩)
              have HLO := Lib.hid (show lo ≤ _ from Nat.le_trans HRGI.out.out.2.1 HRGI.out.top)
              have HOB := Lib.hid (HRGI.out.out.1)
              clear z1 z2 z3 z4
              go_wp2_with (at_builtin; refine wpList_pushS _ rfl _ _ rfl lo hi A' c' zs (.slice Ax x.length cx) rfl (by rw [HZ1.out]; rfl) HZ2.out _ rfl (by have := HZ1.out; omega) HLO.out ?_; intro A2 c2 w6 lo2 hi2 ho2 hd2 hw2; have HO6 := Lib.hid ho2; have HD6 := Lib.hid hd2; have HW6 := Lib.hid hw2; clear ho2 hd2 hw2)
              have HRG6 := Lib.hid (HRGI.out.push (q := (w3.heap.size, w4.heap.size)) HXI.out HTOP.out HZ1.out HZ3.out HO6.out HD6.out HW6.out)
              go_roundw
              case rel => exact ⟨k + 1, _, _, _, _, _, by omega, by go_num, by rw [HAD.out, List.length_append, HZ1.out]; rfl, by rw [HAD.out]; exact HRG6.out, within_on HBQ.out HW6.out HBQ.out.size (.inl HOB.out)⟩
              case measure => simp [intOf]; omega
      · obtain rfl : k = l.length := by omega
        have HE := Lib.hid (HKE.out rfl)
        go_wp2_with fail
        go_ret
        have hq := HB.out.size
        have hs1 := HS1.out
        refine ⟨A', c', by rw [HE.out] <;> rfl, ?_, below_on HA1.out HB.out HA1.out.size⟩
        rw [HE.out]
        exact (HRG.out.cells.reads).widen (by omega) HRG.out.top (Nat.le_refl _)
end Go.Proofs.Ytggibhhdnlifcaa
/- What (*Pebbles).pull does: a search by breadth for a free pebble, and the path turned round. No condition. -/
namespace Go.Proofs.Ytggibhhdnlifcaa
open Go.RowKit

set_option maxHeartbeats 8000000 in
set_option maxRecDepth 100000 in
theorem pull_c (P : Nat) (k0 : Int) (l : List (Int × Int)) (A : Option Addr) (cap pb : Nat) (f t z : Nat × Nat) (AF AT AZ : Option Addr) (cF cT cZ : Nat) (F T Z : List Int) (a b : Int) (gT : Nat) (w : World) (hS : PebS P k0 (plE l Z) F T) (hP : 1 ≤ P ∧ P ≤ 8) (hk0 : k0 ≤ 3) (hn : l.length ≤ 24) (hz24 : Z.length ≤ 24)
    (hZ : ∀ i, i < Z.length → 0 ≤ Z.getD i 0 ∧ Z.getD i 0 < (l.length : Int)) (ha : 0 ≤ a ∧ a < (P : Int)) (hb : 0 ≤ b ∧ b < (P : Int)) (hl : BarsAt w w.heap.size A l) (hst : Cel3 w pb 63 (.slice AF F.length cF) (.slice AT T.length cT) (.slice AZ Z.length cZ)) (ho : OwnF w f t z AF cF AT cT AZ cZ F T Z) (hgT : 0 < T.length → AT = some ⟨gT, 0, none⟩) (hpf : pb < f.1 ∨ f.2 ≤ pb) (hpt : pb < t.1 ∨ t.2 ≤ pb) :
    Calls Try.prog 181 #[.pointer (some ⟨pb, 0, none⟩), .agg #[.int .i64 (P : Int), .slice A l.length cap], .int .i64 a, .int .i64 b] w (PullP w f t z AF cF AT cT AZ cZ (plE l Z) F T Z a b) := by
  have hFl := hS.flen
  have hTl : T.length = Z.length := by rw [hS.ends.len, plE_len]
  obtain ⟨gF, rfl, _, _⟩ := ho.fst (by omega)
  have hhi := ho.hi
  have HE := Lib.hid (show ∀ i, i < Z.length → (plE l Z).getD i (0, 0) = l.getD (Z.getD i 0).toNat (0, 0) from fun i hi => plE_get l Z i hi)
  have HG := Lib.hid (fun k => bfs_good (T := T) hS.ends ha.1 ha.2 k)
  have HS := Lib.hid hS
  have HZ := Lib.hid hZ
  have HGT := Lib.hid hgT
  have HEL := Lib.hid (plE_len l Z)
  generalize plE l Z = E at *
  have HI := Lib.hid (show PullI w (((w.alloc (.cells #[.int .i64 (P : Int), .slice A l.length cap] 30)).alloc (.cells #[.pointer none, .pointer none, .pointer none, .pointer none, .pointer none, .pointer none, .pointer none, .pointer none] 195)).alloc (.cells #[.int .i64 a] 3)) pb f t z (P : Int) A cap l (some ⟨gF, 0, none⟩) cF AT cT AZ cZ F T Z a gT [(a, 0)] [(a, 0)] (.slice (some ⟨w.heap.size + 1 + 1, 0, none⟩) 1 1) from by
    have b1 := new_below w (.cells #[.int .i64 (P : Int), .slice A l.length cap] 30)
    have b2 := new_below (w.alloc (.cells #[.int .i64 (P : Int), .slice A l.length cap] 30)) (.cells #[.pointer none, .pointer none, .pointer none, .pointer none, .pointer none, .pointer none, .pointer none, .pointer none] 195)
    have b3 := new_below ((w.alloc (.cells #[.int .i64 (P : Int), .slice A l.length cap] 30)).alloc (.cells #[.pointer none, .pointer none, .pointer none, .pointer none, .pointer none, .pointer none, .pointer none, .pointer none] 195)) (.cells #[.int .i64 a] 3)
    have s1 : (w.alloc (.cells #[.int .i64 (P : Int), .slice A l.length cap] 30)).heap.size = w.heap.size + 1 := by simp
    have s2 : ((w.alloc (.cells #[.int .i64 (P : Int), .slice A l.length cap] 30)).alloc (.cells #[.pointer none, .pointer none, .pointer none, .pointer none, .pointer none, .pointer none, .pointer none, .pointer none] 195)).heap.size = w.heap.size + 1 + 1 := by simp
    have hball := below_on (below_on b1 b2 b1.size) b3 (by omega)
    have hr := World.ownsRow_lit (base := w.heap.size + 1 + 1) (e := 3) (size := 1) ((w.alloc (.cells #[.int .i64 (P : Int), .slice A l.length cap] 30)).alloc (.cells #[.pointer none, .pointer none, .pointer none, .pointer none, .pointer none, .pointer none, .pointer none, .pointer none] 195)) #[.int .i64 a] 1 (by omega) (by unfold maxLen; omega) (by simp)
    rw [s2] at hr
    have ha1 := heap_alloc_new (w.alloc (.cells #[.int .i64 (P : Int), .slice A l.length cap] 30)) (.cells #[.pointer none, .pointer none, .pointer none, .pointer none, .pointer none, .pointer none, .pointer none, .pointer none] 195)
    rw [s1] at ha1
    have hae : (arrL gT a [(a, 0)]) = [.pointer none, .pointer none, .pointer none, .pointer none, .pointer none, .pointer none, .pointer none, .pointer none] := by
      have h0 : ∀ v : Int, arrV gT a [(a, 0)] v = .pointer none := fun v => arrV_none (by by_cases e : v = a; exact .inr e; exact .inl (by simpa using e))
      unfold arrL
      simp only [h0]
      rfl
    exact ⟨hst.within (within_of hball) (.inr (Nat.zero_le _)), ho.below hball, ((box_new w (P : Int) (.slice A l.length cap) 30).kept b2).kept b3, (bars_in hl).within (within_of hball) (.inr (Nat.zero_le _)), by rw [hae]; exact (b3.block _ (by omega)).trans ha1, hr, hball, hst.lt, hhi.1, hhi.2.1, hhi.2.2⟩)
  clear hS hZ hgT hst ho hl
  go_enter Try.func181, Try.ntmps181
  go_wp2_with fail
  generalize (((w.alloc (.cells #[.int .i64 (P : Int), .slice A l.length cap] 30)).alloc (.cells #[.pointer none, .pointer none, .pointer none, .pointer none, .pointer none, .pointer none, .pointer none, .pointer none] 195)).alloc (.cells #[.int .i64 a] 3)) = w1 at *
  go_loopw [10, 11] (fun qv i wr => ∃ k : Nat, k ≤ (bfs E T a k).length ∧ i = .int .i64 k ∧ (∀ y ∈ (bfs E T a k).take k, givesB F a b y = false) ∧ PullI w wr pb f t z (P : Int) A cap l (some ⟨gF, 0, none⟩) cF AT cT AZ cZ F T Z a gT (bfs E T a k) (bfs E T a k) qv) (fun _ i _ => 9 - (intOf i).toNat)
  case atStart => exact ⟨0, Nat.zero_le _, rfl, fun y hy => (by simp at hy), HI.out⟩
  case round =>
    clear HI
    obtain ⟨k, hk, rfl, hno, hin⟩ := hrel
    have HIN := Lib.hid hin
    have HNO := Lib.hid hno
    have hshort := (HG.out k).short
    obtain ⟨A', c', rfl⟩ := own_shape hin.row
    clear hno
    by_cases hlt : k < (bfs E T a k).length
    · have hki : (k : Int) < ((bfs E T a k).length : Int) := by omega
      obtain ⟨gq, rfl⟩ : ∃ gq, A' = some ⟨gq, 0, none⟩ := by
        rcases hin.row.2 with ⟨_, e0⟩ | ⟨g, _, _, e, _⟩
        · omega
        · cases e
          exact ⟨g, rfl⟩
      have hq := (hin.row.cellAt k (show k < (bfs E T a k).length * 1 by omega)).trans (intCells_get ((bfs E T a k).map Prod.fst) k (by simpa using hlt))
      rw [map_fst_getD _ k hlt] at hq
      have hrg := (HG.out k).range ha k hlt
      have HFI := Lib.hid (fun hg : givesB F a b ((bfs E T a k).getD k (0, 0)) = true => find_impl k hlt (by omega) HNO.out hg)
      have HNX := Lib.hid (fun hg : givesB F a b ((bfs E T a k).getD k (0, 0)) = false => no_step hlt HNO.out hg)
      have HSC := Lib.hid (show bfs E T a (k + 1) = scanN E T ((bfs E T a k).getD k (0, 0)).1 (bfs E T a k) E.length by rw [bfs_succ, if_pos hlt])
      have HMEM := Lib.hid (getD_mem_fst _ k hlt)
      obtain ⟨gc0, gc1, gc2, _, _, _⟩ := hin.st.cells
      have hgb : givesB F a b ((bfs E T a k).getD k (0, 0)) = (decide (((bfs E T a k).getD k (0, 0)).1 ≠ a) && decide (((bfs E T a k).getD k (0, 0)).1 ≠ b) && decide (0 < F.getD ((bfs E T a k).getD k (0, 0)).1.toNat 0)) := rfl
      obtain ⟨fb, fo, hfb, hfc⟩ := row_at hin.own.reads.f (by omega)
      cases hfb
      obtain ⟨x, hx⟩ : ∃ x, (bfs E T a k).getD k (0, 0) = x := ⟨_, rfl⟩
      rw [hx] at hq hrg HFI HNX HSC HMEM hgb
      obtain ⟨v, i⟩ := x
      simp only at hq hrg hgb
      obtain ⟨n, rfl⟩ : ∃ n : Nat, v = (n : Int) := ⟨v.toNat, by omega⟩
      rw [Int.toNat_natCast] at hgb
      have hnF : (n : Int) < (F.length : Int) := by omega
      have hnP : n < P := by omega
      have hfn := hfc n (by omega)
      rw [Nat.zero_add] at hfn
      have HFC := Lib.hid hfc
      have HX := Lib.hid hx
      clear hfc hx
      by_cases hg : givesB F a b ((n : Int), i) = true
      · rw [hg] at hgb
        have hgb' := hgb.symm
        simp only [Bool.and_eq_true, decide_eq_true_eq] at hgb'
        obtain ⟨⟨g1, g2⟩, g3⟩ := hgb'
        obtain ⟨q1, r, hQ⟩ := HFI.out hg
        have hpk := (HG.out k).path
        have hTpos : 0 < T.length := by
          obtain ⟨_, _, _, _, _, _, hiE, _⟩ := hpk.at HMEM.out g1
          have := HEL.out
          omega
        obtain ⟨d, hd⟩ : ∃ d, d = F.getD n 0 := ⟨_, rfl⟩
        obtain ⟨d2, hd2⟩ : ∃ d2, d2 = F.getD a.toNat 0 := ⟨_, rfl⟩
        rw [← hd] at g3 hfn
        obtain ⟨gF', gT', e1, e2, b1, b3, hst3⟩ := hin.own.open_ (by omega) hTpos
        cases e1
        have e3 := HGT.out hTpos
        rw [e2] at e3
        cases e3
        cases e2
        obtain ⟨_, hf2⟩ := hst3.cellF n (by omega)
        have hst4 := hst3.setF n (d - 1)
        have han : a.toNat ≠ n := by omega
        have haF : a.toNat < F.length := by omega
        obtain ⟨hf3, hf4⟩ := hst4.cellF a.toNat (by rw [List.length_set]; omega)
        rw [set_getD_ne _ _ _ _ _ han, ← hd2] at hf3
        have hst5 := hst4.setF a.toNat (d2 + 1)
        have hw1 := within_set wr gF n (.int .i64 (d - 1))
        have hw2 := within_set (wr.setCell ⟨gF, n, none⟩ (.int .i64 (d - 1))) gF a.toNat (.int .i64 (d2 + 1))
        have hlo := hin.low
        have hc1 := (hin.st.within hw1 (by omega)).cells.1
        have harr := (hw2.block _ (Nat.lt_of_lt_of_le (Array.getElem?_eq_some_iff.1 hin.arr).1 hw1.size) (by omega)).trans ((hw1.block _ (Array.getElem?_eq_some_iff.1 hin.arr).1 (by omega)).trans hin.arr)
        have hrb1 := (Array.getElem?_eq_some_iff.1 harr).1
        have hmove : (F.set n (d - 1)).set a.toNat (d2 + 1) = movF F a (n : Int) := by unfold movF; rw [Int.toNat_natCast, hd, hd2]
        rw [hmove] at hst5
        have HST5 := Lib.hid hst5
        have HARR := Lib.hid harr
        have HWW := Lib.hid (And.intro hw1 hw2)
        have HBB := Lib.hid (show (f.1 ≤ gF ∧ gF < f.2) ∧ (t.1 ≤ gT ∧ gT < t.2) from ⟨b1, b3⟩)
        have HDS := Lib.hid hin.own.2.2
        have HTI := Lib.hid (show TurnI P E T a (bfs E T a k) (turnQ E a (bfsQ E T a).reverse (n : Int) T) (n : Int) T from by
          have e0 : bfs E T a k = ((bfs E T a k).take k ++ [((n : Int), i)]) ++ (bfs E T a k).drop (k + 1) := by rw [← HX.out, ← take_snoc_getD _ _ hlt, List.take_append_drop]
          have hnd := (HG.out (max E.length 8)).path.nodup (show bfs E T a (max E.length 8) = (bfs E T a k).take k ++ ((n : Int), i) :: r from hQ)
          have hp1 : PathQ P E T a ((bfs E T a k).take k ++ [((n : Int), i)]) := PathQ.pre (r := (bfs E T a k).drop (k + 1)) (by rw [← e0]; exact hpk) (by simp)
          have := TurnI.start (r := (bfs E T a k).drop (k + 1)) HS.out.ends hp1 (show (n : Int) ∈ _ by simp)
          rw [← e0] at this
          rw [hQ, turn_prefix (x := ((n : Int), i)) T hnd]
          exact this)
        have HFM := Lib.hid (show findM E a b (F, T) = some (movF F a (n : Int), turnQ E a (bfsQ E T a).reverse (n : Int) T) by
          show Option.map _ ((bfsQ E T a).find? (givesB F a b)) = _
          rw [q1]
          rfl)
        have hfv := HS.out.small (v := (n : Int)) (by omega)
        have hfa := HS.out.small (v := a) ha
        rw [Int.toNat_natCast, ← hd] at hfv
        rw [← hd2] at hfa
        have hai : (a.toNat : Int) = a := by omega
        obtain ⟨an, han2⟩ : ∃ an : Nat, a.toNat = an := ⟨_, rfl⟩
        rw [han2] at hai hf3 hf4 HST5 HARR HWW han haF
        subst hai
        have haF2 : (an : Int) < (F.length : Int) := by omega
        clear hd hd2
        have e4 : ((n : Int) != (an : Int)) = true := by simpa using g1
        have e5 : ((n : Int) != b) = true := by simpa using g2
        have g3d : decide (0 < d) = true := by simpa using g3
        clear g1 g2 hQ q1 hpk hst3 hst4 hst5 harr hw1 hw2 hmove hgb hg hin
        go_wp2_with fail
        have HCE := Lib.hid (show ∀ x ∈ bfs E T (an : Int) k, x.1 ≠ (an : Int) → ((wr.setCell ⟨gF, n, none⟩ (.int .i64 (d - 1))).setCell ⟨gF, an, none⟩ (.int .i64 (d2 + 1))).cell? ⟨w.heap.size + 1, x.1.toNat, none⟩ = some (.pointer (some ⟨gT, x.2, none⟩)) from fun x hx hxa => by
          obtain ⟨_, _, _, _, _, _, _, _, _, h6, h7, _⟩ := (HG.out k).path.at (List.mem_map_of_mem hx) hxa
          have e := arrL_get gT (an : Int) (bfs E T an k) x.1.toNat (by omega)
          rw [show ((x.1.toNat : Nat) : Int) = x.1 by omega, arrV_at (HG.out k).path hx hxa] at e
          exact (cell_of_row _ _ _ _ _ _ HARR.out).trans (by simpa using e))
        refine (turnPath_c P E (movF F an n) T Z _ an n (bfs E T an k) (w.heap.size + 1) 0 gF cF gT cT cZ z.1 z.2 AZ _ HST5.out HTI.out (by omega) HCE.out (by have := HBB.out; have := HIN.out.low; omega) (Array.getElem?_eq_some_iff.1 HARR.out).1).mono ?_
        rintro e6 w6 ⟨rfl, hst6, hw6⟩
        have HST6 := Lib.hid hst6
        have HW6 := Lib.hid hw6
        clear hst6 hw6
        go_wp2_with fail
        go_ret
        have hbl := HIN.out.bel
        have hlow := HIN.out.low
        have hbb := HBB.out
        have hsz1 := HWW.out.1.size
        have hsz2 := HWW.out.2.size
        have hsz6 := HW6.out.size
        have hszb := hbl.size
        obtain ⟨oz, od1, od2, od3⟩ := HDS.out
        unfold Dis at od1 od2 od3
        have oz6 := ((oz.within HWW.out.1 (by omega)).within HWW.out.2 (by omega)).within HW6.out (by omega)
        exact ⟨(((Within2.of (within_of hbl) (.inl (Nat.le_refl 0))).trans (Within2.of HWW.out.1 (by omega))).trans (Within2.of HWW.out.2 (by omega))).trans (Within2.of HW6.out (by omega)), .inr ⟨_, rfl, HFM.out, HST6.out.ownF hbb.1 hbb.2 (by omega) (by omega) oz6 (by unfold Dis; omega) (by unfold Dis; omega) (by unfold Dis; omega)⟩⟩
      · have hgf : givesB F a b ((n : Int), i) = false := by simpa using hg
        have HNX2 := Lib.hid (HNX.out hgf)
        have HGS := Lib.hid (fun j (hj : j ≤ E.length) => (HG.out k).scan HS.out.ends HMEM.out j hj)
        obtain ⟨d, hd⟩ : ∃ d, F.getD n 0 = d := ⟨_, rfl⟩
        rw [hd] at hgb hfn
        have hcase : ((n : Int) != a) = false ∨ (((n : Int) != a) = true ∧ ((n : Int) != b) = false) ∨ (((n : Int) != a) = true ∧ ((n : Int) != b) = true ∧ decide (0 < d) = false) := by
          by_cases k1 : (n : Int) = a
          · exact .inl (by simpa using k1)
          · by_cases k2 : (n : Int) = b
            · exact .inr (.inl ⟨by simpa using k1, by simpa using k2⟩)
            · rw [hgf] at hgb
              exact .inr (.inr ⟨by simpa using k1, by simpa using k2, by simpa [k1, k2] using hgb.symm⟩)
        have hst := HIN.out.st
        obtain ⟨hc0, hc1, hc2, _, _, _⟩ := hst.cells
        clear hgb hg hin hd hst gc0 gc1 gc2
        rcases hcase with c1 | ⟨c1, c2⟩ | ⟨c1, c2, c3⟩
        all_goals (
          go_wp2_with fail
          clear hc0 hc1 hc2
          go_loopw [10, 71] (fun qv jv wr' => ∃ j : Nat, j ≤ Z.length ∧ jv = .int .i64 j ∧ PullI w wr' pb f t z (P : Int) A cap l (some ⟨gF, 0, none⟩) cF AT cT AZ cZ F T Z a gT (scanN E T (n : Int) (bfs E T a k) j) (scanN E T (n : Int) (bfs E T a k) j) qv) (fun _ jv _ => Z.length - (intOf jv).toNat)
          case atStart => exact ⟨0, Nat.zero_le _, rfl, HIN.out⟩
          case round =>
            obtain ⟨j, hj, rfl, hin2⟩ := hrel
            have HIN2 := Lib.hid hin2
            obtain ⟨A2, c2', rfl⟩ := own_shape hin2.row
            obtain ⟨hc0, hc1, hc2, _, _, _⟩ := hin2.st.cells
            by_cases hlt2 : j < Z.length
            · have hji : (j : Int) < (Z.length : Int) := by omega
              have hjt : (j : Int) < (T.length : Int) := by omega
              obtain ⟨gF', gT', e1, e2, _, _, hst3⟩ := hin2.own.open_ (by omega) (by omega)
              cases e1
              have e3 := HGT.out (by omega)
              rw [e2] at e3
              cases e3
              cases e2
              have ht := (hst3.cellT j (by omega)).1
              obtain ⟨zb, zo, rfl, hzc⟩ := row_at hin2.own.reads.z (by omega)
              have hz := hzc j hlt2
              have HSN := Lib.hid (show scanN E T (n : Int) (bfs E T a k) (j + 1) = scan1 E T (n : Int) (scanN E T (n : Int) (bfs E T a k) j) j from rfl)
              obtain ⟨t, htd⟩ : ∃ t, T.getD j 0 = t := ⟨_, rfl⟩
              rw [htd] at ht
              clear hin2 hst3 hzc
              by_cases c5 : t = (n : Int)
              · subst c5
                have d5 : ((n : Int) != (n : Int)) = false := by simp
                obtain ⟨hz0, hz1⟩ := HZ.out j hlt2
                have hEj := HE.out j hlt2
                have hend := HS.out.ends.tail j (by rw [HEL.out]; exact hlt2)
                have hoth := HS.out.ends.oth_in (by rw [HEL.out]; exact hlt2) htd
                obtain ⟨gs, gm⟩ := HGS.out j (by rw [HEL.out]; omega)
                have hsh := gs.short
                rw [htd] at hend
                rw [hEj] at hend hoth
                obtain ⟨m, hm⟩ : ∃ m : Nat, Z.getD j 0 = (m : Int) := ⟨(Z.getD j 0).toNat, by omega⟩
                rw [hm] at hz hz0 hz1 hend hoth hEj
                rw [Int.toNat_natCast] at hend hoth hEj
                obtain ⟨bb, boff, rfl, _, hbc⟩ := HIN2.out.bars.at (by omega)
                have hx1 := (hbc m (by omega)).1
                have hx2 := (hbc m (by omega)).2
                obtain ⟨x, hxd⟩ : ∃ x, l.getD m (0, 0) = x := ⟨_, rfl⟩
                rw [hxd] at hx1 hx2 hend hoth hEj
                obtain ⟨x1, x2⟩ := x
                simp only at hx1 hx2
                obtain ⟨o, ho⟩ : ∃ o : Nat, oth (x1, x2) (n : Int) = (o : Int) := ⟨(oth (x1, x2) (n : Int)).toNat, by omega⟩
                rw [ho] at hoth
                have HO := Lib.hid ho
                have HEN := Lib.hid hend
                have HS1 := Lib.hid (show scan1 E T (n : Int) (scanN E T (n : Int) (bfs E T a k) j) j = if (o : Int) ∉ (scanN E T (n : Int) (bfs E T a k) j).map Prod.fst then (scanN E T (n : Int) (bfs E T a k) j) ++ [((o : Int), j)] else (scanN E T (n : Int) (bfs E T a k) j) by
                  unfold scan1
                  rw [htd, hEj, ho]
                  by_cases h : (o : Int) ∈ (scanN E T (n : Int) (bfs E T a k) j).map Prod.fst
                  · rw [if_neg (fun q => q.2 h), if_neg (fun q => q h)]
                  · rw [if_pos ⟨rfl, h⟩, if_pos h])
                have HGJ := Lib.hid gs
                have ho8 : o < 8 := by omega
                have ho8i : (o : Int) < 8 := by omega
                have hoP := hoth.1
                obtain ⟨_, gx0, gx1⟩ := HIN2.out.box
                have hmi : (m : Int) < (l.length : Int) := hz1
                clear hbc hxd ho hend hEj hm gs gm htd hz0 hoth
                by_cases c6 : (o : Int) = a
                · have d6 : ((o : Int) != a) = false := by simpa using c6
                  have HQ := Lib.hid (show (scanN E T (n : Int) (bfs E T a k) j) = scanN E T (n : Int) (bfs E T a k) (j + 1) by
                    rw [HSN.out, HS1.out, if_neg]
                    obtain ⟨r, e⟩ := HGJ.out.start
                    rw [e, c6]; simp)
                  clear c6
                  go_wp2_with (go_at_call 199; refine (otherEnd_c (x1, x2) (n : Int) _ HEN.out).mono ?_; rintro e w5 ⟨rfl, hb⟩; rw [HO.out]; have HIN5 := Lib.hid (HIN2.out.below hb); obtain ⟨hd0, hd1, hd2, _, _, _⟩ := HIN5.out.st.cells; have hfz := frozen_of_row _ _ o _ _ HIN5.out.arr; clear hb hc0 hc1 hc2)
                  go_roundw
                  case rel => exact ⟨j + 1, by omega, by go_num, by rw [← HQ.out]; exact HIN5.out⟩
                  case measure => simp [intOf]; omega
                · have d6 : ((o : Int) != a) = true := by simpa using c6
                  by_cases c7 : (o : Int) ∈ (scanN E T (n : Int) (bfs E T a k) j).map Prod.fst
                  · have HQ := Lib.hid (show (scanN E T (n : Int) (bfs E T a k) j) = scanN E T (n : Int) (bfs E T a k) (j + 1) by rw [HSN.out, HS1.out, if_neg]; simpa using c7)
                    obtain ⟨g7, j7, hv7⟩ := arrV_some (gT := gT) c7 c6
                    have HV := Lib.hid hv7
                    clear c6 c7 hv7
                    go_wp2_with (go_at_call 199; refine (otherEnd_c (x1, x2) (n : Int) _ HEN.out).mono ?_; rintro e w5 ⟨rfl, hb⟩; rw [HO.out]; have HIN5 := Lib.hid (HIN2.out.below hb); obtain ⟨hd0, hd1, hd2, _, _, _⟩ := HIN5.out.st.cells; have hfz := frozen_of_row _ _ o _ _ HIN5.out.arr; have har := (cell_of_row _ _ o _ _ _ HIN5.out.arr).trans (by simpa using (arrL_get gT a (scanN E T (n : Int) (bfs E T a k) j) o ho8).trans (congrArg some HV.out)); clear hb hc0 hc1 hc2)
                    go_roundw
                    case rel => exact ⟨j + 1, by omega, by go_num, by rw [← HQ.out]; exact HIN5.out⟩
                    case measure => simp [intOf]; omega
                  · have HQ := Lib.hid (show (scanN E T (n : Int) (bfs E T a k) j) ++ [((o : Int), j)] = scanN E T (n : Int) (bfs E T a k) (j + 1) by rw [HSN.out, HS1.out, if_pos c7])
                    have HV := Lib.hid (arrV_none (gT := gT) (a := a) (.inl c7))
                    have HNI := Lib.hid c7
                    have HNA := Lib.hid c6
                    clear c6 c7
                    go_wp2_with (first
                      | (go_at_call 199; refine (otherEnd_c (x1, x2) (n : Int) _ HEN.out).mono ?_; rintro e w5 ⟨rfl, hb⟩; rw [HO.out]; have HIN5 := Lib.hid (HIN2.out.below hb); obtain ⟨hd0, hd1, hd2, _, _, _⟩ := HIN5.out.st.cells; have hfz := frozen_of_row _ _ o _ _ HIN5.out.arr; have har := (cell_of_row _ _ o _ _ _ HIN5.out.arr).trans (by simpa using (arrL_get gT a (scanN E T (n : Int) (bfs E T a k) j) o ho8).trans (congrArg some HV.out)); clear hb hc0 hc1 hc2; have HR3 := Lib.hid (HIN5.out.reach o j ho8 HNI.out HNA.out); have hbs := (Array.getElem?_eq_some_iff.1 HR3.out.arr).1)
                      | (at_builtin; go_loud (refine wpList_at _ rfl _ _ 61 rfl (w.heap.size + 1 + 1) 3 (.int .i64 0) 1 8 Try.underlying61 infoInt rfl (by decide) _ _ _ rfl HR3.out.row #[.int .i64 (o : Int)] 1 rfl (by simp [Value.oneCell']) _ 1 (by simp only [World.size_setCell]; rfl) (by omega) (by unfold maxLen; omega) hbs ?_; intro v' w' ho hg _ _; obtain ⟨A3, c3', rfl⟩ := own_shape ho; have HN := Lib.hid (HR3.out.push ((o : Int), j) ho hg); clear ho hg)))
                    go_roundw
                    case rel => exact ⟨j + 1, by omega, by go_num, by rw [← HQ.out]; exact HN.out⟩
                    case measure => simp [intOf]; omega
              · have d5 : (t != (n : Int)) = true := by simpa using c5
                have HQ := Lib.hid (show (scanN E T (n : Int) (bfs E T a k) j) = scanN E T (n : Int) (bfs E T a k) (j + 1) by rw [HSN.out]; unfold scan1; rw [htd, if_neg]; exact fun h => c5 h.1)
                clear c5 htd
                go_wp2_with fail
                go_roundw
                case rel => exact ⟨j + 1, by omega, by go_num, by rw [← HQ.out]; exact HIN2.out⟩
                case measure => simp [intOf]; omega
            · obtain rfl : j = Z.length := by omega
              have hji : ¬ (Z.length : Int) < (Z.length : Int) := by omega
              clear hin2
              go_wp2_with fail
              go_roundw
              case rel => exact ⟨k + 1, by rw [HSC.out]; obtain ⟨r, e⟩ := scanN_pre E T (n : Int) (bfs E T a k) E.length; rw [e, List.length_append]; omega, by go_num, HNX2.out, by rw [HSC.out, HEL.out]; exact HIN2.out⟩
              case measure => simp [intOf]; omega)
    · have hkl : k = (bfs E T a k).length := by omega
      have HF := Lib.hid (find_no (E := E) (T := T) (F := F) (a := a) (b := b) k (by omega) (by omega) (by rw [← List.take_of_length_le (l := bfs E T a k) (i := k) (by omega)]; exact HNO.out))
      have hki : ¬ (k : Int) < ((bfs E T a k).length : Int) := by omega
      clear hin hkl
      go_wp2_with fail
      go_ret
      exact ⟨Within2.of (within_of HIN.out.bel) (.inl (Nat.le_refl 0)), .inl ⟨rfl, by show Option.map _ ((bfsQ E T a).find? (givesB F a b)) = none; rw [HF.out]; rfl, HIN.out.own⟩⟩
end Go.Proofs.Ytggibhhdnlifcaa
/- What stands while pebbles are gathered in a state of the call's own. No program's walk. No condition. -/
namespace Go.Proofs.Ytggibhhdnlifcaa
open Go.RowKit

/-- A row of the call's own is overwritten by a row of the same length. -/
theorem wpList_back {w : World} {ops : Array Oper} {rest : List Oper} {o : Oper} {a : Act} {Q : Exit → Act → World → Prop} (hgd : o.guard = none) (d s : Operand)
    (ho : o.op = .call { callee := .builtin .copy, args := #[d, s], argTypes := #[61, 61] }) (A AS : Option Addr) (zs ys : List Int) (cd cs lo hi lo2 hi2 n : Nat) (hd : a.eval d = .slice A n cd) (hs : a.eval s = .slice AS ys.length cs)
    (hz : OwnR w lo hi A cd zs) (hy : IntsIn w lo2 hi2 AS ys) (hl : ys.length = zs.length) (hnz : n = zs.length)
    (h : ∀ w', OwnR w' lo hi A cd ys → Within lo hi w w' → wpList Try.prog ops Q rest (a.put o.dst (goInt ys.length)) w') : wpList Try.prog ops Q (o :: rest) a w := by
  subst hnz
  have hu := Try.underlying61
  have hsz : (Try.prog.info? 3).map (·.size) = some 1 := by kernel_rfl
  by_cases h0 : ys.length = 0
  · have hy0 : ys = [] := List.eq_nil_of_length_eq_zero h0
    refine wpList_copy_nothing hgd d s _ _ ho 3 hu hsz A AS zs.length cd ys.length cs hd hs (by rw [h0]; simp) ?_
    have hz0 : zs = [] := List.eq_nil_of_length_eq_zero (by rw [← hl]; exact h0)
    have := h w (by rw [hy0]; rw [hz0] at hz; exact hz) (Within.refl _ _ _)
    rw [h0] at this
    exact this
  · rcases hz.2 with ⟨_, _, e⟩ | ⟨g, rfl, g1, g2, hr⟩
    · exact absurd (by rw [hl, e]; rfl) h0
    · obtain ⟨b, off, rfl, _, _, hc⟩ := hy.2 (by omega)
      rcases hr.2 with ⟨e0, _⟩ | ⟨g', cap', cur, e1, hg1, hheap, n1, n2, n3, n4⟩
      · cases e0
      · cases e1
        have hcl : (intCells ys).length = ys.length := intCells_len ys
        refine wpList_copy_own hgd d s _ _ ho 3 hu hsz g 0 zs.length cd ⟨b, off, none⟩ ys.length cs hd hs cur _ hheap (intCells ys) (by rw [hcl, hl]; simp) ?_ (by rw [hcl]; omega) (intCells_one ys) ?_
        · intro j v hj
          have hjl : j < ys.length := by rw [← hcl]; exact (List.getElem?_eq_some_iff.1 hj).1
          have e := (hc j hjl).trans (intCells_get ys j hjl).symm
          rw [hj] at e
          have ha : (⟨b, off, none⟩ : Addr).add j = ⟨b, off + j, none⟩ := by unfold Addr.add; split <;> simp_all
          rw [ha]
          exact e
        · rw [hcl]
          have hset := setRow_heap w g _ ((cur.toList.take 0 ++ (intCells ys ++ cur.toList.drop (0 + ys.length))).toArray) _ _ hheap
          refine h _ ⟨?_, .inr ⟨g, rfl, g1, g2, ⟨by rw [hcl, Nat.mul_one], .inr ⟨g, cd, _, by rw [hl], hg1, hset, by omega, n2, ?_, ?_⟩⟩⟩⟩ ⟨rfl, rfl, rfl, ?_, fun k _ hd => setRow_other w g k _ (by omega)⟩
          · simpa [World.setRow] using hz.1
          · simp [hcl]; omega
          · simp [← hcl]
          · simp [World.setRow]
theorem Box.at {W W' : World} {b : Nat} {q : Int} {v : Value} (h : Box W b q v) {f t : Nat × Nat} (hw : Within2 f t W W') (h1 : b < f.1 ∨ f.2 ≤ b) (h2 : b < t.1 ∨ t.2 ≤ b) : Box W' b q v := by
  have hb := hw.block b h.1 h1 h2
  exact ⟨Nat.lt_of_lt_of_le h.1 hw.size, (World.cell?_of_block (a := ⟨b, 0, none⟩) hb).trans h.2.1, (World.cell?_of_block (a := ⟨b, 1, none⟩) hb).trans h.2.2⟩
/-- What gathering answers, and what it makes of the state. -/
def GathP (w : World) (f t z : Nat × Nat) (AF : Option Addr) (cF : Nat) (AT : Option Addr) (cT : Nat) (AZ : Option Addr) (cZ : Nat) (E : List (Int × Int)) (F T Z : List Int) (a b want : Int) (e : Ending) (w' : World) : Prop :=
  Within2 f t w w' ∧ ((e = .returned (.bool false) ∧ gathR E a b want (F, T) = none ∧ OwnF w' f t z AF cF AT cT AZ cZ F T Z) ∨ ∃ s', e = .returned (.bool true) ∧ gathR E a b want (F, T) = some s' ∧ OwnF w' f t z AF cF AT cT AZ cZ s'.1 s'.2 Z)
/-- Where gathering stands: the state, the graph's box, the copies. -/
structure GatI (w wr : World) (pb : Nat) (f t z : Nat × Nat) (mF nF mT nT : Nat) (p : Int) (A : Option Addr) (cap : Nat) (l : List (Int × Int)) (AF : Option Addr) (cF : Nat) (AT : Option Addr) (cT : Nat) (AZ : Option Addr) (cZ : Nat) (BF BT : Option Addr) (F0 T0 F T Z : List Int) : Prop where
  st : Cel3 wr pb 63 (.slice AF F0.length cF) (.slice AT T0.length cT) (.slice AZ Z.length cZ)
  own : OwnF wr f t z AF cF AT cT AZ cZ F T Z
  box : Box wr w.heap.size p (.slice A l.length cap)
  bars : BarsIn wr 0 w.heap.size A l
  cf : IntsIn wr mF nF BF F0
  ct : IntsIn wr mT nT BT T0
  wit : Within2 f t w wr
  low : pb < w.heap.size ∧ (f.2 ≤ w.heap.size ∧ t.2 ≤ w.heap.size) ∧ w.heap.size ≤ mF ∧ w.heap.size ≤ mT ∧ w.heap.size + 1 ≤ wr.heap.size
  outf : pb < f.1 ∨ f.2 ≤ pb
  outt : pb < t.1 ∨ t.2 ≤ pb
  bar : 0 < l.length → ∀ g off, A = some ⟨g, off, none⟩ → (g < f.1 ∨ f.2 ≤ g) ∧ (g < t.1 ∨ t.2 ≤ g)
/-- The state was written, and nothing else. -/
theorem GatI.next {w wr w' : World} {pb : Nat} {f t z : Nat × Nat} {mF nF mT nT : Nat} {p : Int} {A : Option Addr} {cap : Nat} {l : List (Int × Int)} {AF : Option Addr} {cF : Nat} {AT : Option Addr} {cT : Nat} {AZ : Option Addr} {cZ : Nat} {BF BT : Option Addr} {F0 T0 F T F' T' Z : List Int}
    (h : GatI w wr pb f t z mF nF mT nT p A cap l AF cF AT cT AZ cZ BF BT F0 T0 F T Z) (hw : Within2 f t wr w') (ho : OwnF w' f t z AF cF AT cT AZ cZ F' T' Z) : GatI w w' pb f t z mF nF mT nT p A cap l AF cF AT cT AZ cZ BF BT F0 T0 F' T' Z := by
  obtain ⟨l1, l2, l3, l4, l5⟩ := h.low
  refine ⟨h.st.at hw h.outf h.outt, ho, h.box.at hw (by omega) (by omega), ⟨Nat.le_trans h.bars.1 hw.size, fun hl => ?_⟩, h.cf.at hw (by omega) (by omega), h.ct.at hw (by omega) (by omega), h.wit.trans hw, ⟨l1, l2, l3, l4, Nat.le_trans l5 hw.size⟩, h.outf, h.outt, h.bar⟩
  obtain ⟨b, off, e, h1, h2, hc⟩ := h.bars.2 hl
  refine ⟨b, off, e, h1, h2, fun k hk => ?_⟩
  obtain ⟨q1, q2⟩ := h.bar hl b off e
  have hb := hw.block b (Nat.lt_of_lt_of_le h2 h.bars.1) q1 q2
  have e1 : ∀ o, w'.cell? ⟨b, o, none⟩ = wr.cell? ⟨b, o, none⟩ := fun o => World.cell?_of_block (a := ⟨b, o, none⟩) hb
  rw [e1, e1]
  exact hc k hk
theorem GatI.pull {w wr : World} {P pb : Nat} {f t z : Nat × Nat} {mF nF mT nT : Nat} {k0 : Int} {A : Option Addr} {cap : Nat} {l : List (Int × Int)} {AF : Option Addr} {cF : Nat} {AT : Option Addr} {cT : Nat} {AZ : Option Addr} {cZ : Nat} {BF BT : Option Addr} {F0 T0 F T Z : List Int} {a b : Int} {gT : Nat}
    (h : GatI w wr pb f t z mF nF mT nT (P : Int) A cap l AF cF AT cT AZ cZ BF BT F0 T0 F T Z) (hS0 : PebS P k0 (plE l Z) F0 T0) (hS : PebS P k0 (plE l Z) F T) (hP : 1 ≤ P ∧ P ≤ 8) (hk0 : k0 ≤ 3) (hn : l.length ≤ 24) (hz24 : Z.length ≤ 24)
    (hZ : ∀ i, i < Z.length → 0 ≤ Z.getD i 0 ∧ Z.getD i 0 < (l.length : Int)) (ha : 0 ≤ a ∧ a < (P : Int)) (hb : 0 ≤ b ∧ b < (P : Int)) (hgT : 0 < T0.length → AT = some ⟨gT, 0, none⟩) :
    Calls Try.prog 181 #[.pointer (some ⟨pb, 0, none⟩), .agg #[.int .i64 (P : Int), .slice A l.length cap], .int .i64 a, .int .i64 b] wr (PullP wr f t z AF cF AT cT AZ cZ (plE l Z) F T Z a b) := by
  have e1 : F.length = F0.length := by rw [hS.flen, hS0.flen]
  have e2 : T.length = T0.length := by rw [hS.ends.len, hS0.ends.len]
  have hst := h.st
  rw [← e1, ← e2] at hst
  rw [← e2] at hgT
  exact pull_c P k0 l A cap pb f t z AF AT AZ cF cT cZ F T Z a b gT wr hS hP hk0 hn hz24 hZ ha hb h.bars.at hst h.own hgT h.outf h.outt
theorem GatI.pull_no {w wr : World} {P pb : Nat} {f t z : Nat × Nat} {mF nF mT nT : Nat} {k0 : Int} {A : Option Addr} {cap : Nat} {l : List (Int × Int)} {AF : Option Addr} {cF : Nat} {AT : Option Addr} {cT : Nat} {AZ : Option Addr} {cZ : Nat} {BF BT : Option Addr} {F0 T0 F T Z : List Int} {a b : Int} {gT : Nat}
    (h : GatI w wr pb f t z mF nF mT nT (P : Int) A cap l AF cF AT cT AZ cZ BF BT F0 T0 F T Z) (hS0 : PebS P k0 (plE l Z) F0 T0) (hS : PebS P k0 (plE l Z) F T) (hP : 1 ≤ P ∧ P ≤ 8) (hk0 : k0 ≤ 3) (hn : l.length ≤ 24) (hz24 : Z.length ≤ 24)
    (hZ : ∀ i, i < Z.length → 0 ≤ Z.getD i 0 ∧ Z.getD i 0 < (l.length : Int)) (ha : 0 ≤ a ∧ a < (P : Int)) (hb : 0 ≤ b ∧ b < (P : Int)) (hgT : 0 < T0.length → AT = some ⟨gT, 0, none⟩) (hf : findM (plE l Z) a b (F, T) = none) :
    Calls Try.prog 181 #[.pointer (some ⟨pb, 0, none⟩), .agg #[.int .i64 (P : Int), .slice A l.length cap], .int .i64 a, .int .i64 b] wr (fun e w' => e = .returned (.bool false) ∧ GatI w w' pb f t z mF nF mT nT (P : Int) A cap l AF cF AT cT AZ cZ BF BT F0 T0 F T Z) := by
  refine (h.pull hS0 hS hP hk0 hn hz24 hZ ha hb hgT).mono ?_
  rintro e w' ⟨hw, ⟨rfl, _, ho⟩ | ⟨s', _, hs, _⟩⟩
  · exact ⟨rfl, h.next hw ho⟩
  · rw [hf] at hs; cases hs
theorem GatI.pull_yes {w wr : World} {P pb : Nat} {f t z : Nat × Nat} {mF nF mT nT : Nat} {k0 : Int} {A : Option Addr} {cap : Nat} {l : List (Int × Int)} {AF : Option Addr} {cF : Nat} {AT : Option Addr} {cT : Nat} {AZ : Option Addr} {cZ : Nat} {BF BT : Option Addr} {F0 T0 F T Z : List Int} {a b : Int} {gT : Nat} {s : List Int × List Int}
    (h : GatI w wr pb f t z mF nF mT nT (P : Int) A cap l AF cF AT cT AZ cZ BF BT F0 T0 F T Z) (hS0 : PebS P k0 (plE l Z) F0 T0) (hS : PebS P k0 (plE l Z) F T) (hP : 1 ≤ P ∧ P ≤ 8) (hk0 : k0 ≤ 3) (hn : l.length ≤ 24) (hz24 : Z.length ≤ 24)
    (hZ : ∀ i, i < Z.length → 0 ≤ Z.getD i 0 ∧ Z.getD i 0 < (l.length : Int)) (ha : 0 ≤ a ∧ a < (P : Int)) (hb : 0 ≤ b ∧ b < (P : Int)) (hgT : 0 < T0.length → AT = some ⟨gT, 0, none⟩) (hf : findM (plE l Z) a b (F, T) = some s) :
    Calls Try.prog 181 #[.pointer (some ⟨pb, 0, none⟩), .agg #[.int .i64 (P : Int), .slice A l.length cap], .int .i64 a, .int .i64 b] wr (fun e w' => e = .returned (.bool true) ∧ GatI w w' pb f t z mF nF mT nT (P : Int) A cap l AF cF AT cT AZ cZ BF BT F0 T0 s.1 s.2 Z) := by
  refine (h.pull hS0 hS hP hk0 hn hz24 hZ ha hb hgT).mono ?_
  rintro e w' ⟨hw, ⟨rfl, hs, ho⟩ | ⟨s', rfl, hs, ho⟩⟩
  · rw [hf] at hs; cases hs
  · rw [hf] at hs
    cases hs
    exact ⟨rfl, h.next hw ho⟩
end Go.Proofs.Ytggibhhdnlifcaa
/- What (*Pebbles).gather does. No condition. -/
namespace Go.Proofs.Ytggibhhdnlifcaa
open Go.RowKit

set_option maxHeartbeats 8000000 in
set_option maxRecDepth 100000 in
theorem gather_c (P : Nat) (k0 : Int) (l : List (Int × Int)) (A : Option Addr) (cap pb : Nat) (f t z : Nat × Nat) (AF AT AZ : Option Addr) (cF cT cZ : Nat) (F T Z : List Int) (a b : Nat) (want : Int) (w : World) (hS : PebS P k0 (plE l Z) F T) (hP : 1 ≤ P ∧ P ≤ 8) (hk0 : k0 ≤ 3) (hn : l.length ≤ 24) (hz24 : Z.length ≤ 24)
    (hZ : ∀ i, i < Z.length → 0 ≤ Z.getD i 0 ∧ Z.getD i 0 < (l.length : Int)) (ha : a < P) (hb : b < P) (hab : a ≠ b) (hl : BarsAt w w.heap.size A l) (hst : Cel3 w pb 63 (.slice AF F.length cF) (.slice AT T.length cT) (.slice AZ Z.length cZ)) (ho : OwnF w f t z AF cF AT cT AZ cZ F T Z) (hpf : pb < f.1 ∨ f.2 ≤ pb) (hpt : pb < t.1 ∨ t.2 ≤ pb) (hbar : 0 < l.length → ∀ g off, A = some ⟨g, off, none⟩ → (g < f.1 ∨ f.2 ≤ g) ∧ (g < t.1 ∨ t.2 ≤ g)) :
    Calls Try.prog 128 #[.pointer (some ⟨pb, 0, none⟩), .agg #[.int .i64 (P : Int), .slice A l.length cap], .int .i64 (a : Int), .int .i64 (b : Int), .int .i64 want] w (GathP w f t z AF cF AT cT AZ cZ (plE l Z) F T Z a b want) := by
  have hFl := hS.flen
  have hTl : T.length = Z.length := by rw [hS.ends.len, plE_len]
  obtain ⟨gF, rfl, _, _⟩ := ho.fst (by omega)
  have hhi := ho.hi
  obtain ⟨gT, hgT⟩ : ∃ gT, 0 < T.length → AT = some ⟨gT, 0, none⟩ := by
    by_cases h : 0 < T.length
    · obtain ⟨_, gT, _, e, _⟩ := ho.open_ (by omega) h
      exact ⟨gT, fun _ => e⟩
    · exact ⟨0, fun k => absurd k h⟩
  have HGT := Lib.hid hgT
  have HS := Lib.hid hS
  have HZ := Lib.hid hZ
  have HBAR := Lib.hid hbar
  have b1 := new_below w (.cells #[.int .i64 (P : Int), .slice A l.length cap] 30)
  have hbx := box_new w (P : Int) (.slice A l.length cap) 30
  have HBX := Lib.hid hbx
  have HBI := Lib.hid ((bars_in hl).within (within_of b1) (.inr (Nat.zero_le _)))
  have HW1 := Lib.hid b1
  have HST := Lib.hid (hst.within (within_of b1) (.inr (Nat.zero_le _)))
  have HO := Lib.hid (ho.below b1)
  have hs1 : (w.alloc (.cells #[.int .i64 (P : Int), .slice A l.length cap] 30)).heap.size = w.heap.size + 1 := by simp
  have hplt := hst.lt
  have HFL := Lib.hid hFl
  have HTL := Lib.hid hTl
  have hF1 : F.length ≤ 1048576 := by omega
  have hT1 : T.length ≤ 1048576 := by omega
  clear hS hZ hgT hst ho hl hbar b1 hbx hFl hTl
  go_enter Try.func128, Try.ntmps128
  go_wp2_with fail
  generalize (w.alloc (.cells #[.int .i64 (P : Int), .slice A l.length cap] 30)) = w1 at *
  have hdr : Below w1.heap.size w1 w1.drew := (Below.refl _ _).drew
  have HST3 := Lib.hid (HST.out.kept hdr)
  have HO3 := Lib.hid (HO.out.below hdr)
  have HW3 := Lib.hid (below_on HW1.out hdr HW1.out.size)
  have HBX3 := Lib.hid (HBX.out.kept hdr)
  have HBI3 := Lib.hid (HBI.out.within (within_of hdr) (.inr (Nat.zero_le _)))
  have hz0 : w1.drew.heap.size = w1.heap.size := rfl
  have kk1 : (fun W' => W'.cell? ⟨pb, 0, none⟩ = some (.slice (some ⟨gF, 0, none⟩) F.length cF) ∧ W'.cell? ⟨pb, 1, none⟩ = some (.slice AT T.length cT)) w1 := ⟨HST.out.cells.1, HST.out.cells.2.1⟩
  clear hdr
  go_region_held3 (fun W' => W'.cell? ⟨pb, 0, none⟩ = some (.slice (some ⟨gF, 0, none⟩) F.length cF) ∧ W'.cell? ⟨pb, 1, none⟩ = some (.slice AT T.length cT))
    (first | exact kk1 | exact ⟨HST4.out.cells.1, HST4.out.cells.2.1⟩ | exact ⟨HST5.out.cells.1, HST5.out.cells.2.1⟩ | fail)
    (first
      | (go_at_call_of 148 (some (⟨gF, 0, none⟩ : Addr)); refine (slCloneI F (some ⟨gF, 0, none⟩) cF 0 _ _ HO3.out.reads.f hF1).mono ?_; rintro e w4 ⟨BF, bF, rfl, hc, hb4⟩; have HW4 := Lib.hid (below_on HW3.out hb4 HW3.out.size); have HST4 := Lib.hid (HST3.out.kept hb4); have HO4 := Lib.hid (HO3.out.below hb4); have HBX4 := Lib.hid (HBX3.out.kept hb4); have HBI4 := Lib.hid (HBI3.out.within (within_of hb4) (.inr (Nat.zero_le _))); have HCF4 := Lib.hid hc; have hz4 := hb4.size; clear hc hb4)
      | (go_at_call_of 148 AT; refine (slCloneI T AT cT 0 _ _ HO4.out.reads.t hT1).mono ?_; rintro e w5 ⟨BT, bT, rfl, hc, hb5⟩; have HW5 := Lib.hid (below_on HW4.out hb5 HW4.out.size); have HST5 := Lib.hid (HST4.out.kept hb5); have HO5 := Lib.hid (HO4.out.below hb5); have HBX5 := Lib.hid (HBX4.out.kept hb5); have HBI5 := Lib.hid (HBI4.out.within (within_of hb5) (.inr (Nat.zero_le _))); have HCF5 := Lib.hid (HCF4.out.within (within_of hb5) (.inr (Nat.zero_le _))); have HCT5 := Lib.hid hc; have hz5 := hb5.size; clear hc hb5)
      | fail)
  go_wp2_with fail
  have HI := Lib.hid (show GatI w w5 pb f t z w1.drew.heap.size w4.heap.size w4.heap.size w5.heap.size (P : Int) A cap l (some ⟨gF, 0, none⟩) cF AT cT AZ cZ BF BT F T F T Z from
    ⟨HST5.out, HO5.out, HBX5.out, HBI5.out, HCF5.out.reads, HCT5.out.reads, Within2.of (within_of HW5.out) (.inl (Nat.le_refl 0)), ⟨hplt, ⟨hhi.1, hhi.2.1⟩, by omega, by omega, by omega⟩, hpf, hpt, HBAR.out⟩)
  go_loopw [] (fun wr => ∃ F' T' : List Int, PebS P k0 (plE l Z) F' T' ∧ gathR (plE l Z) a b want (F, T) = gathR (plE l Z) a b want (F', T') ∧ GatI w wr pb f t z w1.drew.heap.size w4.heap.size w4.heap.size w5.heap.size (P : Int) A cap l (some ⟨gF, 0, none⟩) cF AT cT AZ cZ BF BT F T F' T' Z) (fun wr => (want - (intOf ((wr.cell? ⟨gF, a, none⟩).getD (.bool false)) + intOf ((wr.cell? ⟨gF, b, none⟩).getD (.bool false)))).toNat)
  case atStart => exact ⟨F, T, HS.out, rfl, HI.out⟩
  case round =>
    obtain ⟨F', T', hS', hg, hin⟩ := hrel
    have HG := Lib.hid hg
    have HS' := Lib.hid hS'
    have hfl := hS'.flen
    obtain ⟨fb, fo, e, hfc⟩ := row_at hin.own.reads.f (by omega)
    cases e
    have ha1 := hfc a (by omega)
    have hb1 := hfc b (by omega)
    rw [Nat.zero_add] at ha1 hb1
    have hsa := hS'.small (v := (a : Int)) (by omega)
    have hsb := hS'.small (v := (b : Int)) (by omega)
    rw [Int.toNat_natCast] at hsa hsb
    have HDN := Lib.hid (fun h : ¬ F'.getD a 0 + F'.getD b 0 < want => gathR_done (E := plE l Z) (a := (a : Int)) (b := (b : Int)) (want := want) (s := (F', T')) (by simpa using h))
    obtain ⟨d1, hd1⟩ : ∃ d1, F'.getD a 0 = d1 := ⟨_, rfl⟩
    obtain ⟨d2, hd2⟩ : ∃ d2, F'.getD b 0 = d2 := ⟨_, rfl⟩
    rw [hd1] at ha1 hsa HDN
    rw [hd2] at hb1 hsb HDN
    have HD := Lib.hid (And.intro hd1 hd2)
    have haF : (a : Int) < (F.length : Int) := by have := HFL.out; omega
    have hbF : (b : Int) < (F.length : Int) := by have := HFL.out; omega
    have HIN := Lib.hid hin
    have hcc := hin.st.cells.1
    clear hg hS' hfl hfc hd1 hd2 hin
    by_cases c1 : d1 + d2 < want
    · have e1 : decide (d1 + d2 < want) = true := by simpa using c1
      go_wp2_with fail
      go_big_quiet (fail)
      have HQ := Lib.hid (HIN.out.next (Within2.of (within_of (below_drewN wr.heap.size wr nq)) (.inl (Nat.le_refl 0))) (HIN.out.own.below (below_drewN wr.heap.size wr nq)))
      have hC1 : F'.getD (a : Int).toNat 0 + F'.getD (b : Int).toNat 0 < want := by rw [Int.toNat_natCast, Int.toNat_natCast, HD.out.1, HD.out.2]; exact c1
      have HC1 := Lib.hid hC1
      obtain ⟨_, gx0, gx1⟩ := HIN.out.box
      obtain ⟨r1, hr1⟩ : ∃ r1, findM (plE l Z) (a : Int) (b : Int) (F', T') = r1 := ⟨_, rfl⟩
      cases r1 with
      | some s' =>
        have HF1 := Lib.hid hr1
        have HK := Lib.hid (show PebS P k0 (plE l Z) s'.1 s'.2 ∧ s'.1.getD a 0 + s'.1.getD b 0 = d1 + d2 + 1 from by
          obtain ⟨k1, k2, k3⟩ := findM_ok HS'.out (a := (a : Int)) (b := (b : Int)) (by omega) (by omega) (by omega) HF1.out
          rw [Int.toNat_natCast] at k2 k3
          refine ⟨k1, ?_⟩
          rw [k2, k3, HD.out.1, HD.out.2]; omega)
        clear hr1 hC1
        go_wp2_with (go_at_call 181; refine (HQ.out.pull_yes (a := (a : Int)) (b := (b : Int)) HS.out HS'.out hP hk0 hn hz24 HZ.out ⟨by omega, by omega⟩ ⟨by omega, by omega⟩ HGT.out HF1.out).mono ?_; rintro e w6 ⟨rfl, h6⟩; obtain ⟨_, gy6, gz6⟩ := h6.box; have H6 := Lib.hid h6; clear h6)
        go_roundw
        case rel => exact ⟨s'.1, s'.2, HK.out.1, HG.out.trans (gathR_one HC1.out HF1.out (by rw [Int.toNat_natCast, Int.toNat_natCast]; show s'.1.getD a 0 + s'.1.getD b 0 = F'.getD a 0 + F'.getD b 0 + 1; rw [HK.out.2, HD.out.1, HD.out.2])), H6.out⟩
        case measure =>
          have hlen : s'.1.length = P := HK.out.1.flen
          obtain ⟨fb, fo, e, hfc⟩ := row_at H6.out.own.reads.f (by omega)
          cases e
          have q1 := hfc a (by omega)
          have q2 := hfc b (by omega)
          rw [Nat.zero_add] at q1 q2
          have q3 := HK.out.2
          rw [q1, q2, ha1, hb1]
          simp only [Option.getD_some, intOf]
          omega

      | none =>
        have HF1 := Lib.hid hr1
        obtain ⟨r2, hr2⟩ : ∃ r2, findM (plE l Z) (b : Int) (a : Int) (F', T') = r2 := ⟨_, rfl⟩
        cases r2 with
        | some s' =>
          have HF2 := Lib.hid hr2
          have HK := Lib.hid (show PebS P k0 (plE l Z) s'.1 s'.2 ∧ s'.1.getD a 0 + s'.1.getD b 0 = d1 + d2 + 1 from by
            obtain ⟨k1, k2, k3⟩ := findM_ok HS'.out (a := (b : Int)) (b := (a : Int)) (by omega) (by omega) (by omega) HF2.out
            rw [Int.toNat_natCast] at k2 k3
            refine ⟨k1, ?_⟩
            rw [k2, k3, HD.out.1, HD.out.2]; omega)
          clear hr1 hr2 hC1
          go_wp2_with (first
            | (go_at_call 181; refine (H6.out.pull_yes (a := (b : Int)) (b := (a : Int)) HS.out HS'.out hP hk0 hn hz24 HZ.out ⟨by omega, by omega⟩ ⟨by omega, by omega⟩ HGT.out HF2.out).mono ?_; rintro e w7 ⟨rfl, h7⟩; obtain ⟨_, gy7, gz7⟩ := h7.box; have H7 := Lib.hid h7; clear h7)
            | (go_at_call 181; refine (HQ.out.pull_no (a := (a : Int)) (b := (b : Int)) HS.out HS'.out hP hk0 hn hz24 HZ.out ⟨by omega, by omega⟩ ⟨by omega, by omega⟩ HGT.out HF1.out).mono ?_; rintro e w6 ⟨rfl, h6⟩; obtain ⟨_, gy6, gz6⟩ := h6.box; have H6 := Lib.hid h6; clear h6))
          go_roundw
          case rel => exact ⟨s'.1, s'.2, HK.out.1, HG.out.trans (gathR_two HC1.out HF1.out HF2.out (by rw [Int.toNat_natCast, Int.toNat_natCast]; show s'.1.getD a 0 + s'.1.getD b 0 = F'.getD a 0 + F'.getD b 0 + 1; rw [HK.out.2, HD.out.1, HD.out.2])), H7.out⟩
          case measure =>
            have hlen : s'.1.length = P := HK.out.1.flen
            obtain ⟨fb, fo, e, hfc⟩ := row_at H7.out.own.reads.f (by omega)
            cases e
            have q1 := hfc a (by omega)
            have q2 := hfc b (by omega)
            rw [Nat.zero_add] at q1 q2
            have q3 := HK.out.2
            rw [q1, q2, ha1, hb1]
            simp only [Option.getD_some, intOf]
            omega

        | none =>
          have HF2 := Lib.hid hr2
          have HLF := Lib.hid (show F'.length = F.length by rw [HS'.out.flen, HFL.out])
          have HLT := Lib.hid (show T'.length = T.length by rw [HS'.out.ends.len, HS.out.ends.len])
          clear hr1 hr2 hC1
          go_wp2_with (first
            | (go_at_call 181; refine (H6.out.pull_no (a := (b : Int)) (b := (a : Int)) HS.out HS'.out hP hk0 hn hz24 HZ.out ⟨by omega, by omega⟩ ⟨by omega, by omega⟩ HGT.out HF2.out).mono ?_; rintro e w7 ⟨rfl, h7⟩; obtain ⟨of7, ot7, oz7, x1, x2, x3⟩ := h7.own; obtain ⟨v0, v1, _, _, _, _⟩ := h7.st.cells; have OF := Lib.hid of7; have OT := Lib.hid ot7; have OZ := Lib.hid oz7; clear of7 ot7 oz7; have H7 := Lib.hid h7; clear h7)
            | (go_at_call 181; refine (HQ.out.pull_no (a := (a : Int)) (b := (b : Int)) HS.out HS'.out hP hk0 hn hz24 HZ.out ⟨by omega, by omega⟩ ⟨by omega, by omega⟩ HGT.out HF1.out).mono ?_; rintro e w6 ⟨rfl, h6⟩; obtain ⟨_, gy6, gz6⟩ := h6.box; have H6 := Lib.hid h6; clear h6)
            | (with_reducible refine wpList_back rfl _ _ rfl AT BT T' T cT bT t.1 t.2 _ _ T.length rfl rfl (OT.out.within HW8.out (by unfold Dis at x1; omega)) (H7.out.ct.within HW8.out (by have := H7.out.low; omega)) HLT.out.symm HLT.out.symm ?_; intro w9 ot9 hw9; have OT9 := Lib.hid ot9; have HW9 := Lib.hid hw9; clear ot9 hw9)
            | (with_reducible refine wpList_back rfl _ _ rfl (some ⟨gF, 0, none⟩) BF F' F cF bF f.1 f.2 _ _ F.length rfl rfl OF.out H7.out.cf HLF.out.symm HLF.out.symm ?_; intro w8 of8 hw8; have OF8 := Lib.hid of8; have HW8 := Lib.hid hw8; have HST8 := Lib.hid (H7.out.st.within hw8 H7.out.outf); obtain ⟨u0, u1, _, _, _, _⟩ := HST8.out.cells; clear of8 hw8))
          go_ret
          refine ⟨(H7.out.wit.trans (Within2.of HW8.out (by omega))).trans (Within2.of HW9.out (by omega)), .inl ⟨rfl, by rw [HG.out]; exact gathR_no HC1.out HF1.out HF2.out, ?_⟩⟩
          unfold Dis at x1 x2 x3
          have k8 := HW8.out.size
          have k9 := HW9.out.size
          exact ⟨OF8.out.within HW9.out (by omega), OT9.out, (OZ.out.within HW8.out (by omega)).within HW9.out (by omega), x1, x2, x3⟩
    · have e1 : decide (d1 + d2 < want) = false := by simpa using c1
      go_wp2_with fail
      go_big_quiet (fail)
      go_wp2_with fail
      go_ret
      have HQ := Lib.hid (HIN.out.next (Within2.of (within_of (below_drewN wr.heap.size wr nq)) (.inl (Nat.le_refl 0))) (HIN.out.own.below (below_drewN wr.heap.size wr nq)))
      exact ⟨HQ.out.wit, .inr ⟨(F', T'), rfl, by rw [HG.out]; exact HDN.out c1, HQ.out.own⟩⟩
end Go.Proofs.Ytggibhhdnlifcaa
/- What (*Pebbles).place does. No condition. -/
namespace Go.Proofs.Ytggibhhdnlifcaa
open Go.RowKit

set_option maxHeartbeats 8000000 in
set_option maxRecDepth 100000 in
theorem place_c (P : Nat) (k0 : Int) (l : List (Int × Int)) (A : Option Addr) (cap pb B : Nat) (f t z : Nat × Nat) (AF AT AZ : Option Addr) (cF cT cZ : Nat) (F T Z : List Int) (c : Int) (n : Nat) (w : World) (hI : IsPeb (P : Int) k0 l F T Z) (hc : 0 ≤ c ∧ c ≤ 100) (hn : n < l.length)
    (hl : BarsIn w 0 B A l) (hst : Cel3 w pb 63 (.slice AF F.length cF) (.slice AT T.length cT) (.slice AZ Z.length cZ)) (ho : OwnF w f t z AF cF AT cT AZ cZ F T Z) (hB : B ≤ w.heap.size ∧ B ≤ pb ∧ B ≤ f.1 ∧ B ≤ t.1 ∧ B ≤ z.1) (hpf : pb < f.1 ∨ f.2 ≤ pb) (hpt : pb < t.1 ∨ t.2 ≤ pb) (hpz : pb < z.1 ∨ z.2 ≤ pb) (ht12 : t.1 ≤ w.heap.size) (hz12 : z.1 ≤ w.heap.size) :
    Calls Try.prog 114 #[.pointer (some ⟨pb, 0, none⟩), .agg #[.int .i64 (P : Int), .slice A l.length cap], .int .i64 c, .int .i64 (n : Int)] w (PlaceP w B pb f t z AF cF AT cT AZ cZ l c F T Z (n : Int)) := by
  have hFP : F.length = P := by have := hI.2.2.1; omega
  have hS := hI.state
  rw [hFP] at hS
  have hOB := hI.1.2.2 n hn
  unfold OkBar at hOB
  have hP8 := hI.1.1
  have hl24 := hI.1.2.1
  have hz24 : Z.length ≤ 24 := by have := hI.many; omega
  have hz24t : T.length ≤ 24 := by have := hI.2.2.2.1; omega
  have hk := hI.2.1
  have hbar : 0 < l.length → ∀ g off, A = some ⟨g, off, none⟩ → (g < f.1 ∨ f.2 ≤ g) ∧ (g < t.1 ∨ t.2 ≤ g) := fun h0 g off e => by
    obtain ⟨b, o, e1, _, h2, _⟩ := hl.2 h0
    rw [e] at e1
    cases e1
    omega
  obtain ⟨bb, boff, rfl, _, hbc⟩ := hl.at (by omega)
  have hx1 := (hbc n hn).1
  have hx2 := (hbc n hn).2
  obtain ⟨x, hxd⟩ : ∃ x, l.getD n (0, 0) = x := ⟨_, rfl⟩
  rw [hxd] at hx1 hx2 hOB
  obtain ⟨x1, x2⟩ := x
  simp only at hx1 hx2 hOB
  obtain ⟨a, rfl⟩ : ∃ a : Nat, x1 = (a : Int) := ⟨x1.toNat, by omega⟩
  obtain ⟨b, rfl⟩ : ∃ b : Nat, x2 = (b : Int) := ⟨x2.toNat, by omega⟩
  have HX := Lib.hid hxd
  have HS := Lib.hid hS
  have HZ := Lib.hid (fun i hi => (hI.2.2.2.2.1 i hi).1)
  have HBAR := Lib.hid hbar
  have hni : (n : Int) < (l.length : Int) := by omega
  have b1 := new_below w (.cells #[.int .i64 (P : Int), .slice (some ⟨bb, boff, none⟩) l.length cap] 30)
  have b2 := new_below (w.alloc (.cells #[.int .i64 (P : Int), .slice (some ⟨bb, boff, none⟩) l.length cap] 30)) (.cells #[.int .i64 (a : Int), .int .i64 (b : Int)] 103)
  have hb12 := below_on b1 b2 b1.size
  have HW := Lib.hid hb12
  have HBX := Lib.hid ((box_new w (P : Int) (.slice (some ⟨bb, boff, none⟩) l.length cap) 30).kept b2)
  have HBI := Lib.hid (hl.within (within_of hb12) (.inr (Nat.zero_le _)))
  have hb3 := box_new (w.alloc (.cells #[.int .i64 (P : Int), .slice (some ⟨bb, boff, none⟩) l.length cap] 30)) (a : Int) (.int .i64 (b : Int)) 103
  rw [show (w.alloc (.cells #[.int .i64 (P : Int), .slice (some ⟨bb, boff, none⟩) l.length cap] 30)).heap.size = w.heap.size + 1 by simp] at hb3
  have HB3 := Lib.hid hb3
  clear hb3
  have HST := Lib.hid (hst.kept hb12)
  have HO := Lib.hid (ho.below hb12)
  have hplt := hst.lt
  have hh := ho.hi
  have HTT := Lib.hid hI.2.2.2.1
  have HFP := Lib.hid hFP
  clear hI hS hxd hbc hbar b1 b2 hb12 hl hst ho hFP
  go_enter Try.func114, Try.ntmps114
  go_wp2_with fail
  refine (gather_c P k0 l (some ⟨bb, boff, none⟩) cap pb f t z AF AT AZ cF cT cZ F T Z a b (c + 1) _ HS.out (by omega) (by omega) hl24 hz24 HZ.out (by omega) (by omega) (by omega) HBI.out.at HST.out HO.out hpf hpt HBAR.out).mono ?_
  rintro e w3 ⟨hw, ⟨rfl, hg, ho⟩ | ⟨s', rfl, hg, ho⟩⟩
  · have HW3 := Lib.hid (below_low2 ((Within2.of (within_of HW.out) (.inl (Nat.le_refl 0))).trans hw) hB.2.2.1 hB.2.2.2.1 hB.1)
    have HO3 := Lib.hid ho
    have HG := Lib.hid hg
    have HST3 := Lib.hid (HST.out.at hw hpf hpt)
    clear hw ho hg
    go_wp2_with fail
    go_ret
    exact ⟨HW3.out, .inl ⟨rfl, by unfold plaR; rw [Int.toNat_natCast, HX.out, HG.out]; rfl, HO3.out, HST3.out⟩⟩
  · obtain ⟨hq, _⟩ := gathR_ok (P := P) (by omega) (by omega) (by omega) HS.out hg
    have HL1 := Lib.hid (show s'.1.length = F.length by rw [hq.flen, HFP.out])
    have HL2 := Lib.hid (show s'.2.length = T.length by rw [hq.ends.len, HS.out.ends.len])
    have hst3 := HST.out.at hw hpf hpt
    rw [← HL1.out, ← HL2.out] at hst3
    have HST3 := Lib.hid hst3
    have HB := Lib.hid (HB3.out.at hw (by omega) (by omega))
    have HW3 := Lib.hid (below_low2 ((Within2.of (within_of HW.out) (.inl (Nat.le_refl 0))).trans hw) hB.2.2.1 hB.2.2.2.1 hB.1)
    have hsa := hq.small (v := (a : Int)) (by omega)
    have hsb := hq.small (v := (b : Int)) (by omega)
    rw [Int.toNat_natCast] at hsa hsb
    have hfl := hq.flen
    obtain ⟨F', T'⟩ := s'
    simp only at hsa hsb hfl hst3 ho HST3 HL1 HL2
    obtain ⟨gF, rfl, g1, g2, hF⟩ := ho.1.open_ (by omega)
    have ha1 := (hF.cellAt a (by omega)).trans (intCells_get F' a (by omega))
    have hb1 := (hF.cellAt b (by omega)).trans (intCells_get F' b (by omega))
    have hfa := hF.frozenAt a
    have hfb := hF.frozenAt b
    have HF := Lib.hid hF
    have HO3 := Lib.hid ho
    have HG := Lib.hid hg
    have haF : (a : Int) < (F'.length : Int) := by omega
    have hbF : (b : Int) < (F'.length : Int) := by omega
    obtain ⟨d1, hd1⟩ : ∃ d1, F'.getD a 0 = d1 := ⟨_, rfl⟩
    obtain ⟨d2, hd2⟩ : ∃ d2, F'.getD b 0 = d2 := ⟨_, rfl⟩
    rw [hd1] at ha1 hsa
    rw [hd2] at hb1 hsb
    have HD := Lib.hid (And.intro hd1 hd2)
    have HFL := Lib.hid hfl
    have HTL := Lib.hid (show T'.length ≤ 24 by rw [HL2.out]; exact hz24t)
    have hs3 : w.heap.size ≤ w3.heap.size := HW3.out.size
    obtain ⟨hc0, hc1, hc2, hz0, hz1, hz2⟩ := hst3.cells
    obtain ⟨_, y0, y1⟩ := HB.out
    have hpb1 : w.heap.size ≠ pb := by omega
    have hpb2 : w.heap.size + 1 ≠ pb := by omega
    clear hq hst3 hd1 hd2 hfl hF ho hg hw
    have hgp : gF ≠ pb := by omega
    by_cases c1 : d1 = 0
    · have e1 : (d1 == 0) = true := by simpa using c1
      have hw4 := within_set w3 gF b (.int .i64 (d2 - 1))
      obtain ⟨o1, o2, o3, x1, x2, x3⟩ := HO3.out
      have HXX := Lib.hid (And.intro x1 (And.intro x2 x3))
      unfold Dis at x1 x2 x3
      have HT4 := Lib.hid (o2.within hw4 (by omega))
      have HZ4 := Lib.hid (o3.within hw4 (by omega))
      have HF4 := Lib.hid (show (w3.setCell ⟨gF, b, none⟩ (.int .i64 (d2 - 1))).ownsRow 0 3 1 (.slice (some ⟨gF, 0, none⟩) (F'.set b (d2 - 1)).length cF) (F'.set b (d2 - 1)).length (intCells (F'.set b (d2 - 1))) from by
        have h1 := (HF.out.stored b (.int .i64 (d2 - 1))).1
        rw [intCells_set] at h1
        rw [List.length_set]
        exact h1)
      have HST4 := Lib.hid (HST3.out.within hw4 (by omega))
      have HTW := Lib.hid (show t.1 ≤ (w3.setCell ⟨gF, b, none⟩ (.int .i64 (d2 - 1))).heap.size from Nat.le_trans ht12 (Nat.le_trans hs3 hw4.size))
      have HZV := Lib.hid (show z.1 ≤ (w3.setCell ⟨gF, b, none⟩ (.int .i64 (d2 - 1))).heap.size from Nat.le_trans hz12 (Nat.le_trans hs3 hw4.size))
      have HW4 := Lib.hid hw4
      obtain ⟨m0, m1, m2, m3, m4, m5⟩ := HST4.out.cells
      clear o1 o2 o3 x1 x2 x3 hw4
      go_wp2_with (first
        | (at_builtin; refine wpList_pushR _ rfl _ _ rfl z.1 z.2 AZ cZ Z (n : Int) rfl HZ6.out _ (by first | rfl | (simp only [World.size_setCell]; rfl)) (by omega) HZW.out ?_; intro A7 c7 w7 lo7 hi7 hr7 hor7 hw7; have HR7 := Lib.hid hr7; have HOR7 := Lib.hid hor7; have HW7 := Lib.hid hw7; have HST7 := Lib.hid (HST6.out.within hw7 hpz); obtain ⟨r0, r1, r2, r3, r4, r5⟩ := HST7.out.cells; clear hr7 hor7 hw7)
        | (at_builtin; refine wpList_pushR _ rfl _ _ rfl t.1 t.2 AT cT T' (b : Int) rfl HT4.out _ (by first | rfl | (simp only [World.size_setCell]; rfl)) (by have := HTL.out; omega) HTW.out ?_; intro A5 c5 w5 lo5 hi5 hr5 hor5 hw5; have HR5 := Lib.hid hr5; have HOR5 := Lib.hid hor5; have HW5 := Lib.hid hw5; have HST5 := Lib.hid (HST4.out.within hw5 hpt); have HST6 := Lib.hid (HST5.out.set1 (.slice A5 (T'.length + 1) c5)); have HZ6 := Lib.hid ((HZ4.out.within hw5 (by have := HXX.out.2.2; unfold Dis at this; omega)).within (within_set w5 pb 1 (.slice A5 (T'.length + 1) c5)) (by omega)); have HZW := Lib.hid (show z.1 ≤ (w5.setCell ⟨pb, 1, none⟩ (.slice A5 (T'.length + 1) c5)).heap.size from by rw [World.size_setCell]; exact Nat.le_trans HZV.out hw5.size); obtain ⟨p0, p1, p2, p3, p4, p5⟩ := HST5.out.cells; obtain ⟨u0, u1, u2, u3, u4, u5⟩ := HST6.out.cells; clear hr5 hor5 hw5))
      go_ret
      have hr5 := HR5.out
      have hr7 := HR7.out
      have hor5 := HOR5.out
      have hor7 := HOR7.out
      have w4 := HW4.out
      have w5w := HW5.out
      have w7w := HW7.out
      have xx := HXX.out
      have q5 := within_set w5 pb 1 (.slice A5 (T'.length + 1) c5)
      have q7 := within_set w7 pb 2 (.slice A7 (Z.length + 1) c7)
      have s4 := w4.size
      have s5 := w5w.size
      have s6 := q5.size
      have s7 := w7w.size
      have s8 := q7.size
      unfold Dis at xx
      have hB' := hB
      have e4 : (w3.setCell ⟨gF, b, none⟩ (.int .i64 (d2 - 1))).heap.size = w3.heap.size := by simp
      have e6 : (w5.setCell ⟨pb, 1, none⟩ (.slice A5 (T'.length + 1) c5)).heap.size = w5.heap.size := by simp
      have e8 : (w7.setCell ⟨pb, 2, none⟩ (.slice A7 (Z.length + 1) c7)).heap.size = w7.heap.size := by simp
      have hbel : Below B w (w7.setCell ⟨pb, 2, none⟩ (.slice A7 (Z.length + 1) c7)) := ((((HW3.out.trans (below_low w4 (by omega) (by omega))).trans (below_low w5w (by omega) (by omega))).trans (below_low q5 (by omega) (by omega))).trans (below_low w7w (by omega) (by omega))).trans (below_low q7 (by omega) (by omega))
      have hf8 := own_block (own_block (own_block (own_block HF4.out (w5w.block gF (HF4.out.lt gF rfl).2 (by omega))) (q5.block gF (by have := (HF4.out.lt gF rfl).2; omega) (by omega))) (w7w.block gF (by have := (HF4.out.lt gF rfl).2; omega) (by omega))) (q7.block gF (by have := (HF4.out.lt gF rfl).2; omega) (by omega))
      have ht8 := ((hr5.within q5 (by omega)).within w7w (by omega)).within q7 (by omega)
      have hz8 := hr7.within q7 (by omega)
      have hc8 := HST7.out.set2 (.slice A7 (Z.length + 1) c7)
      refine ⟨hbel, .inr ⟨(F'.set b (d2 - 1), (T' ++ [(b : Int)]), (Z ++ [(n : Int)])), A5, c5, A7, c7, (lo5, hi5), (lo7, hi7), rfl, ?_, ⟨⟨by show f.2 ≤ _; omega, .inr ⟨gF, rfl, g1, g2, own_rebase hf8 g1⟩⟩, ht8, hz8, ?_, ?_, ?_⟩, ?_, ?_, ?_⟩⟩
      · unfold plaR
        rw [Int.toNat_natCast, HX.out, HG.out]
        simp only [Option.map_some, Int.toNat_natCast, HD.out.1, HD.out.2]
        rw [if_pos c1]
      · unfold Dis; show f.2 ≤ lo5 ∨ hi5 ≤ f.1; omega
      · unfold Dis; show f.2 ≤ lo7 ∨ hi7 ≤ f.1; omega
      · unfold Dis; show hi5 ≤ lo7 ∨ hi7 ≤ lo5; omega
      · show Cel3 _ pb _ (.slice _ (F'.set b (d2 - 1)).length _) (.slice _ (T' ++ [(b : Int)]).length _) (.slice _ (Z ++ [(n : Int)]).length _)
        rw [List.length_set, List.length_append, List.length_append]
        exact hc8
      · rcases hor5 with ⟨rfl, rfl⟩ | h
        · exact .inl rfl
        · exact .inr ⟨by show w.heap.size ≤ lo5; omega, by show lo5 ≤ _; omega⟩
      · rcases hor7 with ⟨rfl, rfl⟩ | h
        · exact .inl rfl
        · exact .inr ⟨by show w.heap.size ≤ lo7; omega, by show lo7 ≤ _; omega⟩
    · have e1 : (d1 == 0) = false := by simpa using c1
      have hw4 := within_set w3 gF a (.int .i64 (d1 - 1))
      obtain ⟨o1, o2, o3, x1, x2, x3⟩ := HO3.out
      have HXX := Lib.hid (And.intro x1 (And.intro x2 x3))
      unfold Dis at x1 x2 x3
      have HT4 := Lib.hid (o2.within hw4 (by omega))
      have HZ4 := Lib.hid (o3.within hw4 (by omega))
      have HF4 := Lib.hid (show (w3.setCell ⟨gF, a, none⟩ (.int .i64 (d1 - 1))).ownsRow 0 3 1 (.slice (some ⟨gF, 0, none⟩) (F'.set a (d1 - 1)).length cF) (F'.set a (d1 - 1)).length (intCells (F'.set a (d1 - 1))) from by
        have h1 := (HF.out.stored a (.int .i64 (d1 - 1))).1
        rw [intCells_set] at h1
        rw [List.length_set]
        exact h1)
      have HST4 := Lib.hid (HST3.out.within hw4 (by omega))
      have HTW := Lib.hid (show t.1 ≤ (w3.setCell ⟨gF, a, none⟩ (.int .i64 (d1 - 1))).heap.size from Nat.le_trans ht12 (Nat.le_trans hs3 hw4.size))
      have HZV := Lib.hid (show z.1 ≤ (w3.setCell ⟨gF, a, none⟩ (.int .i64 (d1 - 1))).heap.size from Nat.le_trans hz12 (Nat.le_trans hs3 hw4.size))
      have HW4 := Lib.hid hw4
      obtain ⟨m0, m1, m2, m3, m4, m5⟩ := HST4.out.cells
      clear o1 o2 o3 x1 x2 x3 hw4
      go_wp2_with (first
        | (at_builtin; refine wpList_pushR _ rfl _ _ rfl z.1 z.2 AZ cZ Z (n : Int) rfl HZ6.out _ (by first | rfl | (simp only [World.size_setCell]; rfl)) (by omega) HZW.out ?_; intro A7 c7 w7 lo7 hi7 hr7 hor7 hw7; have HR7 := Lib.hid hr7; have HOR7 := Lib.hid hor7; have HW7 := Lib.hid hw7; have HST7 := Lib.hid (HST6.out.within hw7 hpz); obtain ⟨r0, r1, r2, r3, r4, r5⟩ := HST7.out.cells; clear hr7 hor7 hw7)
        | (at_builtin; refine wpList_pushR _ rfl _ _ rfl t.1 t.2 AT cT T' (a : Int) rfl HT4.out _ (by first | rfl | (simp only [World.size_setCell]; rfl)) (by have := HTL.out; omega) HTW.out ?_; intro A5 c5 w5 lo5 hi5 hr5 hor5 hw5; have HR5 := Lib.hid hr5; have HOR5 := Lib.hid hor5; have HW5 := Lib.hid hw5; have HST5 := Lib.hid (HST4.out.within hw5 hpt); have HST6 := Lib.hid (HST5.out.set1 (.slice A5 (T'.length + 1) c5)); have HZ6 := Lib.hid ((HZ4.out.within hw5 (by have := HXX.out.2.2; unfold Dis at this; omega)).within (within_set w5 pb 1 (.slice A5 (T'.length + 1) c5)) (by omega)); have HZW := Lib.hid (show z.1 ≤ (w5.setCell ⟨pb, 1, none⟩ (.slice A5 (T'.length + 1) c5)).heap.size from by rw [World.size_setCell]; exact Nat.le_trans HZV.out hw5.size); obtain ⟨p0, p1, p2, p3, p4, p5⟩ := HST5.out.cells; obtain ⟨u0, u1, u2, u3, u4, u5⟩ := HST6.out.cells; clear hr5 hor5 hw5))
      go_ret
      have hr5 := HR5.out
      have hr7 := HR7.out
      have hor5 := HOR5.out
      have hor7 := HOR7.out
      have w4 := HW4.out
      have w5w := HW5.out
      have w7w := HW7.out
      have xx := HXX.out
      have q5 := within_set w5 pb 1 (.slice A5 (T'.length + 1) c5)
      have q7 := within_set w7 pb 2 (.slice A7 (Z.length + 1) c7)
      have s4 := w4.size
      have s5 := w5w.size
      have s6 := q5.size
      have s7 := w7w.size
      have s8 := q7.size
      unfold Dis at xx
      have hB' := hB
      have e4 : (w3.setCell ⟨gF, a, none⟩ (.int .i64 (d1 - 1))).heap.size = w3.heap.size := by simp
      have e6 : (w5.setCell ⟨pb, 1, none⟩ (.slice A5 (T'.length + 1) c5)).heap.size = w5.heap.size := by simp
      have e8 : (w7.setCell ⟨pb, 2, none⟩ (.slice A7 (Z.length + 1) c7)).heap.size = w7.heap.size := by simp
      have hbel : Below B w (w7.setCell ⟨pb, 2, none⟩ (.slice A7 (Z.length + 1) c7)) := ((((HW3.out.trans (below_low w4 (by omega) (by omega))).trans (below_low w5w (by omega) (by omega))).trans (below_low q5 (by omega) (by omega))).trans (below_low w7w (by omega) (by omega))).trans (below_low q7 (by omega) (by omega))
      have hf8 := own_block (own_block (own_block (own_block HF4.out (w5w.block gF (HF4.out.lt gF rfl).2 (by omega))) (q5.block gF (by have := (HF4.out.lt gF rfl).2; omega) (by omega))) (w7w.block gF (by have := (HF4.out.lt gF rfl).2; omega) (by omega))) (q7.block gF (by have := (HF4.out.lt gF rfl).2; omega) (by omega))
      have ht8 := ((hr5.within q5 (by omega)).within w7w (by omega)).within q7 (by omega)
      have hz8 := hr7.within q7 (by omega)
      have hc8 := HST7.out.set2 (.slice A7 (Z.length + 1) c7)
      refine ⟨hbel, .inr ⟨(F'.set a (d1 - 1), (T' ++ [(a : Int)]), (Z ++ [(n : Int)])), A5, c5, A7, c7, (lo5, hi5), (lo7, hi7), rfl, ?_, ⟨⟨by show f.2 ≤ _; omega, .inr ⟨gF, rfl, g1, g2, own_rebase hf8 g1⟩⟩, ht8, hz8, ?_, ?_, ?_⟩, ?_, ?_, ?_⟩⟩
      · unfold plaR
        rw [Int.toNat_natCast, HX.out, HG.out]
        simp only [Option.map_some, Int.toNat_natCast, HD.out.1, HD.out.2]
        rw [if_neg c1]
      · unfold Dis; show f.2 ≤ lo5 ∨ hi5 ≤ f.1; omega
      · unfold Dis; show f.2 ≤ lo7 ∨ hi7 ≤ f.1; omega
      · unfold Dis; show hi5 ≤ lo7 ∨ hi7 ≤ lo5; omega
      · show Cel3 _ pb _ (.slice _ (F'.set a (d1 - 1)).length _) (.slice _ (T' ++ [(a : Int)]).length _) (.slice _ (Z ++ [(n : Int)]).length _)
        rw [List.length_set, List.length_append, List.length_append]
        exact hc8
      · rcases hor5 with ⟨rfl, rfl⟩ | h
        · exact .inl rfl
        · exact .inr ⟨by show w.heap.size ≤ lo5; omega, by show lo5 ≤ _; omega⟩
      · rcases hor7 with ⟨rfl, rfl⟩ | h
        · exact .inl rfl
        · exact .inr ⟨by show w.heap.size ≤ lo7; omega, by show lo7 ≤ _; omega⟩
end Go.Proofs.Ytggibhhdnlifcaa
/- What impl.NewPebbles answers: the two other rows are nil. No condition. -/
namespace Go.Proofs.Ytggibhhdnlifcaa
open Go.RowKit

/-- A new state and a bool: the free pebbles in a row of the call's own, the other rows nil. -/
def NewOB (w : World) (F : List Int) (r : Bool) (e : Ending) (w' : World) : Prop :=
  ∃ (AF : Option Addr) (cF a b : Nat), e = .returned (.tuple #[pebV AF F.length cF none 0 0 none 0 0, .bool r]) ∧ OwnInts w' a b AF cF F ∧ w.heap.size ≤ a ∧ b ≤ w'.heap.size ∧ Below w.heap.size w w'

set_option maxHeartbeats 2000000 in
set_option maxRecDepth 100000 in
theorem implNewN (p k : Int) (l : List (Int × Int)) (A : Option Addr) (cap : Nat) (w : World) (hl : BarsAt w w.heap.size A l) (hn : l.length ≤ 1048576) :
    Calls Try.prog 59 #[.agg #[.int .i64 p, .slice A l.length cap], .int .i64 k] w (NewOB w (newF p k l) (newB p k l)) := by
  have HISG : ∀ W : World, BarsAt W W.heap.size A l → Calls Try.prog 86 #[.agg #[.int .i64 p, .slice A l.length cap]] W fun e w' => e = .returned (.bool (isGB p l)) ∧ Below W.heap.size W w' := fun W h => implIsGraph p l A cap W h hn
  by_cases hbad : isGB p l = false ∨ k < 1 ∨ 3 < k
  · have HR := Lib.hid (new_no hbad)
    rcases hg : isGB p l with _ | _
    · skip
      rw [hg] at HISG
      clear hbad
      have W0 := Lib.hid (Below.refl w.heap.size w)
      have HB_0 := Lib.hid (bars_in hl)
      clear hl
      have Z1 := Lib.hid (within_alloc w (.cells #[.int .i64 p, (.slice A l.length cap)] 30)).size
      have W1 := Lib.hid (within_on W0.out (within_alloc w (.cells #[.int .i64 p, (.slice A l.length cap)] 30)) W0.out.size (.inr (Nat.le_refl _)))
      have HB_1 := Lib.hid (HB_0.out.within (within_alloc w (.cells #[.int .i64 p, (.slice A l.length cap)] 30)) (by omega))
      have Y1 := Lib.hid (show (w.alloc (.cells #[.int .i64 p, (.slice A l.length cap)] 30)).heap.size = w.heap.size + 1 by simp)
      have hnew := box_new w p (.slice A l.length cap) 30
      have BX_1 := Lib.hid hnew
      clear hnew
      have Z2 := Lib.hid (within_alloc (w.alloc (.cells #[.int .i64 p, (.slice A l.length cap)] 30)) (.cells #[(.slice none 0 0), (.slice none 0 0), (.slice none 0 0)] 63)).size
      have W2 := Lib.hid (within_on W1.out (within_alloc (w.alloc (.cells #[.int .i64 p, (.slice A l.length cap)] 30)) (.cells #[(.slice none 0 0), (.slice none 0 0), (.slice none 0 0)] 63)) W1.out.size (.inr (Nat.le_refl _)))
      have HB_2 := Lib.hid (HB_1.out.within (within_alloc (w.alloc (.cells #[.int .i64 p, (.slice A l.length cap)] 30)) (.cells #[(.slice none 0 0), (.slice none 0 0), (.slice none 0 0)] 63)) (by omega))
      have BX_2 := Lib.hid (BX_1.out.within (within_alloc (w.alloc (.cells #[.int .i64 p, (.slice A l.length cap)] 30)) (.cells #[(.slice none 0 0), (.slice none 0 0), (.slice none 0 0)] 63)) (by omega))
      have Y2 := Lib.hid (show ((w.alloc (.cells #[.int .i64 p, (.slice A l.length cap)] 30)).alloc (.cells #[(.slice none 0 0), (.slice none 0 0), (.slice none 0 0)] 63)).heap.size = (w.alloc (.cells #[.int .i64 p, (.slice A l.length cap)] 30)).heap.size + 1 by simp)
      have hnew := cel3_new (w.alloc (.cells #[.int .i64 p, (.slice A l.length cap)] 30)) (.slice none 0 0) (.slice none 0 0) (.slice none 0 0) 63
      rw [show (w.alloc (.cells #[.int .i64 p, (.slice A l.length cap)] 30)).heap.size = w.heap.size + 1 by simp] at hnew
      have GR_2 := Lib.hid hnew
      clear hnew
      go_enter Try.func59, Try.ntmps59
      obtain ⟨g0_0, g0_1, g0_2⟩ := BX_2.out
      go_wp2_with fail
      clear g0_0 g0_1 g0_2
      generalize ((w.alloc (.cells #[.int .i64 p, (.slice A l.length cap)] 30)).alloc (.cells #[(.slice none 0 0), (.slice none 0 0), (.slice none 0 0)] 63)) = w2 at *
      generalize (w.alloc (.cells #[.int .i64 p, (.slice A l.length cap)] 30)) = w1 at *
      refine (HISG _ HB_2.out.at).mono ?_
      rintro e w3 ⟨rfl, hb⟩
      have Z3 := Lib.hid (within_of hb).size
      have W3 := Lib.hid (within_on W2.out (within_of hb) W2.out.size (.inr (Nat.le_refl _)))
      have HB_3 := Lib.hid (HB_2.out.within (within_of hb) (by omega))
      have BX_3 := Lib.hid (BX_2.out.within (within_of hb) (by omega))
      have GR_3 := Lib.hid (GR_2.out.within (within_of hb) (by omega))
      clear hb HISG
      obtain ⟨g1_0, g1_1, g1_2, g1_3, g1_4, g1_5⟩ := GR_3.out.cells
      have Z4 := Lib.hid ((ret3 GR_3.out (.slice none 0 0) (.slice none 0 0) (.slice none 0 0)).2).size
      have W4 := Lib.hid (within_on W3.out ((ret3 GR_3.out (.slice none 0 0) (.slice none 0 0) (.slice none 0 0)).2) W3.out.size (by have := Z1.out; have := Z2.out; have := Z3.out; have := Z4.out; have := Y1.out; have := Y2.out; omega))
      have HB_4 := Lib.hid (HB_3.out.within ((ret3 GR_3.out (.slice none 0 0) (.slice none 0 0) (.slice none 0 0)).2) (by have := Z1.out; have := Z2.out; have := Z3.out; have := Z4.out; have := Y1.out; have := Y2.out; omega))
      have BX_4 := Lib.hid (BX_3.out.within ((ret3 GR_3.out (.slice none 0 0) (.slice none 0 0) (.slice none 0 0)).2) (by have := Z1.out; have := Z2.out; have := Z3.out; have := Z4.out; have := Y1.out; have := Y2.out; omega))
      have GR_4 := Lib.hid ((ret3 GR_3.out (.slice none 0 0) (.slice none 0 0) (.slice none 0 0)).1)
      obtain ⟨g2_0, g2_1, g2_2, g2_3, g2_4, g2_5⟩ := GR_4.out.cells
      go_wp2_with fail
      generalize (((w3.setCell ⟨w.heap.size + 1, 0, none⟩ (.slice none 0 0)).setCell ⟨w.heap.size + 1, 1, none⟩ (.slice none 0 0)).setCell ⟨w.heap.size + 1, 2, none⟩ (.slice none 0 0)) = w4 at *
      refine bodyPost_ret (v := .tuple #[pebV none 0 0 none 0 0 none 0 0, .bool false]) ?_ rfl ?_
      · simp [results, Try.results59, go_sem, g2_0, g2_1, g2_2]
      · rw [HR.out.1, HR.out.2]
        exact ⟨none, 0, _, _, rfl, ⟨Nat.le_refl _, .inl rfl⟩, W4.out.size, Nat.le_refl _, W4.out⟩
    · skip
      rw [hg] at HISG
      have hk : (k < 1) ∨ (¬ k < 1 ∧ 3 < k) := by simp only [hg] at hbad; simp at hbad; omega
      clear hbad
      have W0 := Lib.hid (Below.refl w.heap.size w)
      have HB_0 := Lib.hid (bars_in hl)
      clear hl
      have Z1 := Lib.hid (within_alloc w (.cells #[.int .i64 p, (.slice A l.length cap)] 30)).size
      have W1 := Lib.hid (within_on W0.out (within_alloc w (.cells #[.int .i64 p, (.slice A l.length cap)] 30)) W0.out.size (.inr (Nat.le_refl _)))
      have HB_1 := Lib.hid (HB_0.out.within (within_alloc w (.cells #[.int .i64 p, (.slice A l.length cap)] 30)) (by omega))
      have Y1 := Lib.hid (show (w.alloc (.cells #[.int .i64 p, (.slice A l.length cap)] 30)).heap.size = w.heap.size + 1 by simp)
      have hnew := box_new w p (.slice A l.length cap) 30
      have BX_1 := Lib.hid hnew
      clear hnew
      have Z2 := Lib.hid (within_alloc (w.alloc (.cells #[.int .i64 p, (.slice A l.length cap)] 30)) (.cells #[(.slice none 0 0), (.slice none 0 0), (.slice none 0 0)] 63)).size
      have W2 := Lib.hid (within_on W1.out (within_alloc (w.alloc (.cells #[.int .i64 p, (.slice A l.length cap)] 30)) (.cells #[(.slice none 0 0), (.slice none 0 0), (.slice none 0 0)] 63)) W1.out.size (.inr (Nat.le_refl _)))
      have HB_2 := Lib.hid (HB_1.out.within (within_alloc (w.alloc (.cells #[.int .i64 p, (.slice A l.length cap)] 30)) (.cells #[(.slice none 0 0), (.slice none 0 0), (.slice none 0 0)] 63)) (by omega))
      have BX_2 := Lib.hid (BX_1.out.within (within_alloc (w.alloc (.cells #[.int .i64 p, (.slice A l.length cap)] 30)) (.cells #[(.slice none 0 0), (.slice none 0 0), (.slice none 0 0)] 63)) (by omega))
      have Y2 := Lib.hid (show ((w.alloc (.cells #[.int .i64 p, (.slice A l.length cap)] 30)).alloc (.cells #[(.slice none 0 0), (.slice none 0 0), (.slice none 0 0)] 63)).heap.size = (w.alloc (.cells #[.int .i64 p, (.slice A l.length cap)] 30)).heap.size + 1 by simp)
      have hnew := cel3_new (w.alloc (.cells #[.int .i64 p, (.slice A l.length cap)] 30)) (.slice none 0 0) (.slice none 0 0) (.slice none 0 0) 63
      rw [show (w.alloc (.cells #[.int .i64 p, (.slice A l.length cap)] 30)).heap.size = w.heap.size + 1 by simp] at hnew
      have GR_2 := Lib.hid hnew
      clear hnew
      go_enter Try.func59, Try.ntmps59
      obtain ⟨g0_0, g0_1, g0_2⟩ := BX_2.out
      go_wp2_with fail
      clear g0_0 g0_1 g0_2
      generalize ((w.alloc (.cells #[.int .i64 p, (.slice A l.length cap)] 30)).alloc (.cells #[(.slice none 0 0), (.slice none 0 0), (.slice none 0 0)] 63)) = w2 at *
      generalize (w.alloc (.cells #[.int .i64 p, (.slice A l.length cap)] 30)) = w1 at *
      refine (HISG _ HB_2.out.at).mono ?_
      rintro e w3 ⟨rfl, hb⟩
      have Z3 := Lib.hid (within_of hb).size
      have W3 := Lib.hid (within_on W2.out (within_of hb) W2.out.size (.inr (Nat.le_refl _)))
      have HB_3 := Lib.hid (HB_2.out.within (within_of hb) (by omega))
      have BX_3 := Lib.hid (BX_2.out.within (within_of hb) (by omega))
      have GR_3 := Lib.hid (GR_2.out.within (within_of hb) (by omega))
      clear hb HISG
      rcases hk with hk | ⟨hk1, hk⟩
      all_goals
        obtain ⟨g1_0, g1_1, g1_2, g1_3, g1_4, g1_5⟩ := GR_3.out.cells
        have Z4 := Lib.hid ((ret3 GR_3.out (.slice none 0 0) (.slice none 0 0) (.slice none 0 0)).2).size
        have W4 := Lib.hid (within_on W3.out ((ret3 GR_3.out (.slice none 0 0) (.slice none 0 0) (.slice none 0 0)).2) W3.out.size (by have := Z1.out; have := Z2.out; have := Z3.out; have := Z4.out; have := Y1.out; have := Y2.out; omega))
        have HB_4 := Lib.hid (HB_3.out.within ((ret3 GR_3.out (.slice none 0 0) (.slice none 0 0) (.slice none 0 0)).2) (by have := Z1.out; have := Z2.out; have := Z3.out; have := Z4.out; have := Y1.out; have := Y2.out; omega))
        have BX_4 := Lib.hid (BX_3.out.within ((ret3 GR_3.out (.slice none 0 0) (.slice none 0 0) (.slice none 0 0)).2) (by have := Z1.out; have := Z2.out; have := Z3.out; have := Z4.out; have := Y1.out; have := Y2.out; omega))
        have GR_4 := Lib.hid ((ret3 GR_3.out (.slice none 0 0) (.slice none 0 0) (.slice none 0 0)).1)
        obtain ⟨g2_0, g2_1, g2_2, g2_3, g2_4, g2_5⟩ := GR_4.out.cells
        go_wp2_with fail
        generalize (((w3.setCell ⟨w.heap.size + 1, 0, none⟩ (.slice none 0 0)).setCell ⟨w.heap.size + 1, 1, none⟩ (.slice none 0 0)).setCell ⟨w.heap.size + 1, 2, none⟩ (.slice none 0 0)) = w4 at *
        refine bodyPost_ret (v := .tuple #[pebV none 0 0 none 0 0 none 0 0, .bool false]) ?_ rfl ?_
        · simp [results, Try.results59, go_sem, g2_0, g2_1, g2_2]
        · rw [HR.out.1, HR.out.2]
          exact ⟨none, 0, _, _, rfl, ⟨Nat.le_refl _, .inl rfl⟩, W4.out.size, Nat.le_refl _, W4.out⟩
  · skip
    have hg : isGB p l = true := by
      cases h : isGB p l with
      | true => rfl
      | false => exact absurd (.inl h) hbad
    have hG : IsG p l := Classical.byContradiction fun g => by rw [isGB_no g] at hg; cases hg
    obtain ⟨P, rfl⟩ : ∃ P : Nat, p = (P : Int) := ⟨p.toNat, by have := hG.1; omega⟩
    have hP : 1 ≤ P ∧ P ≤ 8 := by have := hG.1; omega
    have hk1 : ¬ k < 1 := by omega
    have hk2 : ¬ 3 < k := by omega
    have HR := Lib.hid (new_yes (l := l) hg (by omega : 1 ≤ k) (by omega))
    rw [hg] at HISG
    clear hbad hG hg
    have W0 := Lib.hid (Below.refl w.heap.size w)
    have HB_0 := Lib.hid (bars_in hl)
    clear hl
    have Z1 := Lib.hid (within_alloc w (.cells #[.int .i64 (P : Int), (.slice A l.length cap)] 30)).size
    have W1 := Lib.hid (within_on W0.out (within_alloc w (.cells #[.int .i64 (P : Int), (.slice A l.length cap)] 30)) W0.out.size (.inr (Nat.le_refl _)))
    have HB_1 := Lib.hid (HB_0.out.within (within_alloc w (.cells #[.int .i64 (P : Int), (.slice A l.length cap)] 30)) (by omega))
    have Y1 := Lib.hid (show (w.alloc (.cells #[.int .i64 (P : Int), (.slice A l.length cap)] 30)).heap.size = w.heap.size + 1 by simp)
    have hnew := box_new w (P : Int) (.slice A l.length cap) 30
    have BX_1 := Lib.hid hnew
    clear hnew
    have Z2 := Lib.hid (within_alloc (w.alloc (.cells #[.int .i64 (P : Int), (.slice A l.length cap)] 30)) (.cells #[(.slice none 0 0), (.slice none 0 0), (.slice none 0 0)] 63)).size
    have W2 := Lib.hid (within_on W1.out (within_alloc (w.alloc (.cells #[.int .i64 (P : Int), (.slice A l.length cap)] 30)) (.cells #[(.slice none 0 0), (.slice none 0 0), (.slice none 0 0)] 63)) W1.out.size (.inr (Nat.le_refl _)))
    have HB_2 := Lib.hid (HB_1.out.within (within_alloc (w.alloc (.cells #[.int .i64 (P : Int), (.slice A l.length cap)] 30)) (.cells #[(.slice none 0 0), (.slice none 0 0), (.slice none 0 0)] 63)) (by omega))
    have BX_2 := Lib.hid (BX_1.out.within (within_alloc (w.alloc (.cells #[.int .i64 (P : Int), (.slice A l.length cap)] 30)) (.cells #[(.slice none 0 0), (.slice none 0 0), (.slice none 0 0)] 63)) (by omega))
    have Y2 := Lib.hid (show ((w.alloc (.cells #[.int .i64 (P : Int), (.slice A l.length cap)] 30)).alloc (.cells #[(.slice none 0 0), (.slice none 0 0), (.slice none 0 0)] 63)).heap.size = (w.alloc (.cells #[.int .i64 (P : Int), (.slice A l.length cap)] 30)).heap.size + 1 by simp)
    have hnew := cel3_new (w.alloc (.cells #[.int .i64 (P : Int), (.slice A l.length cap)] 30)) (.slice none 0 0) (.slice none 0 0) (.slice none 0 0) 63
    rw [show (w.alloc (.cells #[.int .i64 (P : Int), (.slice A l.length cap)] 30)).heap.size = w.heap.size + 1 by simp] at hnew
    have GR_2 := Lib.hid hnew
    clear hnew
    go_enter Try.func59, Try.ntmps59
    obtain ⟨g0_0, g0_1, g0_2⟩ := BX_2.out
    go_wp2_with fail
    clear g0_0 g0_1 g0_2
    generalize ((w.alloc (.cells #[.int .i64 (P : Int), (.slice A l.length cap)] 30)).alloc (.cells #[(.slice none 0 0), (.slice none 0 0), (.slice none 0 0)] 63)) = w2 at *
    generalize (w.alloc (.cells #[.int .i64 (P : Int), (.slice A l.length cap)] 30)) = w1 at *
    refine (HISG _ HB_2.out.at).mono ?_
    rintro e w3 ⟨rfl, hb⟩
    have Z3 := Lib.hid (within_of hb).size
    have W3 := Lib.hid (within_on W2.out (within_of hb) W2.out.size (.inr (Nat.le_refl _)))
    have HB_3 := Lib.hid (HB_2.out.within (within_of hb) (by omega))
    have BX_3 := Lib.hid (BX_2.out.within (within_of hb) (by omega))
    have GR_3 := Lib.hid (GR_2.out.within (within_of hb) (by omega))
    clear hb HISG
    have Z4 := Lib.hid (within_alloc w3 (.cells #[.int .i64 k] 3)).size
    have W4 := Lib.hid (within_on W3.out (within_alloc w3 (.cells #[.int .i64 k] 3)) W3.out.size (.inr (Nat.le_refl _)))
    have HB_4 := Lib.hid (HB_3.out.within (within_alloc w3 (.cells #[.int .i64 k] 3)) (by omega))
    have BX_4 := Lib.hid (BX_3.out.within (within_alloc w3 (.cells #[.int .i64 k] 3)) (by omega))
    have GR_4 := Lib.hid (GR_3.out.within (within_alloc w3 (.cells #[.int .i64 k] 3)) (by omega))
    have Y4 := Lib.hid (show (w3.alloc (.cells #[.int .i64 k] 3)).heap.size = w3.heap.size + 1 by simp)
    have hck : (w3.alloc (.cells #[.int .i64 k] 3)).cell? ⟨w3.heap.size, 0, none⟩ = some (.int .i64 k) := by rw [World.cell?_alloc_at _ _ _ _ rfl]; rfl
    have HCK := Lib.hid hck
    clear hck
    obtain ⟨g1_0, g1_1, g1_2⟩ := BX_4.out
    go_wp2_with fail
    clear g1_0 g1_1 g1_2
    generalize (w3.alloc (.cells #[.int .i64 k] 3)) = w4 at *
    refine (slRepeat P k w3.heap.size _ hP.1 hP.2 HCK.out).mono ?_
    rintro e w5 ⟨g, rfl, ho, hb⟩
    have Z5 := Lib.hid (within_of hb).size
    have W5 := Lib.hid (within_on W4.out (within_of hb) W4.out.size (.inr (Nat.le_refl _)))
    have HB_5 := Lib.hid (HB_4.out.within (within_of hb) (by omega))
    have BX_5 := Lib.hid (BX_4.out.within (within_of hb) (by omega))
    have GR_5 := Lib.hid (GR_4.out.within (within_of hb) (by omega))
    have OF_5 := Lib.hid (own_ints' (zs := List.replicate P k) (by rw [List.length_replicate]; exact ho))
    clear ho hb
    obtain ⟨g2_0, g2_1, g2_2, g2_3, g2_4, g2_5⟩ := GR_5.out.cells
    have Z6 := Lib.hid ((ret3 GR_5.out (.slice (some ⟨g, 0, none⟩) P P) (.slice none 0 0) (.slice none 0 0)).2).size
    have W6 := Lib.hid (within_on W5.out ((ret3 GR_5.out (.slice (some ⟨g, 0, none⟩) P P) (.slice none 0 0) (.slice none 0 0)).2) W5.out.size (by have := Z1.out; have := Z2.out; have := Z3.out; have := Z4.out; have := Z5.out; have := Z6.out; have := Y1.out; have := Y2.out; have := Y4.out; omega))
    have HB_6 := Lib.hid (HB_5.out.within ((ret3 GR_5.out (.slice (some ⟨g, 0, none⟩) P P) (.slice none 0 0) (.slice none 0 0)).2) (by have := Z1.out; have := Z2.out; have := Z3.out; have := Z4.out; have := Z5.out; have := Z6.out; have := Y1.out; have := Y2.out; have := Y4.out; omega))
    have BX_6 := Lib.hid (BX_5.out.within ((ret3 GR_5.out (.slice (some ⟨g, 0, none⟩) P P) (.slice none 0 0) (.slice none 0 0)).2) (by have := Z1.out; have := Z2.out; have := Z3.out; have := Z4.out; have := Z5.out; have := Z6.out; have := Y1.out; have := Y2.out; have := Y4.out; omega))
    have GR_6 := Lib.hid ((ret3 GR_5.out (.slice (some ⟨g, 0, none⟩) P P) (.slice none 0 0) (.slice none 0 0)).1)
    have OF_6 := Lib.hid (OF_5.out.within ((ret3 GR_5.out (.slice (some ⟨g, 0, none⟩) P P) (.slice none 0 0) (.slice none 0 0)).2) (by have := Z1.out; have := Z2.out; have := Z3.out; have := Z4.out; have := Z5.out; have := Z6.out; have := Y1.out; have := Y2.out; have := Y4.out; omega))
    obtain ⟨g3_0, g3_1, g3_2, g3_3, g3_4, g3_5⟩ := GR_6.out.cells
    go_wp2_with fail
    generalize (((w5.setCell ⟨w.heap.size + 1, 0, none⟩ (.slice (some ⟨g, 0, none⟩) P P)).setCell ⟨w.heap.size + 1, 1, none⟩ (.slice none 0 0)).setCell ⟨w.heap.size + 1, 2, none⟩ (.slice none 0 0)) = w6 at *
    refine bodyPost_ret (v := .tuple #[pebV (some ⟨g, 0, none⟩) P P none 0 0 none 0 0, .bool true]) ?_ rfl ?_
    · simp [results, Try.results59, go_sem, g3_0, g3_1, g3_2]
    · rw [HR.out.1, HR.out.2]
      exact ⟨some ⟨g, 0, none⟩, P, _, _, by rw [List.length_replicate], OF_6.out, (by have := Z1.out; have := Z2.out; have := Z3.out; have := Z4.out; have := Z5.out; have := Z6.out; have := Y1.out; have := Y2.out; have := Y4.out; omega), (by have := Z1.out; have := Z2.out; have := Z3.out; have := Z4.out; have := Z5.out; have := Z6.out; have := Y1.out; have := Y2.out; have := Y4.out; omega), W6.out⟩

end Go.Proofs.Ytggibhhdnlifcaa
/- What impl.RunPebbles answers. No condition. -/
namespace Go.Proofs.Ytggibhhdnlifcaa
open Go.RowKit

/-- What stands in the program's run of the game: the graph's box, the result's box, the state's box with its rows' ranges. -/
structure RunI (w W : World) (P : Nat) (A : Option Addr) (cap : Nat) (l : List (Int × Int)) (pb : Nat) (f t z : Nat × Nat) (AF AT AZ : Option Addr) (cF cT cZ : Nat) (R : List Int × List Int × List Int) : Prop where
  gb : Box W w.heap.size (P : Int) (.slice A l.length cap)
  rb : Cel3 W (w.heap.size + 1) 63 (.slice none 0 0) (.slice none 0 0) (.slice none 0 0)
  st : Cel3 W pb 63 (.slice AF R.1.length cF) (.slice AT R.2.1.length cT) (.slice AZ R.2.2.length cZ)
  own : OwnF W f t z AF cF AT cT AZ cZ R.1 R.2.1 R.2.2
  bars : BarsIn W 0 w.heap.size A l
  bel : Below w.heap.size w W
  lo : w.heap.size + 2 ≤ pb ∧ w.heap.size + 2 ≤ f.1 ∧ w.heap.size + 2 ≤ t.1 ∧ w.heap.size + 2 ≤ z.1
  hp : (pb < f.1 ∨ f.2 ≤ pb) ∧ (pb < t.1 ∨ t.2 ≤ pb) ∧ (pb < z.1 ∨ z.2 ≤ pb)
  hs : t.1 ≤ W.heap.size ∧ z.1 ≤ W.heap.size
theorem RunI.mk0 {w W : World} {P : Nat} {k c : Int} {A : Option Addr} {cap : Nat} {l : List (Int × Int)} {pb a b : Nat} {AF : Option Addr} {cF : Nat} (g : Box W w.heap.size (P : Int) (.slice A l.length cap)) (r : Cel3 W (w.heap.size + 1) 63 (.slice none 0 0) (.slice none 0 0) (.slice none 0 0))
    (h : Cel3 W pb 63 (.slice AF (runN P k c l 0).1.length cF) (.slice none 0 0) (.slice none 0 0)) (ho : OwnR W a b AF cF (runN P k c l 0).1) (hb : BarsIn W 0 w.heap.size A l) (hw : Below w.heap.size w W) (h1 : w.heap.size + 2 ≤ pb) (h2 : w.heap.size + 2 ≤ a) (h3 : b ≤ pb) (h4 : pb < W.heap.size) :
    RunI w W P A cap l pb (a, b) (W.heap.size, W.heap.size) (W.heap.size, W.heap.size) AF none none cF 0 0 (runN P k c l 0) :=
  ⟨g, r, h, ⟨ho, ⟨Nat.le_refl _, .inl ⟨rfl, rfl, rfl⟩⟩, ⟨Nat.le_refl _, .inl ⟨rfl, rfl, rfl⟩⟩, .inl (by show b ≤ W.heap.size; omega), .inl (by show b ≤ W.heap.size; omega), .inl (Nat.le_refl _)⟩, hb, hw,
    ⟨h1, h2, by show _ ≤ W.heap.size; omega, by show _ ≤ W.heap.size; omega⟩, ⟨.inr h3, .inl h4, .inl h4⟩, ⟨Nat.le_refl _, Nat.le_refl _⟩⟩
theorem runN_zero {P : Nat} {k c : Int} {l : List (Int × Int)} (h : newB (P : Int) k l = true) : (runN P k c l 0).1 ≠ [] := by
  have h1 := (newB_is h).1.1
  intro e
  have h2 : (runN P k c l 0).1.length = P := by simp [runN]
  rw [e] at h2
  simp at h2
  omega
theorem own_new {W : World} {a b : Nat} {A : Option Addr} {cap : Nat} {zs : List Int} (h : OwnInts W a b A cap zs) (hz : zs ≠ []) : OwnR W a b A cap zs :=
  ⟨h.1, by
    rcases h.2 with e | r
    · exact absurd e hz
    · exact .inr r⟩
/-- The program's next bar. -/
theorem RunI.call {w W : World} {P : Nat} {k c : Int} {A : Option Addr} {cap : Nat} {l : List (Int × Int)} {pb : Nat} {f t z : Nat × Nat} {AF AT AZ : Option Addr} {cF cT cZ : Nat} {n : Nat} (h : RunI w W P A cap l pb f t z AF AT AZ cF cT cZ (runN P k c l n)) (hk : newB (P : Int) k l = true) (hr : rangeB k c = true) (hn : n < l.length) :
    Calls Try.prog 114 #[.pointer (some ⟨pb, 0, none⟩), .agg #[.int .i64 (P : Int), .slice A l.length cap], .int .i64 c, .int .i64 (n : Int)] W (fun e W' => ∃ (b : Bool) (f' t' z' : Nat × Nat) (BF BT BZ : Option Addr) (dF dT dZ : Nat), e = .returned (.bool b) ∧ RunI w W' P A cap l pb f' t' z' BF BT BZ dF dT dZ (runN P k c l (n + 1))) := by
  obtain ⟨h1, h2, h3, h4, h5, h6, h7, h8, h9⟩ := h
  have hlt := h3.lt
  have hs := runN_step hk hr hn
  have hrr := rangeB_is hr
  have hs0 := h6.size
  refine (place_c P k l A cap pb (w.heap.size + 2) f t z AF AT AZ cF cT cZ _ _ _ c n W (runN_at hk hr (Nat.le_of_lt hn)) (by omega) hn (h5.widen (Nat.le_refl _) (by omega) (by omega)) h3 h4 (by omega) h8.1 h8.2.1 h8.2.2 h9.1 h9.2).mono ?_
  rintro e W' ⟨hb, ⟨rfl, hp, ho, hc⟩ | ⟨s, AT', cT', AZ', cZ', t', z', rfl, hp, ho, hc, ht, hz⟩⟩
  · have hw := within_low hb
    have e1 : runN P k c l (n + 1) = runN P k c l n := by rw [hs.2, hp]; rfl
    have hsz := hb.size
    rw [e1]
    exact ⟨false, f, t, z, AF, AT, AZ, cF, cT, cZ, rfl, h1.within hw (by omega), h2.within hw (by omega), hc, ho, h5.within hw (by omega), within_on h6 hw h6.size (.inl (by omega)), h7, h8, by omega, by omega⟩
  · have hw := within_low hb
    have e1 : runN P k c l (n + 1) = s := by rw [hs.2, hp]; rfl
    have hsz := hb.size
    rw [e1]
    refine ⟨true, f, t', z', AF, AT', AZ', cF, cT', cZ', rfl, h1.within hw (by omega), h2.within hw (by omega), hc, ho, h5.within hw (by omega), within_on h6 hw h6.size (.inl (by omega)), ⟨h7.1, h7.2.1, ?_, ?_⟩, ⟨h8.1, ?_, ?_⟩, ?_, ?_⟩
    · rcases ht with e | e
      · rw [e]; exact h7.2.2.1
      · omega
    · rcases hz with e | e
      · rw [e]; exact h7.2.2.2
      · omega
    · rcases ht with e | e
      · rw [e]; exact h8.2.1
      · omega
    · rcases hz with e | e
      · rw [e]; exact h8.2.2
      · omega
    · rcases ht with e | e
      · rw [e]; omega
      · omega
    · rcases hz with e | e
      · rw [e]; omega
      · omega

set_option maxHeartbeats 4000000 in
set_option maxRecDepth 100000 in
theorem implRunP (p k c : Int) (l : List (Int × Int)) (A : Option Addr) (cap : Nat) (w : World) (hl : BarsAt w w.heap.size A l) (hn : l.length ≤ 1048576) :
    Calls Try.prog 39 #[.agg #[.int .i64 p, .slice A l.length cap], .int .i64 k, .int .i64 c] w (PebOB w (runV p k c l).1 (runV p k c l).2.1 (runV p k c l).2.2 (runB p k c l)) := by
  by_cases hb1 : newB p k l = true
  case neg =>
    have hb1' : newB p k l = false := by simpa using hb1
    have HR := Lib.hid (runV_no (c := c) (.inl hb1'))
    clear hb1
    rename newB p k l = false => hb1
    have HNW : ∀ W : World, BarsAt W W.heap.size A l → Calls Try.prog 59 #[.agg #[.int .i64 p, .slice A l.length cap], .int .i64 k] W (NewOB W (newF p k l) false) := fun W h => by have hc := implNewN p k l A cap W h hn; rw [hb1] at hc; exact hc
    clear hb1
    have W0 := Lib.hid (Below.refl w.heap.size w)
    have HB_0 := Lib.hid (bars_in hl)
    clear hl
    have Z1 := Lib.hid (within_alloc w (.cells #[.int .i64 p, (.slice A l.length cap)] 30)).size
    have W1 := Lib.hid (within_on W0.out (within_alloc w (.cells #[.int .i64 p, (.slice A l.length cap)] 30)) W0.out.size (.inr (Nat.le_refl _)))
    have HB_1 := Lib.hid (HB_0.out.within (within_alloc w (.cells #[.int .i64 p, (.slice A l.length cap)] 30)) (by omega))
    have Y1 := Lib.hid (show (w.alloc (.cells #[.int .i64 p, (.slice A l.length cap)] 30)).heap.size = w.heap.size + 1 by simp)
    have hnew := box_new w p (.slice A l.length cap) 30
    have BX_1 := Lib.hid hnew
    clear hnew
    have Z2 := Lib.hid (within_alloc (w.alloc (.cells #[.int .i64 p, (.slice A l.length cap)] 30)) (.cells #[(.slice none 0 0), (.slice none 0 0), (.slice none 0 0)] 63)).size
    have W2 := Lib.hid (within_on W1.out (within_alloc (w.alloc (.cells #[.int .i64 p, (.slice A l.length cap)] 30)) (.cells #[(.slice none 0 0), (.slice none 0 0), (.slice none 0 0)] 63)) W1.out.size (.inr (Nat.le_refl _)))
    have HB_2 := Lib.hid (HB_1.out.within (within_alloc (w.alloc (.cells #[.int .i64 p, (.slice A l.length cap)] 30)) (.cells #[(.slice none 0 0), (.slice none 0 0), (.slice none 0 0)] 63)) (by omega))
    have BX_2 := Lib.hid (BX_1.out.within (within_alloc (w.alloc (.cells #[.int .i64 p, (.slice A l.length cap)] 30)) (.cells #[(.slice none 0 0), (.slice none 0 0), (.slice none 0 0)] 63)) (by omega))
    have Y2 := Lib.hid (show ((w.alloc (.cells #[.int .i64 p, (.slice A l.length cap)] 30)).alloc (.cells #[(.slice none 0 0), (.slice none 0 0), (.slice none 0 0)] 63)).heap.size = (w.alloc (.cells #[.int .i64 p, (.slice A l.length cap)] 30)).heap.size + 1 by simp)
    have hnew := cel3_new (w.alloc (.cells #[.int .i64 p, (.slice A l.length cap)] 30)) (.slice none 0 0) (.slice none 0 0) (.slice none 0 0) 63
    rw [show (w.alloc (.cells #[.int .i64 p, (.slice A l.length cap)] 30)).heap.size = w.heap.size + 1 by simp] at hnew
    have GR_2 := Lib.hid hnew
    clear hnew
    go_enter Try.func39, Try.ntmps39
    obtain ⟨g0_0, g0_1, g0_2⟩ := BX_2.out
    go_wp2_with fail
    clear g0_0 g0_1 g0_2
    generalize ((w.alloc (.cells #[.int .i64 p, (.slice A l.length cap)] 30)).alloc (.cells #[(.slice none 0 0), (.slice none 0 0), (.slice none 0 0)] 63)) = w2 at *
    generalize (w.alloc (.cells #[.int .i64 p, (.slice A l.length cap)] 30)) = w1 at *
    refine (HNW _ HB_2.out.at).mono ?_
    rintro e w3 ⟨AF, cF, a, b, rfl, ho, ha1, hb1, hb⟩
    have Z3 := Lib.hid (within_of hb).size
    have W3 := Lib.hid (within_on W2.out (within_of hb) W2.out.size (.inr (Nat.le_refl _)))
    have HB_3 := Lib.hid (HB_2.out.within (within_of hb) (by omega))
    have BX_3 := Lib.hid (BX_2.out.within (within_of hb) (by omega))
    have GR_3 := Lib.hid (GR_2.out.within (within_of hb) (by omega))
    clear hb ho HNW ha1 hb1
    have Z4 := Lib.hid (within_alloc w3 (.cells #[(.slice AF (newF p k l).length cF), (.slice none 0 0), (.slice none 0 0)] 63)).size
    have W4 := Lib.hid (within_on W3.out (within_alloc w3 (.cells #[(.slice AF (newF p k l).length cF), (.slice none 0 0), (.slice none 0 0)] 63)) W3.out.size (.inr (Nat.le_refl _)))
    have HB_4 := Lib.hid (HB_3.out.within (within_alloc w3 (.cells #[(.slice AF (newF p k l).length cF), (.slice none 0 0), (.slice none 0 0)] 63)) (by omega))
    have BX_4 := Lib.hid (BX_3.out.within (within_alloc w3 (.cells #[(.slice AF (newF p k l).length cF), (.slice none 0 0), (.slice none 0 0)] 63)) (by omega))
    have GR_4 := Lib.hid (GR_3.out.within (within_alloc w3 (.cells #[(.slice AF (newF p k l).length cF), (.slice none 0 0), (.slice none 0 0)] 63)) (by omega))
    have Y4 := Lib.hid (show (w3.alloc (.cells #[(.slice AF (newF p k l).length cF), (.slice none 0 0), (.slice none 0 0)] 63)).heap.size = w3.heap.size + 1 by simp)
    have hnew := cel3_new w3 (.slice AF (newF p k l).length cF) (.slice none 0 0) (.slice none 0 0) 63
    have BP_4 := Lib.hid hnew
    clear hnew
    obtain ⟨g1_0, g1_1, g1_2, g1_3, g1_4, g1_5⟩ := GR_4.out.cells
    have Z5 := Lib.hid ((ret3 GR_4.out (.slice none 0 0) (.slice none 0 0) (.slice none 0 0)).2).size
    have W5 := Lib.hid (within_on W4.out ((ret3 GR_4.out (.slice none 0 0) (.slice none 0 0) (.slice none 0 0)).2) W4.out.size (by have := Z1.out; have := Z2.out; have := Z3.out; have := Z4.out; have := Z5.out; have := Y1.out; have := Y2.out; have := Y4.out; omega))
    have HB_5 := Lib.hid (HB_4.out.within ((ret3 GR_4.out (.slice none 0 0) (.slice none 0 0) (.slice none 0 0)).2) (by have := Z1.out; have := Z2.out; have := Z3.out; have := Z4.out; have := Z5.out; have := Y1.out; have := Y2.out; have := Y4.out; omega))
    have BX_5 := Lib.hid (BX_4.out.within ((ret3 GR_4.out (.slice none 0 0) (.slice none 0 0) (.slice none 0 0)).2) (by have := Z1.out; have := Z2.out; have := Z3.out; have := Z4.out; have := Z5.out; have := Y1.out; have := Y2.out; have := Y4.out; omega))
    have GR_5 := Lib.hid ((ret3 GR_4.out (.slice none 0 0) (.slice none 0 0) (.slice none 0 0)).1)
    have BP_5 := Lib.hid (BP_4.out.within ((ret3 GR_4.out (.slice none 0 0) (.slice none 0 0) (.slice none 0 0)).2) (by have := Z1.out; have := Z2.out; have := Z3.out; have := Z4.out; have := Z5.out; have := Y1.out; have := Y2.out; have := Y4.out; omega))
    obtain ⟨g2_0, g2_1, g2_2, g2_3, g2_4, g2_5⟩ := GR_5.out.cells
    go_wp2_with fail
    generalize ((((w3.alloc (.cells #[(.slice AF (newF p k l).length cF), (.slice none 0 0), (.slice none 0 0)] 63)).setCell ⟨w.heap.size + 1, 0, none⟩ (.slice none 0 0)).setCell ⟨w.heap.size + 1, 1, none⟩ (.slice none 0 0)).setCell ⟨w.heap.size + 1, 2, none⟩ (.slice none 0 0)) = w5 at *
    generalize (w3.alloc (.cells #[(.slice AF (newF p k l).length cF), (.slice none 0 0), (.slice none 0 0)] 63)) = w4 at *
    refine bodyPost_ret (v := .tuple #[pebV none 0 0 none 0 0 none 0 0, .bool false]) ?_ rfl ?_
    · simp [results, Try.results39, go_sem, g2_0, g2_1, g2_2]
    · rw [HR.out.1, HR.out.2]
      exact ⟨none, 0, none, 0, none, 0, rfl, own3_nil _ _ W5.out.size _ _ _ _ _ _, W5.out⟩
  by_cases hb2 : rangeB k c = true
  case neg =>
    have hb2' : rangeB k c = false := by simpa using hb2
    have HR := Lib.hid (runV_no (p := p) (l := l) (.inr hb2'))
    have HRG := Lib.hid hb2'
    clear hb2 hb2'
    have HNW : ∀ W : World, BarsAt W W.heap.size A l → Calls Try.prog 59 #[.agg #[.int .i64 p, .slice A l.length cap], .int .i64 k] W (NewOB W (newF p k l) true) := fun W h => by have hc := implNewN p k l A cap W h hn; rw [hb1] at hc; exact hc
    clear hb1
    have W0 := Lib.hid (Below.refl w.heap.size w)
    have HB_0 := Lib.hid (bars_in hl)
    clear hl
    have Z1 := Lib.hid (within_alloc w (.cells #[.int .i64 p, (.slice A l.length cap)] 30)).size
    have W1 := Lib.hid (within_on W0.out (within_alloc w (.cells #[.int .i64 p, (.slice A l.length cap)] 30)) W0.out.size (.inr (Nat.le_refl _)))
    have HB_1 := Lib.hid (HB_0.out.within (within_alloc w (.cells #[.int .i64 p, (.slice A l.length cap)] 30)) (by omega))
    have Y1 := Lib.hid (show (w.alloc (.cells #[.int .i64 p, (.slice A l.length cap)] 30)).heap.size = w.heap.size + 1 by simp)
    have hnew := box_new w p (.slice A l.length cap) 30
    have BX_1 := Lib.hid hnew
    clear hnew
    have Z2 := Lib.hid (within_alloc (w.alloc (.cells #[.int .i64 p, (.slice A l.length cap)] 30)) (.cells #[(.slice none 0 0), (.slice none 0 0), (.slice none 0 0)] 63)).size
    have W2 := Lib.hid (within_on W1.out (within_alloc (w.alloc (.cells #[.int .i64 p, (.slice A l.length cap)] 30)) (.cells #[(.slice none 0 0), (.slice none 0 0), (.slice none 0 0)] 63)) W1.out.size (.inr (Nat.le_refl _)))
    have HB_2 := Lib.hid (HB_1.out.within (within_alloc (w.alloc (.cells #[.int .i64 p, (.slice A l.length cap)] 30)) (.cells #[(.slice none 0 0), (.slice none 0 0), (.slice none 0 0)] 63)) (by omega))
    have BX_2 := Lib.hid (BX_1.out.within (within_alloc (w.alloc (.cells #[.int .i64 p, (.slice A l.length cap)] 30)) (.cells #[(.slice none 0 0), (.slice none 0 0), (.slice none 0 0)] 63)) (by omega))
    have Y2 := Lib.hid (show ((w.alloc (.cells #[.int .i64 p, (.slice A l.length cap)] 30)).alloc (.cells #[(.slice none 0 0), (.slice none 0 0), (.slice none 0 0)] 63)).heap.size = (w.alloc (.cells #[.int .i64 p, (.slice A l.length cap)] 30)).heap.size + 1 by simp)
    have hnew := cel3_new (w.alloc (.cells #[.int .i64 p, (.slice A l.length cap)] 30)) (.slice none 0 0) (.slice none 0 0) (.slice none 0 0) 63
    rw [show (w.alloc (.cells #[.int .i64 p, (.slice A l.length cap)] 30)).heap.size = w.heap.size + 1 by simp] at hnew
    have GR_2 := Lib.hid hnew
    clear hnew
    go_enter Try.func39, Try.ntmps39
    obtain ⟨g0_0, g0_1, g0_2⟩ := BX_2.out
    go_wp2_with fail
    clear g0_0 g0_1 g0_2
    generalize ((w.alloc (.cells #[.int .i64 p, (.slice A l.length cap)] 30)).alloc (.cells #[(.slice none 0 0), (.slice none 0 0), (.slice none 0 0)] 63)) = w2 at *
    generalize (w.alloc (.cells #[.int .i64 p, (.slice A l.length cap)] 30)) = w1 at *
    refine (HNW _ HB_2.out.at).mono ?_
    rintro e w3 ⟨AF, cF, a, b, rfl, ho, ha1, hb1, hb⟩
    have Z3 := Lib.hid (within_of hb).size
    have W3 := Lib.hid (within_on W2.out (within_of hb) W2.out.size (.inr (Nat.le_refl _)))
    have HB_3 := Lib.hid (HB_2.out.within (within_of hb) (by omega))
    have BX_3 := Lib.hid (BX_2.out.within (within_of hb) (by omega))
    have GR_3 := Lib.hid (GR_2.out.within (within_of hb) (by omega))
    clear hb ho HNW ha1 hb1
    have Z4 := Lib.hid (within_alloc w3 (.cells #[(.slice AF (newF p k l).length cF), (.slice none 0 0), (.slice none 0 0)] 63)).size
    have W4 := Lib.hid (within_on W3.out (within_alloc w3 (.cells #[(.slice AF (newF p k l).length cF), (.slice none 0 0), (.slice none 0 0)] 63)) W3.out.size (.inr (Nat.le_refl _)))
    have HB_4 := Lib.hid (HB_3.out.within (within_alloc w3 (.cells #[(.slice AF (newF p k l).length cF), (.slice none 0 0), (.slice none 0 0)] 63)) (by omega))
    have BX_4 := Lib.hid (BX_3.out.within (within_alloc w3 (.cells #[(.slice AF (newF p k l).length cF), (.slice none 0 0), (.slice none 0 0)] 63)) (by omega))
    have GR_4 := Lib.hid (GR_3.out.within (within_alloc w3 (.cells #[(.slice AF (newF p k l).length cF), (.slice none 0 0), (.slice none 0 0)] 63)) (by omega))
    have Y4 := Lib.hid (show (w3.alloc (.cells #[(.slice AF (newF p k l).length cF), (.slice none 0 0), (.slice none 0 0)] 63)).heap.size = w3.heap.size + 1 by simp)
    have hnew := cel3_new w3 (.slice AF (newF p k l).length cF) (.slice none 0 0) (.slice none 0 0) 63
    have BP_4 := Lib.hid hnew
    clear hnew
    obtain ⟨g1_0, g1_1, g1_2⟩ := BX_4.out
    go_wp2_with fail
    clear g1_0 g1_1 g1_2
    generalize (w3.alloc (.cells #[(.slice AF (newF p k l).length cF), (.slice none 0 0), (.slice none 0 0)] 63)) = w4 at *
    refine (implRange k c _).mono ?_
    rintro e w9 ⟨rfl, rfl⟩
    rw [HRG.out]
    obtain ⟨g2_0, g2_1, g2_2, g2_3, g2_4, g2_5⟩ := GR_4.out.cells
    have Z5 := Lib.hid ((ret3 GR_4.out (.slice none 0 0) (.slice none 0 0) (.slice none 0 0)).2).size
    have W5 := Lib.hid (within_on W4.out ((ret3 GR_4.out (.slice none 0 0) (.slice none 0 0) (.slice none 0 0)).2) W4.out.size (by have := Z1.out; have := Z2.out; have := Z3.out; have := Z4.out; have := Z5.out; have := Y1.out; have := Y2.out; have := Y4.out; omega))
    have HB_5 := Lib.hid (HB_4.out.within ((ret3 GR_4.out (.slice none 0 0) (.slice none 0 0) (.slice none 0 0)).2) (by have := Z1.out; have := Z2.out; have := Z3.out; have := Z4.out; have := Z5.out; have := Y1.out; have := Y2.out; have := Y4.out; omega))
    have BX_5 := Lib.hid (BX_4.out.within ((ret3 GR_4.out (.slice none 0 0) (.slice none 0 0) (.slice none 0 0)).2) (by have := Z1.out; have := Z2.out; have := Z3.out; have := Z4.out; have := Z5.out; have := Y1.out; have := Y2.out; have := Y4.out; omega))
    have GR_5 := Lib.hid ((ret3 GR_4.out (.slice none 0 0) (.slice none 0 0) (.slice none 0 0)).1)
    have BP_5 := Lib.hid (BP_4.out.within ((ret3 GR_4.out (.slice none 0 0) (.slice none 0 0) (.slice none 0 0)).2) (by have := Z1.out; have := Z2.out; have := Z3.out; have := Z4.out; have := Z5.out; have := Y1.out; have := Y2.out; have := Y4.out; omega))
    obtain ⟨g3_0, g3_1, g3_2, g3_3, g3_4, g3_5⟩ := GR_5.out.cells
    go_wp2_with fail
    generalize (((w4.setCell ⟨w.heap.size + 1, 0, none⟩ (.slice none 0 0)).setCell ⟨w.heap.size + 1, 1, none⟩ (.slice none 0 0)).setCell ⟨w.heap.size + 1, 2, none⟩ (.slice none 0 0)) = w5 at *
    refine bodyPost_ret (v := .tuple #[pebV none 0 0 none 0 0 none 0 0, .bool false]) ?_ rfl ?_
    · simp [results, Try.results39, go_sem, g3_0, g3_1, g3_2]
    · rw [HR.out.1, HR.out.2]
      exact ⟨none, 0, none, 0, none, 0, rfl, own3_nil _ _ W5.out.size _ _ _ _ _ _, W5.out⟩
  obtain ⟨P, rfl⟩ : ∃ P : Nat, p = (P : Int) := ⟨p.toNat, by have := (newB_is hb1).1.1; omega⟩
  have HP := Lib.hid (And.intro hb1 hb2)
  have HRG := Lib.hid hb2
  have HR := Lib.hid (runV_yes hb1 hb2)
  have hnf : newF (P : Int) k l = (runN P k c l 0).1 := by unfold newF; rw [if_pos hb1, Int.toNat_natCast]; rfl
  have HNW : ∀ W : World, BarsAt W W.heap.size A l → Calls Try.prog 59 #[.agg #[.int .i64 (P : Int), .slice A l.length cap], .int .i64 k] W (NewOB W (runN P k c l 0).1 true) := fun W h => by have hc := implNewN (P : Int) k l A cap W h hn; rw [hb1, hnf] at hc; exact hc
  clear hb1 hb2 hnf
  have W0 := Lib.hid (Below.refl w.heap.size w)
  have HB_0 := Lib.hid (bars_in hl)
  clear hl
  have Z1 := Lib.hid (within_alloc w (.cells #[.int .i64 (P : Int), (.slice A l.length cap)] 30)).size
  have W1 := Lib.hid (within_on W0.out (within_alloc w (.cells #[.int .i64 (P : Int), (.slice A l.length cap)] 30)) W0.out.size (.inr (Nat.le_refl _)))
  have HB_1 := Lib.hid (HB_0.out.within (within_alloc w (.cells #[.int .i64 (P : Int), (.slice A l.length cap)] 30)) (by omega))
  have Y1 := Lib.hid (show (w.alloc (.cells #[.int .i64 (P : Int), (.slice A l.length cap)] 30)).heap.size = w.heap.size + 1 by simp)
  have hnew := box_new w (P : Int) (.slice A l.length cap) 30
  have BX_1 := Lib.hid hnew
  clear hnew
  have Z2 := Lib.hid (within_alloc (w.alloc (.cells #[.int .i64 (P : Int), (.slice A l.length cap)] 30)) (.cells #[(.slice none 0 0), (.slice none 0 0), (.slice none 0 0)] 63)).size
  have W2 := Lib.hid (within_on W1.out (within_alloc (w.alloc (.cells #[.int .i64 (P : Int), (.slice A l.length cap)] 30)) (.cells #[(.slice none 0 0), (.slice none 0 0), (.slice none 0 0)] 63)) W1.out.size (.inr (Nat.le_refl _)))
  have HB_2 := Lib.hid (HB_1.out.within (within_alloc (w.alloc (.cells #[.int .i64 (P : Int), (.slice A l.length cap)] 30)) (.cells #[(.slice none 0 0), (.slice none 0 0), (.slice none 0 0)] 63)) (by omega))
  have BX_2 := Lib.hid (BX_1.out.within (within_alloc (w.alloc (.cells #[.int .i64 (P : Int), (.slice A l.length cap)] 30)) (.cells #[(.slice none 0 0), (.slice none 0 0), (.slice none 0 0)] 63)) (by omega))
  have Y2 := Lib.hid (show ((w.alloc (.cells #[.int .i64 (P : Int), (.slice A l.length cap)] 30)).alloc (.cells #[(.slice none 0 0), (.slice none 0 0), (.slice none 0 0)] 63)).heap.size = (w.alloc (.cells #[.int .i64 (P : Int), (.slice A l.length cap)] 30)).heap.size + 1 by simp)
  have hnew := cel3_new (w.alloc (.cells #[.int .i64 (P : Int), (.slice A l.length cap)] 30)) (.slice none 0 0) (.slice none 0 0) (.slice none 0 0) 63
  rw [show (w.alloc (.cells #[.int .i64 (P : Int), (.slice A l.length cap)] 30)).heap.size = w.heap.size + 1 by simp] at hnew
  have GR_2 := Lib.hid hnew
  clear hnew
  go_enter Try.func39, Try.ntmps39
  obtain ⟨g0_0, g0_1, g0_2⟩ := BX_2.out
  go_wp2_with fail
  clear g0_0 g0_1 g0_2
  generalize ((w.alloc (.cells #[.int .i64 (P : Int), (.slice A l.length cap)] 30)).alloc (.cells #[(.slice none 0 0), (.slice none 0 0), (.slice none 0 0)] 63)) = w2 at *
  generalize (w.alloc (.cells #[.int .i64 (P : Int), (.slice A l.length cap)] 30)) = w1 at *
  refine (HNW _ HB_2.out.at).mono ?_
  rintro e w3 ⟨AF, cF, a, b, rfl, ho, ha1, hb1, hb⟩
  have Z3 := Lib.hid (within_of hb).size
  have W3 := Lib.hid (within_on W2.out (within_of hb) W2.out.size (.inr (Nat.le_refl _)))
  have HB_3 := Lib.hid (HB_2.out.within (within_of hb) (by omega))
  have BX_3 := Lib.hid (BX_2.out.within (within_of hb) (by omega))
  have GR_3 := Lib.hid (GR_2.out.within (within_of hb) (by omega))
  have OP_3 := Lib.hid (own_new ho (runN_zero HP.out.1))
  clear hb HNW
  have HAB := Lib.hid (And.intro ha1 hb1)
  clear ho ha1 hb1
  have Z4 := Lib.hid (within_alloc w3 (.cells #[(.slice AF (runN P k c l 0).1.length cF), (.slice none 0 0), (.slice none 0 0)] 63)).size
  have W4 := Lib.hid (within_on W3.out (within_alloc w3 (.cells #[(.slice AF (runN P k c l 0).1.length cF), (.slice none 0 0), (.slice none 0 0)] 63)) W3.out.size (.inr (Nat.le_refl _)))
  have HB_4 := Lib.hid (HB_3.out.within (within_alloc w3 (.cells #[(.slice AF (runN P k c l 0).1.length cF), (.slice none 0 0), (.slice none 0 0)] 63)) (by omega))
  have BX_4 := Lib.hid (BX_3.out.within (within_alloc w3 (.cells #[(.slice AF (runN P k c l 0).1.length cF), (.slice none 0 0), (.slice none 0 0)] 63)) (by omega))
  have GR_4 := Lib.hid (GR_3.out.within (within_alloc w3 (.cells #[(.slice AF (runN P k c l 0).1.length cF), (.slice none 0 0), (.slice none 0 0)] 63)) (by omega))
  have OP_4 := Lib.hid (OP_3.out.within (within_alloc w3 (.cells #[(.slice AF (runN P k c l 0).1.length cF), (.slice none 0 0), (.slice none 0 0)] 63)) (by omega))
  have Y4 := Lib.hid (show (w3.alloc (.cells #[(.slice AF (runN P k c l 0).1.length cF), (.slice none 0 0), (.slice none 0 0)] 63)).heap.size = w3.heap.size + 1 by simp)
  have hnew := cel3_new w3 (.slice AF (runN P k c l 0).1.length cF) (.slice none 0 0) (.slice none 0 0) 63
  have BP_4 := Lib.hid hnew
  clear hnew
  obtain ⟨g1_0, g1_1, g1_2⟩ := BX_4.out
  go_wp2_with fail
  clear g1_0 g1_1 g1_2
  generalize (w3.alloc (.cells #[(.slice AF (runN P k c l 0).1.length cF), (.slice none 0 0), (.slice none 0 0)] 63)) = w4 at *
  refine (implRange k c _).mono ?_
  rintro e w9 ⟨rfl, rfl⟩
  rw [HRG.out]
  have HN := Lib.hid (show RunI w w4 P A cap l w3.heap.size (a, b) (w4.heap.size, w4.heap.size) (w4.heap.size, w4.heap.size) AF none none cF 0 0 (runN P k c l 0) from RunI.mk0 BX_4.out GR_4.out BP_4.out OP_4.out HB_4.out W4.out (by have := HAB.out; have := Z1.out; have := Z2.out; have := Z3.out; have := Z4.out; have := Y1.out; have := Y2.out; have := Y4.out; omega) (by have := HAB.out; have := Z1.out; have := Z2.out; have := Z3.out; have := Z4.out; have := Y1.out; have := Y2.out; have := Y4.out; omega) (by have := HAB.out; have := Z1.out; have := Z2.out; have := Z3.out; have := Z4.out; have := Y1.out; have := Y2.out; have := Y4.out; omega) (by have := HAB.out; have := Z1.out; have := Z2.out; have := Z3.out; have := Z4.out; have := Y1.out; have := Y2.out; have := Y4.out; omega))
  obtain ⟨g2_0, g2_1, g2_2⟩ := BX_4.out
  go_wp2_with fail
  clear g2_0 g2_1 g2_2
  go_loopw [29] (fun i wr => ∃ j : Nat, j ≤ l.length ∧ i = .int .i64 j ∧ ∃ f t z AF AT AZ cF cT cZ, RunI w wr P A cap l w3.heap.size f t z AF AT AZ cF cT cZ (runN P k c l j)) (fun i _ => l.length - (intOf i).toNat)
  case atStart => exact ⟨0, Nat.zero_le _, rfl, _, _, _, _, _, _, _, _, _, HN.out⟩
  case round =>
    obtain ⟨j, hj, rfl, f, t, z, AF, AT, AZ, cF, cT, cZ, hst⟩ := hrel
    have HS := Lib.hid hst
    obtain ⟨_, g1, g2⟩ := hst.gb
    obtain ⟨c0, c1, c2, f0, f1, f2⟩ := hst.st.cells
    clear hst
    by_cases hlt : j < l.length
    · have hji : (j : Int) < (l.length : Int) := by omega
      go_wp2_with (go_at_call 114; refine (HS.out.call HP.out.1 HP.out.2 hlt).mono ?_; rintro e w5 ⟨r, f2, t2, z2, BF, BT, BZ, dF, dT, dZ, rfl, hs5⟩; have HS2 := Lib.hid hs5; clear hs5)
      go_roundw
      case rel => exact ⟨j + 1, by omega, by go_num, _, _, _, _, _, _, _, _, _, HS2.out⟩
      case measure => simp [intOf]; omega
    · obtain rfl : j = l.length := by omega
      obtain ⟨r0, r1, r2, q0, q1, q2⟩ := HS.out.rb.cells
      have h3 := ret3 HS.out.rb (.slice AF (runN P k c l l.length).1.length cF) (.slice AT (runN P k c l l.length).2.1.length cT) (.slice AZ (runN P k c l l.length).2.2.length cZ)
      obtain ⟨s0, s1, s2, _⟩ := h3.1.cells
      have HW := Lib.hid h3.2
      clear h3
      go_wp2_with fail
      refine bodyPost_ret (v := .tuple #[pebV AF (runN P k c l l.length).1.length cF AT (runN P k c l l.length).2.1.length cT AZ (runN P k c l l.length).2.2.length cZ, .bool true]) ?_ rfl ?_
      · simp [results, Try.results39, go_sem, s0, s1, s2]
      · have hlo := HS.out.lo
        have hz := HW.out.size
        have hhi := HS.out.own.hi
        have hbs := HS.out.bel.size
        rw [HR.out.1, HR.out.2]
        have hown := HS.out.own.own3 (lo := w.heap.size + 2) ⟨hlo.2.1, hhi.1⟩ ⟨hlo.2.2.1, hhi.2.1⟩ ⟨hlo.2.2.2, hhi.2.2⟩ (Nat.le_refl _)
        exact ⟨AF, cF, AT, cT, AZ, cZ, rfl, (hown.within HW.out (.inr (Nat.le_refl _))).widen (by omega) hz (Nat.le_refl _), within_on HS.out.bel HW.out hbs (.inl (by omega))⟩
end Go.Proofs.Ytggibhhdnlifcaa
/- What impl.RunPebbles answers, where it answers true: its rows with their ranges. No condition. -/
namespace Go.Proofs.Ytggibhhdnlifcaa
open Go.RowKit

/-- A state that is answered, its rows each in its range. -/
def PebOR (w : World) (F T Z : List Int) (e : Ending) (w' : World) : Prop :=
  ∃ AF cF AT cT AZ cZ, ∃ f t z : Nat × Nat, e = .returned (.tuple #[pebV AF F.length cF AT T.length cT AZ Z.length cZ, .bool true]) ∧ OwnF w' f t z AF cF AT cT AZ cZ F T Z ∧ (w.heap.size ≤ f.1 ∧ w.heap.size ≤ t.1 ∧ w.heap.size ≤ z.1 ∧ t.1 ≤ w'.heap.size ∧ z.1 ≤ w'.heap.size) ∧ Below w.heap.size w w'
set_option maxHeartbeats 4000000 in
set_option maxRecDepth 100000 in
theorem implRunR (p k c : Int) (l : List (Int × Int)) (A : Option Addr) (cap : Nat) (w : World) (hl : BarsAt w w.heap.size A l) (hn : l.length ≤ 1048576) (hb1 : newB p k l = true) (hb2 : rangeB k c = true) :
    Calls Try.prog 39 #[.agg #[.int .i64 p, .slice A l.length cap], .int .i64 k, .int .i64 c] w (PebOR w (runV p k c l).1 (runV p k c l).2.1 (runV p k c l).2.2) := by
  obtain ⟨P, rfl⟩ : ∃ P : Nat, p = (P : Int) := ⟨p.toNat, by have := (newB_is hb1).1.1; omega⟩
  have HP := Lib.hid (And.intro hb1 hb2)
  have HRG := Lib.hid hb2
  have HR := Lib.hid (runV_yes hb1 hb2)
  have hnf : newF (P : Int) k l = (runN P k c l 0).1 := by unfold newF; rw [if_pos hb1, Int.toNat_natCast]; rfl
  have HNW : ∀ W : World, BarsAt W W.heap.size A l → Calls Try.prog 59 #[.agg #[.int .i64 (P : Int), .slice A l.length cap], .int .i64 k] W (NewOB W (runN P k c l 0).1 true) := fun W h => by have hc := implNewN (P : Int) k l A cap W h hn; rw [hb1, hnf] at hc; exact hc
  clear hb1 hb2 hnf
  have W0 := Lib.hid (Below.refl w.heap.size w)
  have HB_0 := Lib.hid (bars_in hl)
  clear hl
  have Z1 := Lib.hid (within_alloc w (.cells #[.int .i64 (P : Int), (.slice A l.length cap)] 30)).size
  have W1 := Lib.hid (within_on W0.out (within_alloc w (.cells #[.int .i64 (P : Int), (.slice A l.length cap)] 30)) W0.out.size (.inr (Nat.le_refl _)))
  have HB_1 := Lib.hid (HB_0.out.within (within_alloc w (.cells #[.int .i64 (P : Int), (.slice A l.length cap)] 30)) (by omega))
  have Y1 := Lib.hid (show (w.alloc (.cells #[.int .i64 (P : Int), (.slice A l.length cap)] 30)).heap.size = w.heap.size + 1 by simp)
  have hnew := box_new w (P : Int) (.slice A l.length cap) 30
  have BX_1 := Lib.hid hnew
  clear hnew
  have Z2 := Lib.hid (within_alloc (w.alloc (.cells #[.int .i64 (P : Int), (.slice A l.length cap)] 30)) (.cells #[(.slice none 0 0), (.slice none 0 0), (.slice none 0 0)] 63)).size
  have W2 := Lib.hid (within_on W1.out (within_alloc (w.alloc (.cells #[.int .i64 (P : Int), (.slice A l.length cap)] 30)) (.cells #[(.slice none 0 0), (.slice none 0 0), (.slice none 0 0)] 63)) W1.out.size (.inr (Nat.le_refl _)))
  have HB_2 := Lib.hid (HB_1.out.within (within_alloc (w.alloc (.cells #[.int .i64 (P : Int), (.slice A l.length cap)] 30)) (.cells #[(.slice none 0 0), (.slice none 0 0), (.slice none 0 0)] 63)) (by omega))
  have BX_2 := Lib.hid (BX_1.out.within (within_alloc (w.alloc (.cells #[.int .i64 (P : Int), (.slice A l.length cap)] 30)) (.cells #[(.slice none 0 0), (.slice none 0 0), (.slice none 0 0)] 63)) (by omega))
  have Y2 := Lib.hid (show ((w.alloc (.cells #[.int .i64 (P : Int), (.slice A l.length cap)] 30)).alloc (.cells #[(.slice none 0 0), (.slice none 0 0), (.slice none 0 0)] 63)).heap.size = (w.alloc (.cells #[.int .i64 (P : Int), (.slice A l.length cap)] 30)).heap.size + 1 by simp)
  have hnew := cel3_new (w.alloc (.cells #[.int .i64 (P : Int), (.slice A l.length cap)] 30)) (.slice none 0 0) (.slice none 0 0) (.slice none 0 0) 63
  rw [show (w.alloc (.cells #[.int .i64 (P : Int), (.slice A l.length cap)] 30)).heap.size = w.heap.size + 1 by simp] at hnew
  have GR_2 := Lib.hid hnew
  clear hnew
  go_enter Try.func39, Try.ntmps39
  obtain ⟨g0_0, g0_1, g0_2⟩ := BX_2.out
  go_wp2_with fail
  clear g0_0 g0_1 g0_2
  generalize ((w.alloc (.cells #[.int .i64 (P : Int), (.slice A l.length cap)] 30)).alloc (.cells #[(.slice none 0 0), (.slice none 0 0), (.slice none 0 0)] 63)) = w2 at *
  generalize (w.alloc (.cells #[.int .i64 (P : Int), (.slice A l.length cap)] 30)) = w1 at *
  refine (HNW _ HB_2.out.at).mono ?_
  rintro e w3 ⟨AF, cF, a, b, rfl, ho, ha1, hb1, hb⟩
  have Z3 := Lib.hid (within_of hb).size
  have W3 := Lib.hid (within_on W2.out (within_of hb) W2.out.size (.inr (Nat.le_refl _)))
  have HB_3 := Lib.hid (HB_2.out.within (within_of hb) (by omega))
  have BX_3 := Lib.hid (BX_2.out.within (within_of hb) (by omega))
  have GR_3 := Lib.hid (GR_2.out.within (within_of hb) (by omega))
  have OP_3 := Lib.hid (own_new ho (runN_zero HP.out.1))
  clear hb HNW
  have HAB := Lib.hid (And.intro ha1 hb1)
  clear ho ha1 hb1
  have Z4 := Lib.hid (within_alloc w3 (.cells #[(.slice AF (runN P k c l 0).1.length cF), (.slice none 0 0), (.slice none 0 0)] 63)).size
  have W4 := Lib.hid (within_on W3.out (within_alloc w3 (.cells #[(.slice AF (runN P k c l 0).1.length cF), (.slice none 0 0), (.slice none 0 0)] 63)) W3.out.size (.inr (Nat.le_refl _)))
  have HB_4 := Lib.hid (HB_3.out.within (within_alloc w3 (.cells #[(.slice AF (runN P k c l 0).1.length cF), (.slice none 0 0), (.slice none 0 0)] 63)) (by omega))
  have BX_4 := Lib.hid (BX_3.out.within (within_alloc w3 (.cells #[(.slice AF (runN P k c l 0).1.length cF), (.slice none 0 0), (.slice none 0 0)] 63)) (by omega))
  have GR_4 := Lib.hid (GR_3.out.within (within_alloc w3 (.cells #[(.slice AF (runN P k c l 0).1.length cF), (.slice none 0 0), (.slice none 0 0)] 63)) (by omega))
  have OP_4 := Lib.hid (OP_3.out.within (within_alloc w3 (.cells #[(.slice AF (runN P k c l 0).1.length cF), (.slice none 0 0), (.slice none 0 0)] 63)) (by omega))
  have Y4 := Lib.hid (show (w3.alloc (.cells #[(.slice AF (runN P k c l 0).1.length cF), (.slice none 0 0), (.slice none 0 0)] 63)).heap.size = w3.heap.size + 1 by simp)
  have hnew := cel3_new w3 (.slice AF (runN P k c l 0).1.length cF) (.slice none 0 0) (.slice none 0 0) 63
  have BP_4 := Lib.hid hnew
  clear hnew
  obtain ⟨g1_0, g1_1, g1_2⟩ := BX_4.out
  go_wp2_with fail
  clear g1_0 g1_1 g1_2
  generalize (w3.alloc (.cells #[(.slice AF (runN P k c l 0).1.length cF), (.slice none 0 0), (.slice none 0 0)] 63)) = w4 at *
  refine (implRange k c _).mono ?_
  rintro e w9 ⟨rfl, rfl⟩
  rw [HRG.out]
  have HN := Lib.hid (show RunI w w4 P A cap l w3.heap.size (a, b) (w4.heap.size, w4.heap.size) (w4.heap.size, w4.heap.size) AF none none cF 0 0 (runN P k c l 0) from RunI.mk0 BX_4.out GR_4.out BP_4.out OP_4.out HB_4.out W4.out (by have := HAB.out; have := Z1.out; have := Z2.out; have := Z3.out; have := Z4.out; have := Y1.out; have := Y2.out; have := Y4.out; omega) (by have := HAB.out; have := Z1.out; have := Z2.out; have := Z3.out; have := Z4.out; have := Y1.out; have := Y2.out; have := Y4.out; omega) (by have := HAB.out; have := Z1.out; have := Z2.out; have := Z3.out; have := Z4.out; have := Y1.out; have := Y2.out; have := Y4.out; omega) (by have := HAB.out; have := Z1.out; have := Z2.out; have := Z3.out; have := Z4.out; have := Y1.out; have := Y2.out; have := Y4.out; omega))
  obtain ⟨g2_0, g2_1, g2_2⟩ := BX_4.out
  go_wp2_with fail
  clear g2_0 g2_1 g2_2
  go_loopw [29] (fun i wr => ∃ j : Nat, j ≤ l.length ∧ i = .int .i64 j ∧ ∃ f t z AF AT AZ cF cT cZ, RunI w wr P A cap l w3.heap.size f t z AF AT AZ cF cT cZ (runN P k c l j)) (fun i _ => l.length - (intOf i).toNat)
  case atStart => exact ⟨0, Nat.zero_le _, rfl, _, _, _, _, _, _, _, _, _, HN.out⟩
  case round =>
    obtain ⟨j, hj, rfl, f, t, z, AF, AT, AZ, cF, cT, cZ, hst⟩ := hrel
    have HS := Lib.hid hst
    obtain ⟨_, g1, g2⟩ := hst.gb
    obtain ⟨c0, c1, c2, f0, f1, f2⟩ := hst.st.cells
    clear hst
    by_cases hlt : j < l.length
    · have hji : (j : Int) < (l.length : Int) := by omega
      go_wp2_with (go_at_call 114; refine (HS.out.call HP.out.1 HP.out.2 hlt).mono ?_; rintro e w5 ⟨r, f2, t2, z2, BF, BT, BZ, dF, dT, dZ, rfl, hs5⟩; have HS2 := Lib.hid hs5; clear hs5)
      go_roundw
      case rel => exact ⟨j + 1, by omega, by go_num, _, _, _, _, _, _, _, _, _, HS2.out⟩
      case measure => simp [intOf]; omega
    · obtain rfl : j = l.length := by omega
      obtain ⟨r0, r1, r2, q0, q1, q2⟩ := HS.out.rb.cells
      have h3 := ret3 HS.out.rb (.slice AF (runN P k c l l.length).1.length cF) (.slice AT (runN P k c l l.length).2.1.length cT) (.slice AZ (runN P k c l l.length).2.2.length cZ)
      obtain ⟨s0, s1, s2, _⟩ := h3.1.cells
      have HW := Lib.hid h3.2
      clear h3
      go_wp2_with fail
      refine bodyPost_ret (v := .tuple #[pebV AF (runN P k c l l.length).1.length cF AT (runN P k c l l.length).2.1.length cT AZ (runN P k c l l.length).2.2.length cZ, .bool true]) ?_ rfl ?_
      · simp [results, Try.results39, go_sem, s0, s1, s2]
      · have hlo := HS.out.lo
        have hz := HW.out.size
        have hhi := HS.out.own.hi
        have hbs := HS.out.bel.size
        rw [HR.out.2]
        exact ⟨AF, cF, AT, cT, AZ, cZ, _, _, _, rfl, ⟨HS.out.own.1.within HW.out (.inr hlo.2.1), HS.out.own.2.1.within HW.out (.inr hlo.2.2.1), HS.out.own.2.2.1.within HW.out (.inr hlo.2.2.2), HS.out.own.2.2.2.1, HS.out.own.2.2.2.2.1, HS.out.own.2.2.2.2.2⟩, by have hs9 := HS.out.hs; omega, within_on HS.out.bel HW.out hbs (.inl (by omega))⟩
end Go.Proofs.Ytggibhhdnlifcaa
/- Is v a point of the graph? No condition. -/
namespace Go.Proofs.Ytggibhhdnlifcaa
open Go.RowKit

/-- Is v a point of the graph? -/
def ptB (p v : Int) : Bool := decide (0 ≤ v) && decide (v < p)
theorem hasPoint_c (p v : Int) (A : Option Addr) (n cap : Nat) (w : World) :
    Calls Try.prog 127 #[.agg #[.int .i64 p, .slice A n cap], .int .i64 v] w fun e w' => e = .returned (.bool (ptB p v)) ∧ Below w.heap.size w w' := by
  by_cases h0 : 0 ≤ v
  · by_cases h1 : v < p
    · have HP := Lib.hid (show ptB p v = true by simp [ptB, h0, h1])
      go_enter Try.func127, Try.ntmps127
      go_wp2
      go_ret
      exact ⟨by rw [HP.out]; rfl, new_below _ _⟩
    · have HP := Lib.hid (show ptB p v = false by simp [ptB, h1])
      go_enter Try.func127, Try.ntmps127
      go_wp2
      go_ret
      exact ⟨by rw [HP.out]; rfl, new_below _ _⟩
  · have HP := Lib.hid (show ptB p v = false by simp [ptB, h0])
    go_enter Try.func127, Try.ntmps127
    go_wp2
    go_ret
    exact ⟨by rw [HP.out]; rfl, new_below _ _⟩
end Go.Proofs.Ytggibhhdnlifcaa
/- What impl.IsImplied answers. No condition. -/
namespace Go.Proofs.Ytggibhhdnlifcaa
open Go.RowKit

/-- OwnF, carried over what lies beside it. -/
def OwnG (W : World) (f t z : Nat × Nat) (AF : Option Addr) (cF : Nat) (AT : Option Addr) (cT : Nat) (AZ : Option Addr) (cZ : Nat) (F T Z : List Int) : Prop := OwnF W f t z AF cF AT cT AZ cZ F T Z
theorem OwnG.within {W W' : World} {f t z : Nat × Nat} {AF AT AZ : Option Addr} {cF cT cZ : Nat} {F T Z : List Int} (h : OwnG W f t z AF cF AT cT AZ cZ F T Z) {lo hi : Nat} (hw : Within lo hi W W') (hd : hi = 0 ∨ (f.2 ≤ lo ∧ t.2 ≤ lo ∧ z.2 ≤ lo)) : OwnG W' f t z AF cF AT cT AZ cZ F T Z :=
  OwnF.within h hw (by omega) (by omega) (by omega)
theorem pt_yes {p v : Int} (h : 0 ≤ v ∧ v < p) : ptB p v = true := by
  unfold ptB
  rw [decide_eq_true h.1, decide_eq_true h.2]
  rfl
theorem pt_no {p v : Int} (h : ¬ (0 ≤ v ∧ v < p)) : ptB p v = false := by
  unfold ptB
  by_cases h0 : 0 ≤ v
  · rw [decide_eq_true h0, decide_eq_false (fun q => h ⟨h0, q⟩)]; rfl
  · rw [decide_eq_false h0]; rfl

set_option maxHeartbeats 4000000 in
set_option maxRecDepth 100000 in
theorem implImp (p a b : Int) (l : List (Int × Int)) (A : Option Addr) (cap : Nat) (w : World) (hl : BarsAt w w.heap.size A l) (hn : l.length ≤ 1048576) :
    Calls Try.prog 157 #[.agg #[.int .i64 p, .slice A l.length cap], .int .i64 a, .int .i64 b] w fun e w' => e = .returned (.bool (impB p a b l)) ∧ Below w.heap.size w w' := by
  obtain ⟨rv, hrv⟩ : ∃ rv, impB p a b l = rv := ⟨_, rfl⟩
  rw [hrv]
  cases hg : isGB p l with
  | false =>
    have HRV := Lib.hid (show rv = false from by rw [← hrv]; exact imp_no (.inl hg))
    have hr := (runB23_no hg)
    have HNW : ∀ W : World, BarsAt W W.heap.size A l → Calls Try.prog 39 #[.agg #[.int .i64 p, .slice A l.length cap], .int .i64 2, .int .i64 3] W (PebOB W (runV p 2 3 l).1 (runV p 2 3 l).2.1 (runV p 2 3 l).2.2 false) := fun W h => by have hc := implRunP p 2 3 l A cap W h hn; rw [hr] at hc; exact hc
    clear hrv hg hr
    have W0 := Lib.hid (Below.refl w.heap.size w)
    have HB_0 := Lib.hid (bars_in hl)
    clear hl
    have Z1 := Lib.hid (within_alloc w (.cells #[.int .i64 p, (.slice A l.length cap)] 30)).size
    have W1 := Lib.hid (within_on W0.out (within_alloc w (.cells #[.int .i64 p, (.slice A l.length cap)] 30)) W0.out.size (.inr (Nat.le_refl _)))
    have HB_1 := Lib.hid (HB_0.out.within (within_alloc w (.cells #[.int .i64 p, (.slice A l.length cap)] 30)) (by omega))
    have Y1 := Lib.hid (show (w.alloc (.cells #[.int .i64 p, (.slice A l.length cap)] 30)).heap.size = w.heap.size + 1 by simp)
    have hnew := box_new w p (.slice A l.length cap) 30
    have BX_1 := Lib.hid hnew
    clear hnew
    go_enter Try.func157, Try.ntmps157
    obtain ⟨g0_0, g0_1, g0_2⟩ := BX_1.out
    go_wp2_with fail
    clear g0_0 g0_1 g0_2
    generalize (w.alloc (.cells #[.int .i64 p, (.slice A l.length cap)] 30)) = w1 at *
    refine (HNW _ HB_1.out.at).mono ?_
    rintro e w2 ⟨AF, cF, AT, cT, AZ, cZ, rfl, ho, hb⟩
    have Z2 := Lib.hid (within_of hb).size
    have W2 := Lib.hid (within_on W1.out (within_of hb) W1.out.size (.inr (Nat.le_refl _)))
    have HB_2 := Lib.hid (HB_1.out.within (within_of hb) (by omega))
    have BX_2 := Lib.hid (BX_1.out.within (within_of hb) (by omega))
    clear ho hb
    have Z3 := Lib.hid (within_alloc w2 (.cells #[(.slice AF (runV p 2 3 l).1.length cF), (.slice AT (runV p 2 3 l).2.1.length cT), (.slice AZ (runV p 2 3 l).2.2.length cZ)] 63)).size
    have W3 := Lib.hid (within_on W2.out (within_alloc w2 (.cells #[(.slice AF (runV p 2 3 l).1.length cF), (.slice AT (runV p 2 3 l).2.1.length cT), (.slice AZ (runV p 2 3 l).2.2.length cZ)] 63)) W2.out.size (.inr (Nat.le_refl _)))
    have HB_3 := Lib.hid (HB_2.out.within (within_alloc w2 (.cells #[(.slice AF (runV p 2 3 l).1.length cF), (.slice AT (runV p 2 3 l).2.1.length cT), (.slice AZ (runV p 2 3 l).2.2.length cZ)] 63)) (by omega))
    have BX_3 := Lib.hid (BX_2.out.within (within_alloc w2 (.cells #[(.slice AF (runV p 2 3 l).1.length cF), (.slice AT (runV p 2 3 l).2.1.length cT), (.slice AZ (runV p 2 3 l).2.2.length cZ)] 63)) (by omega))
    have Y3 := Lib.hid (show (w2.alloc (.cells #[(.slice AF (runV p 2 3 l).1.length cF), (.slice AT (runV p 2 3 l).2.1.length cT), (.slice AZ (runV p 2 3 l).2.2.length cZ)] 63)).heap.size = w2.heap.size + 1 by simp)
    have hnew := cel3_new w2 (.slice AF (runV p 2 3 l).1.length cF) (.slice AT (runV p 2 3 l).2.1.length cT) (.slice AZ (runV p 2 3 l).2.2.length cZ) 63
    have BP_3 := Lib.hid hnew
    clear hnew
    go_wp2_with fail
    generalize (w2.alloc (.cells #[(.slice AF (runV p 2 3 l).1.length cF), (.slice AT (runV p 2 3 l).2.1.length cT), (.slice AZ (runV p 2 3 l).2.2.length cZ)] 63)) = w3 at *
    go_ret
    exact ⟨by rw [HRV.out]; rfl, W3.out⟩
  | true =>
    have hG : IsG p l := Classical.byContradiction fun g => by rw [isGB_no g] at hg; cases hg
    obtain ⟨P, rfl⟩ : ∃ P : Nat, p = (P : Int) := ⟨p.toNat, by have := hG.1; omega⟩
    have hp := hG.1
    have h24 := hG.2.1
    have hrn := (runV_yes (run23 hg).1 (run23 hg).2).2
    have hpeb := runN_at (run23 hg).1 (run23 hg).2 (Nat.le_refl l.length)
    have HNW : ∀ W : World, BarsAt W W.heap.size A l → Calls Try.prog 39 #[.agg #[.int .i64 (P : Int), .slice A l.length cap], .int .i64 2, .int .i64 3] W (PebOR W (runN P 2 3 l l.length).1 (runN P 2 3 l l.length).2.1 (runN P 2 3 l l.length).2.2) := fun W h => by
      have hc := implRunR (P : Int) 2 3 l A cap W h hn (run23 hg).1 (run23 hg).2
      rw [hrn] at hc
      exact hc
    have HGAT := Lib.hid (fun (ha : 0 ≤ a ∧ a < (P : Int)) (hb : 0 ≤ b ∧ b < (P : Int)) (hab : a ≠ b) => imp_gath hG ha hb hab)
    obtain ⟨R, hR⟩ : ∃ R, runN P 2 3 l l.length = R := ⟨_, rfl⟩
    rw [hR] at HNW HGAT hpeb
    obtain ⟨F, T, Z⟩ := R
    simp only at HNW HGAT hpeb
    have HPEB := Lib.hid hpeb
    have HG := Lib.hid hg
    clear hG hrn hR hg hpeb
    have HPT : ∀ (v : Int) (W : World), Calls Try.prog 127 #[.agg #[.int .i64 (P : Int), .slice A l.length cap], .int .i64 v] W fun e w' => e = .returned (.bool (ptB (P : Int) v)) ∧ Below W.heap.size W w' := fun v W => hasPoint_c (P : Int) v A l.length cap W
    by_cases ha : 0 ≤ a ∧ a < (P : Int)
    case neg =>
      have HRV := Lib.hid (show rv = false from by rw [← hrv]; exact imp_no (.inr (.inl ha)))
      have HA := Lib.hid (pt_no ha)
      clear hrv ha
      have W0 := Lib.hid (Below.refl w.heap.size w)
      have HB_0 := Lib.hid (bars_in hl)
      clear hl
      have Z1 := Lib.hid (within_alloc w (.cells #[.int .i64 (P : Int), (.slice A l.length cap)] 30)).size
      have W1 := Lib.hid (within_on W0.out (within_alloc w (.cells #[.int .i64 (P : Int), (.slice A l.length cap)] 30)) W0.out.size (.inr (Nat.le_refl _)))
      have HB_1 := Lib.hid (HB_0.out.within (within_alloc w (.cells #[.int .i64 (P : Int), (.slice A l.length cap)] 30)) (by omega))
      have Y1 := Lib.hid (show (w.alloc (.cells #[.int .i64 (P : Int), (.slice A l.length cap)] 30)).heap.size = w.heap.size + 1 by simp)
      have hnew := box_new w (P : Int) (.slice A l.length cap) 30
      have BX_1 := Lib.hid hnew
      clear hnew
      go_enter Try.func157, Try.ntmps157
      obtain ⟨g0_0, g0_1, g0_2⟩ := BX_1.out
      go_wp2_with fail
      clear g0_0 g0_1 g0_2
      generalize (w.alloc (.cells #[.int .i64 (P : Int), (.slice A l.length cap)] 30)) = w1 at *
      refine (HNW _ HB_1.out.at).mono ?_
      rintro e w2 ⟨AF, cF, AT, cT, AZ, cZ, f, t, z, rfl, ho, hlo, hb⟩
      have Z2 := Lib.hid (within_of hb).size
      have W2 := Lib.hid (within_on W1.out (within_of hb) W1.out.size (.inr (Nat.le_refl _)))
      have HB_2 := Lib.hid (HB_1.out.within (within_of hb) (by omega))
      have BX_2 := Lib.hid (BX_1.out.within (within_of hb) (by omega))
      have OP_2 := Lib.hid ((show OwnG w2 f t z AF cF AT cT AZ cZ F T Z from ho))
      clear hb HNW
      have HFT := Lib.hid (show f.2 ≤ w2.heap.size ∧ t.2 ≤ w2.heap.size from ⟨ho.1.1, ho.2.1.1⟩)
      clear ho
      have Z3 := Lib.hid (within_alloc w2 (.cells #[(.slice AF F.length cF), (.slice AT T.length cT), (.slice AZ Z.length cZ)] 63)).size
      have W3 := Lib.hid (within_on W2.out (within_alloc w2 (.cells #[(.slice AF F.length cF), (.slice AT T.length cT), (.slice AZ Z.length cZ)] 63)) W2.out.size (.inr (Nat.le_refl _)))
      have HB_3 := Lib.hid (HB_2.out.within (within_alloc w2 (.cells #[(.slice AF F.length cF), (.slice AT T.length cT), (.slice AZ Z.length cZ)] 63)) (by omega))
      have BX_3 := Lib.hid (BX_2.out.within (within_alloc w2 (.cells #[(.slice AF F.length cF), (.slice AT T.length cT), (.slice AZ Z.length cZ)] 63)) (by omega))
      have OP_3 := Lib.hid (OP_2.out.within (within_alloc w2 (.cells #[(.slice AF F.length cF), (.slice AT T.length cT), (.slice AZ Z.length cZ)] 63)) (by omega))
      have Y3 := Lib.hid (show (w2.alloc (.cells #[(.slice AF F.length cF), (.slice AT T.length cT), (.slice AZ Z.length cZ)] 63)).heap.size = w2.heap.size + 1 by simp)
      have hnew := cel3_new w2 (.slice AF F.length cF) (.slice AT T.length cT) (.slice AZ Z.length cZ) 63
      have BP_3 := Lib.hid hnew
      clear hnew
      have HLO := Lib.hid hlo
      clear hlo
      obtain ⟨g1_0, g1_1, g1_2⟩ := BX_3.out
      go_wp2_with fail
      clear g1_0 g1_1 g1_2
      generalize (w2.alloc (.cells #[(.slice AF F.length cF), (.slice AT T.length cT), (.slice AZ Z.length cZ)] 63)) = w3 at *
      refine (HPT a _).mono ?_
      rintro e w4 ⟨rfl, hb⟩
      have Z4 := Lib.hid (within_of hb).size
      have W4 := Lib.hid (within_on W3.out (within_of hb) W3.out.size (.inr (Nat.le_refl _)))
      have HB_4 := Lib.hid (HB_3.out.within (within_of hb) (by omega))
      have BX_4 := Lib.hid (BX_3.out.within (within_of hb) (by omega))
      have OP_4 := Lib.hid (OP_3.out.within (within_of hb) (by omega))
      have BP_4 := Lib.hid (BP_3.out.within (within_of hb) (by omega))
      clear hb
      rw [HA.out]
      obtain ⟨g2_0, g2_1, g2_2⟩ := BX_4.out
      go_wp2_with fail
      clear g2_0 g2_1 g2_2
      go_ret
      exact ⟨by rw [HRV.out]; rfl, W4.out⟩
    by_cases hb : 0 ≤ b ∧ b < (P : Int)
    case neg =>
      have HRV := Lib.hid (show rv = false from by rw [← hrv]; exact imp_no (.inr (.inr hb)))
      have HA := Lib.hid (pt_yes ha)
      have HBN := Lib.hid (pt_no hb)
      clear hrv ha hb
      have W0 := Lib.hid (Below.refl w.heap.size w)
      have HB_0 := Lib.hid (bars_in hl)
      clear hl
      have Z1 := Lib.hid (within_alloc w (.cells #[.int .i64 (P : Int), (.slice A l.length cap)] 30)).size
      have W1 := Lib.hid (within_on W0.out (within_alloc w (.cells #[.int .i64 (P : Int), (.slice A l.length cap)] 30)) W0.out.size (.inr (Nat.le_refl _)))
      have HB_1 := Lib.hid (HB_0.out.within (within_alloc w (.cells #[.int .i64 (P : Int), (.slice A l.length cap)] 30)) (by omega))
      have Y1 := Lib.hid (show (w.alloc (.cells #[.int .i64 (P : Int), (.slice A l.length cap)] 30)).heap.size = w.heap.size + 1 by simp)
      have hnew := box_new w (P : Int) (.slice A l.length cap) 30
      have BX_1 := Lib.hid hnew
      clear hnew
      go_enter Try.func157, Try.ntmps157
      obtain ⟨g0_0, g0_1, g0_2⟩ := BX_1.out
      go_wp2_with fail
      clear g0_0 g0_1 g0_2
      generalize (w.alloc (.cells #[.int .i64 (P : Int), (.slice A l.length cap)] 30)) = w1 at *
      refine (HNW _ HB_1.out.at).mono ?_
      rintro e w2 ⟨AF, cF, AT, cT, AZ, cZ, f, t, z, rfl, ho, hlo, hb⟩
      have Z2 := Lib.hid (within_of hb).size
      have W2 := Lib.hid (within_on W1.out (within_of hb) W1.out.size (.inr (Nat.le_refl _)))
      have HB_2 := Lib.hid (HB_1.out.within (within_of hb) (by omega))
      have BX_2 := Lib.hid (BX_1.out.within (within_of hb) (by omega))
      have OP_2 := Lib.hid ((show OwnG w2 f t z AF cF AT cT AZ cZ F T Z from ho))
      clear hb HNW
      have HFT := Lib.hid (show f.2 ≤ w2.heap.size ∧ t.2 ≤ w2.heap.size from ⟨ho.1.1, ho.2.1.1⟩)
      clear ho
      have Z3 := Lib.hid (within_alloc w2 (.cells #[(.slice AF F.length cF), (.slice AT T.length cT), (.slice AZ Z.length cZ)] 63)).size
      have W3 := Lib.hid (within_on W2.out (within_alloc w2 (.cells #[(.slice AF F.length cF), (.slice AT T.length cT), (.slice AZ Z.length cZ)] 63)) W2.out.size (.inr (Nat.le_refl _)))
      have HB_3 := Lib.hid (HB_2.out.within (within_alloc w2 (.cells #[(.slice AF F.length cF), (.slice AT T.length cT), (.slice AZ Z.length cZ)] 63)) (by omega))
      have BX_3 := Lib.hid (BX_2.out.within (within_alloc w2 (.cells #[(.slice AF F.length cF), (.slice AT T.length cT), (.slice AZ Z.length cZ)] 63)) (by omega))
      have OP_3 := Lib.hid (OP_2.out.within (within_alloc w2 (.cells #[(.slice AF F.length cF), (.slice AT T.length cT), (.slice AZ Z.length cZ)] 63)) (by omega))
      have Y3 := Lib.hid (show (w2.alloc (.cells #[(.slice AF F.length cF), (.slice AT T.length cT), (.slice AZ Z.length cZ)] 63)).heap.size = w2.heap.size + 1 by simp)
      have hnew := cel3_new w2 (.slice AF F.length cF) (.slice AT T.length cT) (.slice AZ Z.length cZ) 63
      have BP_3 := Lib.hid hnew
      clear hnew
      have HLO := Lib.hid hlo
      clear hlo
      obtain ⟨g1_0, g1_1, g1_2⟩ := BX_3.out
      go_wp2_with fail
      clear g1_0 g1_1 g1_2
      generalize (w2.alloc (.cells #[(.slice AF F.length cF), (.slice AT T.length cT), (.slice AZ Z.length cZ)] 63)) = w3 at *
      refine (HPT a _).mono ?_
      rintro e w4 ⟨rfl, hb⟩
      have Z4 := Lib.hid (within_of hb).size
      have W4 := Lib.hid (within_on W3.out (within_of hb) W3.out.size (.inr (Nat.le_refl _)))
      have HB_4 := Lib.hid (HB_3.out.within (within_of hb) (by omega))
      have BX_4 := Lib.hid (BX_3.out.within (within_of hb) (by omega))
      have OP_4 := Lib.hid (OP_3.out.within (within_of hb) (by omega))
      have BP_4 := Lib.hid (BP_3.out.within (within_of hb) (by omega))
      clear hb
      rw [HA.out]
      obtain ⟨g2_0, g2_1, g2_2⟩ := BX_4.out
      go_wp2_with fail
      clear g2_0 g2_1 g2_2
      refine (HPT b _).mono ?_
      rintro e w5 ⟨rfl, hb⟩
      have Z5 := Lib.hid (within_of hb).size
      have W5 := Lib.hid (within_on W4.out (within_of hb) W4.out.size (.inr (Nat.le_refl _)))
      have HB_5 := Lib.hid (HB_4.out.within (within_of hb) (by omega))
      have BX_5 := Lib.hid (BX_4.out.within (within_of hb) (by omega))
      have OP_5 := Lib.hid (OP_4.out.within (within_of hb) (by omega))
      have BP_5 := Lib.hid (BP_4.out.within (within_of hb) (by omega))
      clear hb
      rw [HBN.out]
      obtain ⟨g3_0, g3_1, g3_2⟩ := BX_5.out
      go_wp2_with fail
      clear g3_0 g3_1 g3_2
      go_ret
      exact ⟨by rw [HRV.out]; rfl, W5.out⟩
    obtain ⟨a, rfl⟩ : ∃ u : Nat, a = (u : Int) := ⟨a.toNat, by omega⟩
    obtain ⟨b, rfl⟩ : ∃ u : Nat, b = (u : Int) := ⟨b.toNat, by omega⟩
    have HA := Lib.hid (pt_yes ha)
    have HBN := Lib.hid (pt_yes hb)
    by_cases hab : a = b
    · subst hab
      have HRV := Lib.hid (show rv = true from by rw [← hrv]; exact imp_same HG.out ha)
      clear hrv
      have haP : a < P := by omega
      have W0 := Lib.hid (Below.refl w.heap.size w)
      have HB_0 := Lib.hid (bars_in hl)
      clear hl
      have Z1 := Lib.hid (within_alloc w (.cells #[.int .i64 (P : Int), (.slice A l.length cap)] 30)).size
      have W1 := Lib.hid (within_on W0.out (within_alloc w (.cells #[.int .i64 (P : Int), (.slice A l.length cap)] 30)) W0.out.size (.inr (Nat.le_refl _)))
      have HB_1 := Lib.hid (HB_0.out.within (within_alloc w (.cells #[.int .i64 (P : Int), (.slice A l.length cap)] 30)) (by omega))
      have Y1 := Lib.hid (show (w.alloc (.cells #[.int .i64 (P : Int), (.slice A l.length cap)] 30)).heap.size = w.heap.size + 1 by simp)
      have hnew := box_new w (P : Int) (.slice A l.length cap) 30
      have BX_1 := Lib.hid hnew
      clear hnew
      go_enter Try.func157, Try.ntmps157
      obtain ⟨g0_0, g0_1, g0_2⟩ := BX_1.out
      go_wp2_with fail
      clear g0_0 g0_1 g0_2
      generalize (w.alloc (.cells #[.int .i64 (P : Int), (.slice A l.length cap)] 30)) = w1 at *
      refine (HNW _ HB_1.out.at).mono ?_
      rintro e w2 ⟨AF, cF, AT, cT, AZ, cZ, f, t, z, rfl, ho, hlo, hb⟩
      have Z2 := Lib.hid (within_of hb).size
      have W2 := Lib.hid (within_on W1.out (within_of hb) W1.out.size (.inr (Nat.le_refl _)))
      have HB_2 := Lib.hid (HB_1.out.within (within_of hb) (by omega))
      have BX_2 := Lib.hid (BX_1.out.within (within_of hb) (by omega))
      have OP_2 := Lib.hid ((show OwnG w2 f t z AF cF AT cT AZ cZ F T Z from ho))
      clear hb HNW
      have HFT := Lib.hid (show f.2 ≤ w2.heap.size ∧ t.2 ≤ w2.heap.size from ⟨ho.1.1, ho.2.1.1⟩)
      clear ho
      have Z3 := Lib.hid (within_alloc w2 (.cells #[(.slice AF F.length cF), (.slice AT T.length cT), (.slice AZ Z.length cZ)] 63)).size
      have W3 := Lib.hid (within_on W2.out (within_alloc w2 (.cells #[(.slice AF F.length cF), (.slice AT T.length cT), (.slice AZ Z.length cZ)] 63)) W2.out.size (.inr (Nat.le_refl _)))
      have HB_3 := Lib.hid (HB_2.out.within (within_alloc w2 (.cells #[(.slice AF F.length cF), (.slice AT T.length cT), (.slice AZ Z.length cZ)] 63)) (by omega))
      have BX_3 := Lib.hid (BX_2.out.within (within_alloc w2 (.cells #[(.slice AF F.length cF), (.slice AT T.length cT), (.slice AZ Z.length cZ)] 63)) (by omega))
      have OP_3 := Lib.hid (OP_2.out.within (within_alloc w2 (.cells #[(.slice AF F.length cF), (.slice AT T.length cT), (.slice AZ Z.length cZ)] 63)) (by omega))
      have Y3 := Lib.hid (show (w2.alloc (.cells #[(.slice AF F.length cF), (.slice AT T.length cT), (.slice AZ Z.length cZ)] 63)).heap.size = w2.heap.size + 1 by simp)
      have hnew := cel3_new w2 (.slice AF F.length cF) (.slice AT T.length cT) (.slice AZ Z.length cZ) 63
      have BP_3 := Lib.hid hnew
      clear hnew
      have HLO := Lib.hid hlo
      clear hlo
      obtain ⟨g1_0, g1_1, g1_2⟩ := BX_3.out
      go_wp2_with fail
      clear g1_0 g1_1 g1_2
      generalize (w2.alloc (.cells #[(.slice AF F.length cF), (.slice AT T.length cT), (.slice AZ Z.length cZ)] 63)) = w3 at *
      refine (HPT (a : Int) _).mono ?_
      rintro e w4 ⟨rfl, hb⟩
      have Z4 := Lib.hid (within_of hb).size
      have W4 := Lib.hid (within_on W3.out (within_of hb) W3.out.size (.inr (Nat.le_refl _)))
      have HB_4 := Lib.hid (HB_3.out.within (within_of hb) (by omega))
      have BX_4 := Lib.hid (BX_3.out.within (within_of hb) (by omega))
      have OP_4 := Lib.hid (OP_3.out.within (within_of hb) (by omega))
      have BP_4 := Lib.hid (BP_3.out.within (within_of hb) (by omega))
      clear hb
      rw [HA.out]
      obtain ⟨g2_0, g2_1, g2_2⟩ := BX_4.out
      go_wp2_with fail
      clear g2_0 g2_1 g2_2
      refine (HPT (a : Int) _).mono ?_
      rintro e w5 ⟨rfl, hb⟩
      have Z5 := Lib.hid (within_of hb).size
      have W5 := Lib.hid (within_on W4.out (within_of hb) W4.out.size (.inr (Nat.le_refl _)))
      have HB_5 := Lib.hid (HB_4.out.within (within_of hb) (by omega))
      have BX_5 := Lib.hid (BX_4.out.within (within_of hb) (by omega))
      have OP_5 := Lib.hid (OP_4.out.within (within_of hb) (by omega))
      have BP_5 := Lib.hid (BP_4.out.within (within_of hb) (by omega))
      clear hb
      rw [HA.out]
      obtain ⟨g3_0, g3_1, g3_2⟩ := BX_5.out
      go_wp2_with fail
      clear g3_0 g3_1 g3_2
      go_ret
      exact ⟨by rw [HRV.out]; first | rfl | simp, W5.out⟩
    · have habi : (a : Int) ≠ (b : Int) := by omega
      have haP : a < P := by omega
      have hbP : b < P := by omega
      have e0 : ((a : Int) == (b : Int)) = false := by simpa using habi
      have e1 : (a == b) = false := by simpa using hab
      have HRV := Lib.hid (hrv.symm.trans (HGAT.out ha hb habi))
      have HAB := Lib.hid hab
      clear hrv habi hab
      have W0 := Lib.hid (Below.refl w.heap.size w)
      have HB_0 := Lib.hid (bars_in hl)
      clear hl
      have Z1 := Lib.hid (within_alloc w (.cells #[.int .i64 (P : Int), (.slice A l.length cap)] 30)).size
      have W1 := Lib.hid (within_on W0.out (within_alloc w (.cells #[.int .i64 (P : Int), (.slice A l.length cap)] 30)) W0.out.size (.inr (Nat.le_refl _)))
      have HB_1 := Lib.hid (HB_0.out.within (within_alloc w (.cells #[.int .i64 (P : Int), (.slice A l.length cap)] 30)) (by omega))
      have Y1 := Lib.hid (show (w.alloc (.cells #[.int .i64 (P : Int), (.slice A l.length cap)] 30)).heap.size = w.heap.size + 1 by simp)
      have hnew := box_new w (P : Int) (.slice A l.length cap) 30
      have BX_1 := Lib.hid hnew
      clear hnew
      go_enter Try.func157, Try.ntmps157
      obtain ⟨g0_0, g0_1, g0_2⟩ := BX_1.out
      go_wp2_with fail
      clear g0_0 g0_1 g0_2
      generalize (w.alloc (.cells #[.int .i64 (P : Int), (.slice A l.length cap)] 30)) = w1 at *
      refine (HNW _ HB_1.out.at).mono ?_
      rintro e w2 ⟨AF, cF, AT, cT, AZ, cZ, f, t, z, rfl, ho, hlo, hb⟩
      have Z2 := Lib.hid (within_of hb).size
      have W2 := Lib.hid (within_on W1.out (within_of hb) W1.out.size (.inr (Nat.le_refl _)))
      have HB_2 := Lib.hid (HB_1.out.within (within_of hb) (by omega))
      have BX_2 := Lib.hid (BX_1.out.within (within_of hb) (by omega))
      have OP_2 := Lib.hid ((show OwnG w2 f t z AF cF AT cT AZ cZ F T Z from ho))
      clear hb HNW
      have HFT := Lib.hid (show f.2 ≤ w2.heap.size ∧ t.2 ≤ w2.heap.size from ⟨ho.1.1, ho.2.1.1⟩)
      clear ho
      have Z3 := Lib.hid (within_alloc w2 (.cells #[(.slice AF F.length cF), (.slice AT T.length cT), (.slice AZ Z.length cZ)] 63)).size
      have W3 := Lib.hid (within_on W2.out (within_alloc w2 (.cells #[(.slice AF F.length cF), (.slice AT T.length cT), (.slice AZ Z.length cZ)] 63)) W2.out.size (.inr (Nat.le_refl _)))
      have HB_3 := Lib.hid (HB_2.out.within (within_alloc w2 (.cells #[(.slice AF F.length cF), (.slice AT T.length cT), (.slice AZ Z.length cZ)] 63)) (by omega))
      have BX_3 := Lib.hid (BX_2.out.within (within_alloc w2 (.cells #[(.slice AF F.length cF), (.slice AT T.length cT), (.slice AZ Z.length cZ)] 63)) (by omega))
      have OP_3 := Lib.hid (OP_2.out.within (within_alloc w2 (.cells #[(.slice AF F.length cF), (.slice AT T.length cT), (.slice AZ Z.length cZ)] 63)) (by omega))
      have Y3 := Lib.hid (show (w2.alloc (.cells #[(.slice AF F.length cF), (.slice AT T.length cT), (.slice AZ Z.length cZ)] 63)).heap.size = w2.heap.size + 1 by simp)
      have hnew := cel3_new w2 (.slice AF F.length cF) (.slice AT T.length cT) (.slice AZ Z.length cZ) 63
      have BP_3 := Lib.hid hnew
      clear hnew
      have HLO := Lib.hid hlo
      clear hlo
      obtain ⟨g1_0, g1_1, g1_2⟩ := BX_3.out
      go_wp2_with fail
      clear g1_0 g1_1 g1_2
      generalize (w2.alloc (.cells #[(.slice AF F.length cF), (.slice AT T.length cT), (.slice AZ Z.length cZ)] 63)) = w3 at *
      refine (HPT (a : Int) _).mono ?_
      rintro e w4 ⟨rfl, hb⟩
      have Z4 := Lib.hid (within_of hb).size
      have W4 := Lib.hid (within_on W3.out (within_of hb) W3.out.size (.inr (Nat.le_refl _)))
      have HB_4 := Lib.hid (HB_3.out.within (within_of hb) (by omega))
      have BX_4 := Lib.hid (BX_3.out.within (within_of hb) (by omega))
      have OP_4 := Lib.hid (OP_3.out.within (within_of hb) (by omega))
      have BP_4 := Lib.hid (BP_3.out.within (within_of hb) (by omega))
      clear hb
      rw [HA.out]
      obtain ⟨g2_0, g2_1, g2_2⟩ := BX_4.out
      go_wp2_with fail
      clear g2_0 g2_1 g2_2
      refine (HPT (b : Int) _).mono ?_
      rintro e w5 ⟨rfl, hb⟩
      have Z5 := Lib.hid (within_of hb).size
      have W5 := Lib.hid (within_on W4.out (within_of hb) W4.out.size (.inr (Nat.le_refl _)))
      have HB_5 := Lib.hid (HB_4.out.within (within_of hb) (by omega))
      have BX_5 := Lib.hid (BX_4.out.within (within_of hb) (by omega))
      have OP_5 := Lib.hid (OP_4.out.within (within_of hb) (by omega))
      have BP_5 := Lib.hid (BP_4.out.within (within_of hb) (by omega))
      clear hb
      rw [HBN.out]
      obtain ⟨g3_0, g3_1, g3_2⟩ := BX_5.out
      go_wp2_with fail
      clear g3_0 g3_1 g3_2
      have hlo := HLO.out
      have hz1 := W1.out.size
      have hzo := HPEB.out.state
      have hfl : F.length = P := by have := HPEB.out.2.2.1; omega
      rw [hfl] at hzo
      refine (gather_c P 2 l A cap w2.heap.size f t z AF AT AZ cF cT cZ F T Z a b 4 _ hzo (by omega) (by omega) h24 (by have := HPEB.out.many; omega) (fun i hi => (HPEB.out.2.2.2.2.1 i hi).1) haP hbP HAB.out HB_5.out.at BP_5.out OP_5.out (.inr HFT.out.1) (.inr HFT.out.2) (fun h0 g off e => by obtain ⟨b', o', e1', _, h2, _⟩ := (HB_5.out).2 h0; rw [e] at e1'; cases e1'; omega)).mono ?_
      rintro e w9 ⟨hw, ⟨rfl, hgr, _⟩ | ⟨s', rfl, hgr, _⟩⟩
      · have HE := Lib.hid (show rv = true from by have h := HRV.out; rw [hgr] at h; exact h)
        have HBE := Lib.hid (W5.out.trans (below_low2 hw (by omega) (by omega) W5.out.size))
        clear hw hgr
        go_wp2_with fail
        go_ret
        exact ⟨by rw [HE.out]; first | rfl | simp, HBE.out⟩
      · have HE := Lib.hid (show rv = false from by have h := HRV.out; rw [hgr] at h; exact h)
        have HBE := Lib.hid (W5.out.trans (below_low2 hw (by omega) (by omega) W5.out.size))
        clear hw hgr
        go_wp2_with fail
        go_ret
        exact ⟨by rw [HE.out]; first | rfl | simp, HBE.out⟩
end Go.Proofs.Ytggibhhdnlifcaa
/- What (Graph).heldBy answers. No condition. -/
namespace Go.Proofs.Ytggibhhdnlifcaa
open Go.RowKit

set_option maxHeartbeats 4000000 in
set_option maxRecDepth 100000 in
theorem held_c (P a b : Nat) (l : List (Int × Int)) (A : Option Addr) (cap : Nat) (w : World) (hl : BarsAt w w.heap.size A l) (hn : l.length ≤ 1048576) (hP : P ≤ 8) (_hab : (a : Int) < (b : Int)) :
    Calls Try.prog 88 #[.agg #[.int .i64 (P : Int), .slice A l.length cap], .agg #[.int .i64 (a : Int), .int .i64 (b : Int)]] w fun e w' => e = .returned (.int .u64 ((cobS (P : Int) l ((a : Int), (b : Int)) P) : Int)) ∧ Below w.heap.size w w' := by
  have W0 := Lib.hid (Below.refl w.heap.size w)
  have HB_0 := Lib.hid (bars_in hl)
  clear hl
  have Z1 := Lib.hid (within_alloc w (.cells #[.int .i64 (P : Int), (.slice A l.length cap)] 30)).size
  have W1 := Lib.hid (within_on W0.out (within_alloc w (.cells #[.int .i64 (P : Int), (.slice A l.length cap)] 30)) W0.out.size (.inr (Nat.le_refl _)))
  have HB_1 := Lib.hid (HB_0.out.within (within_alloc w (.cells #[.int .i64 (P : Int), (.slice A l.length cap)] 30)) (by omega))
  have Y1 := Lib.hid (show (w.alloc (.cells #[.int .i64 (P : Int), (.slice A l.length cap)] 30)).heap.size = w.heap.size + 1 by simp)
  have hnew := box_new w (P : Int) (.slice A l.length cap) 30
  have BX_1 := Lib.hid hnew
  clear hnew
  have Z2 := Lib.hid (within_alloc (w.alloc (.cells #[.int .i64 (P : Int), (.slice A l.length cap)] 30)) (.cells #[.int .i64 (a : Int), (.int .i64 (b : Int))] 103)).size
  have W2 := Lib.hid (within_on W1.out (within_alloc (w.alloc (.cells #[.int .i64 (P : Int), (.slice A l.length cap)] 30)) (.cells #[.int .i64 (a : Int), (.int .i64 (b : Int))] 103)) W1.out.size (.inr (Nat.le_refl _)))
  have HB_2 := Lib.hid (HB_1.out.within (within_alloc (w.alloc (.cells #[.int .i64 (P : Int), (.slice A l.length cap)] 30)) (.cells #[.int .i64 (a : Int), (.int .i64 (b : Int))] 103)) (by omega))
  have BX_2 := Lib.hid (BX_1.out.within (within_alloc (w.alloc (.cells #[.int .i64 (P : Int), (.slice A l.length cap)] 30)) (.cells #[.int .i64 (a : Int), (.int .i64 (b : Int))] 103)) (by omega))
  have Y2 := Lib.hid (show ((w.alloc (.cells #[.int .i64 (P : Int), (.slice A l.length cap)] 30)).alloc (.cells #[.int .i64 (a : Int), (.int .i64 (b : Int))] 103)).heap.size = (w.alloc (.cells #[.int .i64 (P : Int), (.slice A l.length cap)] 30)).heap.size + 1 by simp)
  have hnew := box_new (w.alloc (.cells #[.int .i64 (P : Int), (.slice A l.length cap)] 30)) (a : Int) (.int .i64 (b : Int)) 103
  rw [show (w.alloc (.cells #[.int .i64 (P : Int), (.slice A l.length cap)] 30)).heap.size = w.heap.size + 1 by simp] at hnew
  have BB_2 := Lib.hid hnew
  clear hnew
  go_enter Try.func88, Try.ntmps88
  obtain ⟨g0_0, g0_1, g0_2⟩ := BX_2.out
  go_wp2_with fail
  clear g0_0 g0_1 g0_2
  generalize ((w.alloc (.cells #[.int .i64 (P : Int), (.slice A l.length cap)] 30)).alloc (.cells #[.int .i64 (a : Int), (.int .i64 (b : Int))] 103)) = w2 at *
  generalize (w.alloc (.cells #[.int .i64 (P : Int), (.slice A l.length cap)] 30)) = w1 at *
  go_loopw [5, 6, 9] (fun h _ i wr => ∃ j : Nat, j ≤ P ∧ i = .int .i64 j ∧ h = .int .u64 ((cobS (P : Int) l ((a : Int), (b : Int)) j) : Int) ∧ Below w2.heap.size w2 wr) (fun _ _ i _ => P - (intOf i).toNat)
  case atStart => exact ⟨0, Nat.zero_le _, rfl, rfl, Below.refl _ _⟩
  case round =>
    obtain ⟨j, hj, rfl, rfl, hb⟩ := hrel
    have HBL := Lib.hid hb
    have HBX2 := Lib.hid (BX_2.out.kept hb)
    have HBB2 := Lib.hid (BB_2.out.kept hb)
    have HB8 := Lib.hid (HB_2.out.within (within_of hb) (.inr (Nat.zero_le _)))
    obtain ⟨_, g1, g2⟩ := HBX2.out
    obtain ⟨_, g3, g4⟩ := HBB2.out
    clear hb
    by_cases hlt : j < P
    · have hji : (j : Int) < (P : Int) := by omega
      cases h1 : impB (P : Int) (a : Int) (j : Int) l with
      | false =>
        have H1 := Lib.hid h1
        have HN := Lib.hid (cobS_out (p := (P : Int)) (l := l) (x := ((a : Int), (b : Int))) (n := j) (by unfold heldB; rw [h1]; rfl))
        clear h1
        go_wp2_with (go_at_call 157; refine (implImp (P : Int) (a : Int) (j : Int) l A cap _ HB8.out.at hn).mono ?_; rintro e w5 ⟨rfl, hb⟩; rw [H1.out]; have HBL5 := Lib.hid (below_on HBL.out hb HBL.out.size); have HBX5 := Lib.hid (HBX2.out.kept hb); have HBB5 := Lib.hid (HBB2.out.kept hb); have HB5 := Lib.hid (HB8.out.within (within_of hb) (.inr (Nat.zero_le _))); obtain ⟨_, q1, q2⟩ := HBX5.out; obtain ⟨_, q3, q4⟩ := HBB5.out; clear hb)
        go_roundw
        case rel => exact ⟨j + 1, by omega, by go_num, by rw [HN.out], HBL5.out⟩
        case measure => simp [intOf]; omega
      | true =>
        have H1 := Lib.hid h1
        cases h2 : impB (P : Int) (b : Int) (j : Int) l with
        | false =>
          have H2 := Lib.hid h2
          have HN := Lib.hid (cobS_out (p := (P : Int)) (l := l) (x := ((a : Int), (b : Int))) (n := j) (by unfold heldB; rw [h1, h2]; rfl))
          clear h1 h2
          go_wp2_with (first
            | (go_at_call 157; refine (implImp (P : Int) (b : Int) (j : Int) l A cap _ HB5.out.at hn).mono ?_; rintro e w6 ⟨rfl, hb⟩; rw [H2.out]; have HBL6 := Lib.hid (below_on HBL5.out hb HBL5.out.size); clear hb)
            | (go_at_call 157; refine (implImp (P : Int) (a : Int) (j : Int) l A cap _ HB8.out.at hn).mono ?_; rintro e w5 ⟨rfl, hb⟩; rw [H1.out]; have HBL5 := Lib.hid (below_on HBL.out hb HBL.out.size); have HBX5 := Lib.hid (HBX2.out.kept hb); have HBB5 := Lib.hid (HBB2.out.kept hb); have HB5 := Lib.hid (HB8.out.within (within_of hb) (.inr (Nat.zero_le _))); obtain ⟨_, q1, q2⟩ := HBX5.out; obtain ⟨_, q3, q4⟩ := HBB5.out; clear hb))
          go_roundw
          case rel => exact ⟨j + 1, by omega, by go_num, by rw [HN.out], HBL6.out⟩
          case measure => simp [intOf]; omega
        | true =>
          have H2 := Lib.hid h2
          have HN := Lib.hid (cobS_in (p := (P : Int)) (l := l) (x := ((a : Int), (b : Int))) (n := j) (by unfold heldB; rw [h1, h2]; rfl))
          have hml := cobS_lt (P : Int) l ((a : Int), (b : Int)) j
          have hp2 : 2 ^ j ≤ 2 ^ 7 := Nat.pow_le_pow_right (by decide) (by omega)
          obtain ⟨m, hm⟩ : ∃ m, (cobS (P : Int) l ((a : Int), (b : Int)) j) = m := ⟨_, rfl⟩
          rw [hm] at hml HN ⊢
          have hor := bit_orU m (by omega) j (by omega)
          have HOR := Lib.hid hor
          clear h1 h2 hm
          go_wp2_with (first
            | (go_at_call 157; refine (implImp (P : Int) (b : Int) (j : Int) l A cap _ HB5.out.at hn).mono ?_; rintro e w6 ⟨rfl, hb⟩; rw [H2.out]; have HBL6 := Lib.hid (below_on HBL5.out hb HBL5.out.size); clear hb)
            | (go_at_call 157; refine (implImp (P : Int) (a : Int) (j : Int) l A cap _ HB8.out.at hn).mono ?_; rintro e w5 ⟨rfl, hb⟩; rw [H1.out]; have HBL5 := Lib.hid (below_on HBL.out hb HBL.out.size); have HBX5 := Lib.hid (HBX2.out.kept hb); have HBB5 := Lib.hid (HBB2.out.kept hb); have HB5 := Lib.hid (HB8.out.within (within_of hb) (.inr (Nat.zero_le _))); obtain ⟨_, q1, q2⟩ := HBX5.out; obtain ⟨_, q3, q4⟩ := HBB5.out; clear hb))
          go_roundw
          case rel => exact ⟨j + 1, by omega, by go_num, by rw [HN.out, ← HOR.out], HBL6.out⟩
          case measure => simp [intOf]; omega
    · obtain rfl : j = P := by omega
      go_wp2_with fail
      go_ret
      exact ⟨rfl, below_on W2.out HBL.out W2.out.size⟩
end Go.Proofs.Ytggibhhdnlifcaa
/- What the program's sets of points answer: has and size (the library's bits.OnesCount at numbers below 256). No condition. -/
namespace Go.Proofs.Ytggibhhdnlifcaa
open Go.RowKit

theorem has_p (m v : Nat) (w : World) (hm : m < 256) (hv : v < 8) :
    Calls Try.prog 158 #[.int .u64 (m : Int), .int .i64 (v : Int)] w fun e w' => e = .returned (.bool (m.testBit v)) ∧ w = w' := by
  have hb := bit_and .u64 (.inr rfl) m hm v hv
  cases ht : m.testBit v
  all_goals
    rw [ht] at hb
    replace hb := hb.trans (by first | exact if_neg (by decide) | exact if_pos rfl)
    go_enter Try.func158, Try.ntmps158
    go_wp2
    go_ret
    exact ⟨rfl, rfl⟩

theorem ones_c (m : Nat) (w : World) (hm : m < 256) :
    Calls Try.prog 220 #[.int .u64 (m : Int)] w fun e w' => e = .returned (.int .i64 ((setL 8 m).length : Int)) ∧ w = w' := by
  have HM := Lib.hid hm
  clear hm
  go_enter Try.func220, Try.ntmps220
  go_wp2
  go_ret
  refine ⟨congrArg (fun z => Ending.returned (.int .i64 z)) ?_, rfl⟩
  have hm := HM.out
  clear HM
  revert m
  decide +kernel
theorem set_len8 : ∀ P : Nat, P ≤ 8 → ∀ m : Nat, m < 2 ^ P → (setL 8 m).length = (setL P m).length := by
  intro P hP
  have : P = 0 ∨ P = 1 ∨ P = 2 ∨ P = 3 ∨ P = 4 ∨ P = 5 ∨ P = 6 ∨ P = 7 ∨ P = 8 := by omega
  rcases this with rfl | rfl | rfl | rfl | rfl | rfl | rfl | rfl | rfl <;> decide +kernel
theorem size_p (P m : Nat) (w : World) (hP : P ≤ 8) (hm : m < 2 ^ P) :
    Calls Try.prog 216 #[.int .u64 (m : Int)] w fun e w' => e = .returned (.int .i64 ((setL P m).length : Int)) ∧ w = w' := by
  rw [← set_len8 P hP m hm]
  have hm8 : m < 256 := Nat.lt_of_lt_of_le hm (Nat.pow_le_pow_right (by decide) hP : 2 ^ P ≤ 2 ^ 8)
  clear hm
  go_enter Try.func216, Try.ntmps216
  go_wp2_with (first | (go_at_call 220; refine (ones_c m _ hm8).mono ?_; rintro e w1 ⟨rfl, rfl⟩) | go_in)
  go_ret
  exact ⟨rfl, rfl⟩
end Go.Proofs.Ytggibhhdnlifcaa
/- What spec.l3Set answers. No condition. -/
namespace Go.Proofs.Ytggibhhdnlifcaa
open Go.RowKit

/-- A row of ints of the call's own that grows. -/
def GrowI (w wr : World) (zs : List Int) (v : Value) : Prop :=
  wr.ownsRow w.heap.size 3 1 v zs.length (intCells zs) ∧ Below w.heap.size w wr
theorem GrowI.intsO {w wr : World} {zs : List Int} {v : Value} (h : GrowI w wr zs v) : IntsO w zs (.returned v) wr := by
  obtain ⟨A, c, rfl⟩ := own_shape h.1
  exact ⟨A, c, rfl, own_ints' h.1, h.2⟩
theorem GrowI.nil (w wr : World) (h : Below w.heap.size w wr) : GrowI w wr [] (.slice none 0 0) := ⟨World.ownsRow_nil _ _ _ _, h⟩

set_option maxHeartbeats 2000000 in
set_option maxRecDepth 100000 in
theorem specSet (P m : Nat) (w : World) (hP : P ≤ 8) (hm : m < 256) :
    Calls Try.prog 178 #[.int .i64 (P : Int), .int .i64 (m : Int)] w (IntsO w (setL P m)) := by
  have ho := World.ownsRow_made (base := w.heap.size) (e := 3) (size := 1) w #[] 0 (Nat.le_refl _) (by unfold maxLen; omega) (by simp)
  have HG := Lib.hid (show GrowI w (w.alloc (.cells #[] 3)) (outF 0 fun v => m.testBit v) (.slice (some ⟨w.heap.size, 0, none⟩) 0 0) from ⟨ho, new_below w _⟩)
  have HM := Lib.hid hm
  clear ho hm
  go_enter Try.func178, Try.ntmps178
  go_wp2_with fail
  generalize (w.alloc (.cells #[] 3)) = w1 at *
  go_loopw [5, 6] (fun o i wr => ∃ j : Nat, j ≤ P ∧ i = .int .i64 j ∧ GrowI w wr (outF j fun v => m.testBit v) o) (fun _ i _ => P - (intOf i).toNat)
  case atStart => exact ⟨0, by omega, rfl, HG.out⟩
  case round =>
    obtain ⟨j, hj, rfl, hst⟩ := hrel
    have hol := outF_len j (fun v => m.testBit v)
    by_cases hlt : j < P
    · have hij : (j : Int) < (P : Int) := by omega
      have hb := bit_and .i64 (.inl rfl) m HM.out j (by omega)
      obtain ⟨A', c', rfl⟩ := own_shape hst.1
      have HS := Lib.hid hst
      have hbs := hst.2.size
      clear hst
      cases ht : m.testBit j
      · rw [ht] at hb
        replace hb := hb.trans (if_neg (by decide))
        have HE := Lib.hid (show outF (j + 1) (fun v => m.testBit v) = outF j (fun v => m.testBit v) by rw [outF_succ]; simp [ht])
        go_wp2_with fail
        go_roundw
        case rel => exact ⟨j + 1, by omega, by go_num, by rw [HE.out]; exact HS.out⟩
        case measure => simp [intOf]; omega
      · rw [ht] at hb
        replace hb := hb.trans (if_pos rfl)
        have HE := Lib.hid (show outF (j + 1) (fun v => m.testBit v) = outF j (fun v => m.testBit v) ++ [(j : Int)] by rw [outF_succ]; simp [ht])
        go_wp2_with (at_builtin; refine wpList_push _ rfl _ _ 61 rfl w.heap.size 3 (.int .i64 0) 8 Try.underlying61 infoInt rfl _ _ _ rfl HS.out.1 (.int .i64 (j : Int)) rfl _ rfl (by omega) (by unfold maxLen; omega) hbs ?_; intro v' w' ho hb'; obtain ⟨A2, c2, rfl⟩ := own_shape ho; have HO := Lib.hid ho; have HB := Lib.hid hb'; clear ho hb')
        go_roundw
        case rel => exact ⟨j + 1, by omega, by go_num, by rw [HE.out]; exact ⟨by simpa [intCells] using HO.out, HS.out.2.trans HB.out⟩⟩
        case measure => simp [intOf]; omega
    · obtain rfl : j = P := by omega
      obtain ⟨A', c', rfl⟩ := own_shape hst.1
      have HS := Lib.hid hst
      clear hst
      go_wp2_with fail
      go_ret
      exact HS.out.intsO
end Go.Proofs.Ytggibhhdnlifcaa
/- What spec.SpannedBars answers. No condition. -/
namespace Go.Proofs.Ytggibhhdnlifcaa
open Go.RowKit

theorem spanF_succ (l : List (Int × Int)) (S : Int → Bool) (j : Nat) : outF (j + 1) (spanF l S) = outF j (spanF l S) ++ if S (l.getD j (0, 0)).1 && S (l.getD j (0, 0)).2 then [(j : Int)] else [] := by
  rw [outF_succ]
  rfl
/-- A row of ints of the call's own that grows, beside a box with a graph. -/
def GrowB (w wr : World) (p : Int) (gv : Value) (zs : List Int) (v : Value) : Prop :=
  GrowI w wr zs v ∧ Box wr w.heap.size p gv ∧ v.ownBlock ≠ some w.heap.size
theorem GrowB.drew {w wr : World} {p : Int} {gv : Value} {zs : List Int} {v : Value} (h : GrowB w wr p gv zs v) : GrowB w wr.drew p gv zs v := ⟨⟨h.1.1, h.1.2.drew⟩, h.2.1, h.2.2⟩
theorem GrowB.drewN {w wr : World} {p : Int} {gv : Value} {zs : List Int} {v : Value} (h : GrowB w wr p gv zs v) (n : Nat) : GrowB w (wr.drewN n) p gv zs v :=
  ⟨⟨h.1.1, h.1.2.trans (below_drewN _ _ _)⟩, h.2.1, h.2.2⟩
theorem GrowB.alloc {w wr : World} {p : Int} {gv : Value} {zs : List Int} {v : Value} (h : GrowB w wr p gv zs v) (o : Obj) : GrowB w (wr.alloc o) p gv zs v :=
  ⟨⟨own_below h.1.1 (new_below wr o), h.1.2.trans ((new_below wr o).mono h.1.2.size)⟩, h.2.1.kept (new_below wr o), h.2.2⟩
theorem GrowB.push {w wr w' : World} {p : Int} {gv : Value} {zs : List Int} {v v' : Value} {x : Int} (h : GrowB w wr p gv zs v) (ho : w'.ownsRow w.heap.size 3 1 v' (zs.length + 1) (intCells zs ++ [.int .i64 x])) (hg : wr.grownBy w' v.ownBlock)
    (hat : v'.ownBlock = v.ownBlock ∨ v'.ownBlock = some (wr.heap.size + 1)) : GrowB w w' p gv (zs ++ [x]) v' := by
  obtain ⟨⟨h1, h2⟩, h3, h4⟩ := h
  refine ⟨⟨by simpa [intCells] using ho, h2.grown hg (Nat.le_trans h2.size (Nat.le_refl _)) fun g hgg => (h1.lt g hgg).1⟩, ?_, ?_⟩
  · refine ⟨Nat.lt_of_lt_of_le h3.1 hg.size, ?_, ?_⟩
    · exact (World.cell?_of_block (hg.block w.heap.size h3.1 fun hc => h4 hc.symm)).trans h3.2.1
    · exact (World.cell?_of_block (a := ⟨w.heap.size, 1, none⟩) (hg.block w.heap.size h3.1 fun hc => h4 hc.symm)).trans h3.2.2
  · rcases hat with hat | hat
    · rw [hat]; exact h4
    · rw [hat]
      intro e
      have := h3.1
      have : wr.heap.size + 1 = w.heap.size := by simpa using e
      omega

set_option maxHeartbeats 4000000 in
set_option maxRecDepth 100000 in
theorem specSpan (p : Int) (l : List (Int × Int)) (zs : List Int) (A Z : Option Addr) (cap cz lo hi : Nat) (w : World) (hl : BarsAt w w.heap.size A l) (hz : IntsIn w lo hi Z zs) (hn : l.length ≤ 1048576) (hnz : zs.length ≤ 1048576) :
    Calls Try.prog 179 #[.agg #[.int .i64 p, .slice A l.length cap], .slice Z zs.length cz] w (IntsO w (spanL l (memS zs))) := by
  have hA1 := new_below w (.cells #[.int .i64 p, .slice A l.length cap] 30)
  have hA2 := new_below (w.alloc (.cells #[.int .i64 p, .slice A l.length cap] 30)) (.cells #[] 3)
  have hsz : (w.alloc (.cells #[.int .i64 p, .slice A l.length cap] 30)).heap.size = w.heap.size + 1 := by simp
  have ho := World.ownsRow_made (base := w.heap.size) (e := 3) (size := 1) (w.alloc (.cells #[.int .i64 p, .slice A l.length cap] 30)) #[] 0 (by simp) (by unfold maxLen; omega) (by simp)
  rw [hsz] at ho
  have HG := Lib.hid (show GrowB w ((w.alloc (.cells #[.int .i64 p, .slice A l.length cap] 30)).alloc (.cells #[] 3)) p (.slice A l.length cap) (outF 0 (spanF l (memS zs))) (.slice (some ⟨w.heap.size + 1, 0, none⟩) 0 0) from
    ⟨⟨ho, below_on hA1 hA2 hA1.size⟩, (box_new w p (.slice A l.length cap) 30).kept hA2, by simp [Value.ownBlock]⟩)
  have HLW := Lib.hid hl
  have HZW := Lib.hid hz
  clear hl hz hA1 hA2 hsz ho
  go_enter Try.func179, Try.ntmps179
  go_wp2_with fail
  generalize ((w.alloc (.cells #[.int .i64 p, .slice A l.length cap] 30)).alloc (.cells #[] 3)) = w1 at *
  go_loopw [5, 6] (fun o i wr => ∃ j : Nat, j ≤ l.length ∧ i = .int .i64 j ∧ GrowB w wr p (.slice A l.length cap) (outF j (spanF l (memS zs))) o) (fun _ i _ => l.length - (intOf i).toNat)
  case atStart => exact ⟨0, by omega, rfl, HG.out⟩
  case round =>
    obtain ⟨j, hj, rfl, hst⟩ := hrel
    have hol := outF_len j (spanF l (memS zs))
    obtain ⟨A', c', rfl⟩ := own_shape hst.1.1
    have HS := Lib.hid hst
    have hbs := hst.1.2.size
    obtain ⟨_, g1, g2⟩ := hst.2.1
    clear hst
    by_cases hlt : j < l.length
    · have hij : (j : Int) < (l.length : Int) := by omega
      obtain ⟨b0, off, rfl, hbB, hcell⟩ := HLW.out (by omega)
      have HBW := HS.out.1.2
      have hc1 := (HBW.cell (p := ⟨b0, off + j * 2, none⟩) hbB).trans (hcell j hlt).1
      have hc2 := (HBW.cell (p := ⟨b0, off + j * 2 + 1, none⟩) hbB).trans (hcell j hlt).2
      have HHAS : ∀ (x : Int), Calls Try.prog 117 #[.slice Z zs.length cz, .int .i64 x] wr fun e w' => e = .returned (.bool (memS zs x)) ∧ wr = w' := fun x =>
        has_c zs x Z cz lo hi wr ⟨Nat.le_trans HZW.out.1 hbs, fun hl0 => by
          obtain ⟨b, off, e, h1, h2, hc⟩ := HZW.out.2 hl0
          exact ⟨b, off, e, h1, h2, fun k hk => (HBW.cell (p := ⟨b, off + k, none⟩) (Nat.lt_of_lt_of_le h2 HZW.out.1)).trans (hc k hk)⟩⟩ hnz
      have HE := Lib.hid (spanF_succ l (memS zs) j)
      obtain ⟨x, hx⟩ : ∃ x, l.getD j (0, 0) = x := ⟨_, rfl⟩
      rw [hx] at hc1 hc2 HE
      obtain ⟨x1, x2⟩ := x
      simp only at hc1 hc2
      clear hcell HBW hx
      have H1 := HHAS x1
      have H2 := HHAS x2
      clear HHAS
      rcases h1 : memS zs x1 with _ | _
      · rw [h1] at H1 HE
        have HE2 := Lib.hid (HE.out.trans (by simp : _ = outF j (spanF l (memS zs))))
        go_wp2_with (go_at_call 117; refine H1.mono ?_; rintro e w2 ⟨rfl, rfl⟩; clear H1)
        go_roundw
        case rel => exact ⟨j + 1, by omega, by go_num, by rw [HE2.out]; exact HS.out⟩
        case measure => simp [intOf]; omega
      · rcases h2 : memS zs x2 with _ | _
        · rw [h1] at H1
          rw [h2] at H2
          rw [h1, h2] at HE
          have HE2 := Lib.hid (HE.out.trans (by simp : _ = outF j (spanF l (memS zs))))
          go_wp2_with (first | (go_at_call 117; refine H1.mono ?_; rintro e w2 ⟨rfl, rfl⟩; clear H1) | (go_at_call 117; refine H2.mono ?_; rintro e w2 ⟨rfl, rfl⟩; clear H2))
          go_roundw
          case rel => exact ⟨j + 1, by omega, by go_num, by rw [HE2.out]; exact HS.out⟩
          case measure => simp [intOf]; omega
        · rw [h1] at H1
          rw [h2] at H2
          rw [h1, h2] at HE
          have HE2 := Lib.hid (HE.out.trans (by simp : _ = outF j (spanF l (memS zs)) ++ [(j : Int)]))
          go_wp2_with (first | (go_at_call 117; refine H1.mono ?_; rintro e w2 ⟨rfl, rfl⟩; clear H1) | (go_at_call 117; refine H2.mono ?_; rintro e w2 ⟨rfl, rfl⟩; clear H2) | (at_builtin; refine wpList_at _ rfl _ _ 61 rfl w.heap.size 3 (.int .i64 0) 1 8 Try.underlying61 infoInt rfl (by decide) _ _ _ rfl HS.out.1.1 #[.int .i64 (j : Int)] 1 rfl (by simp [Value.oneCell']) _ _ rfl (by omega) (by unfold maxLen; omega) hbs ?_; intro v' w' ho hg hat _; obtain ⟨A2, c2, rfl⟩ := own_shape ho; have HY := Lib.hid (HS.out.push ho hg hat); clear ho hg hat))
          go_roundw
          case rel => exact ⟨j + 1, by omega, by go_num, by rw [HE2.out]; exact HY.out⟩
          case measure => simp [intOf]; omega
    · obtain rfl : j = l.length := by omega
      go_wp2_with fail
      go_ret
      exact HS.out.1.intsO
end Go.Proofs.Ytggibhhdnlifcaa
/- What the program's pointSet.list and isOvercounted answer. No condition. -/
namespace Go.Proofs.Ytggibhhdnlifcaa
open Go.RowKit

set_option maxHeartbeats 2000000 in
set_option maxRecDepth 100000 in
theorem implList (P m : Nat) (gv : Value) (w : World) (hP : P ≤ 8) (hm : m < 256) :
    Calls Try.prog 89 #[.int .u64 (m : Int), .agg #[.int .i64 (P : Int), gv]] w (IntsO w (setL P m)) := by
  have HG := Lib.hid (show GrowB w (w.alloc (.cells #[.int .i64 (P : Int), gv] 30)) (P : Int) gv (outF 0 fun v => m.testBit v) (.slice none 0 0) from
    ⟨GrowI.nil w _ (new_below w _), box_new w (P : Int) gv 30, by simp [Value.ownBlock]⟩)
  go_enter Try.func89, Try.ntmps89
  go_wp2_with fail
  generalize (w.alloc (.cells #[.int .i64 (P : Int), gv] 30)) = w1 at *
  go_loopw [5, 9] (fun o i wr => ∃ j : Nat, j ≤ P ∧ i = .int .i64 j ∧ GrowB w wr (P : Int) gv (outF j fun v => m.testBit v) o) (fun _ i _ => P - (intOf i).toNat)
  case atStart => exact ⟨0, by omega, rfl, HG.out⟩
  case round =>
    obtain ⟨j, hj, rfl, hst⟩ := hrel
    have hol := outF_len j (fun v => m.testBit v)
    obtain ⟨A', c', rfl⟩ := own_shape hst.1.1
    have HS := Lib.hid hst
    have hbs := hst.1.2.size
    clear hst
    by_cases hlt : j < P
    · have hij : (j : Int) < (P : Int) := by omega
      have HHAS := has_p m j wr hm (by omega)
      cases ht : m.testBit j
      · rw [ht] at HHAS
        have HE := Lib.hid (show outF (j + 1) (fun v => m.testBit v) = outF j (fun v => m.testBit v) by rw [outF_succ]; simp [ht])
        go_wp2_with (go_at_call 158; refine HHAS.mono ?_; rintro e w2 ⟨rfl, rfl⟩; clear HHAS)
        go_roundw
        case rel => exact ⟨j + 1, by omega, by go_num, by rw [HE.out]; exact HS.out⟩
        case measure => simp [intOf]; omega
      · rw [ht] at HHAS
        have HE := Lib.hid (show outF (j + 1) (fun v => m.testBit v) = outF j (fun v => m.testBit v) ++ [(j : Int)] by rw [outF_succ]; simp [ht])
        go_wp2_with (first | (go_at_call 158; refine HHAS.mono ?_; rintro e w2 ⟨rfl, rfl⟩; clear HHAS) | (at_builtin; refine wpList_at _ rfl _ _ 61 rfl w.heap.size 3 (.int .i64 0) 1 8 Try.underlying61 infoInt rfl (by decide) _ _ _ rfl HS.out.1.1 #[.int .i64 (j : Int)] 1 rfl (by simp [Value.oneCell']) _ 1 (by simp [Act.eval]) (by omega) (by unfold maxLen; omega) hbs ?_; intro v' w' ho hg hat _; obtain ⟨A2, c2, rfl⟩ := own_shape ho; have HY := Lib.hid (HS.out.push ho hg hat); clear ho hg hat))
        go_roundw
        case rel => exact ⟨j + 1, by omega, by go_num, by rw [HE.out]; exact HY.out⟩
        case measure => simp [intOf]; omega
    · obtain rfl : j = P := by omega
      go_wp2_with fail
      go_ret
      exact HS.out.1.intsO

def okE (P : Nat) (l : List (Int × Int)) : Prop := ∀ i, i < l.length → 0 ≤ (l.getD i (0, 0)).1 ∧ (l.getD i (0, 0)).1 < (l.getD i (0, 0)).2 ∧ (l.getD i (0, 0)).2 < (P : Int)

set_option maxHeartbeats 4000000 in
set_option maxRecDepth 100000 in
theorem implOverOne (P m : Nat) (k c : Int) (l : List (Int × Int)) (A : Option Addr) (cap : Nat) (w : World) (hl : BarsAt w w.heap.size A l) (hn : l.length ≤ 24) (hP : P ≤ 8) (hm : m < 2 ^ P) (hE : okE P l) (hr : rangeB k c = true) :
    Calls Try.prog 213 #[.agg #[.int .i64 (P : Int), .slice A l.length cap], .int .u64 (m : Int), .int .i64 k, .int .i64 c] w fun e w' => e = .returned (.bool (badS l k c P m)) ∧ Below w.heap.size w w' := by
  have hm8 : m < 256 := Nat.lt_of_lt_of_le hm (Nat.pow_le_pow_right (by decide) hP : 2 ^ P ≤ 2 ^ 8)
  have hk : 1 ≤ k ∧ k ≤ 3 ∧ 0 ≤ c ∧ c ≤ 2 * k - 1 := by simpa [rangeB, and_assoc] using hr
  have hb := new_below w (.cells #[.int .i64 (P : Int), .slice A l.length cap] 30)
  have HL := Lib.hid hl
  have HB := Lib.hid hb
  have HEE := Lib.hid hE
  have HSZ := size_p P m
  have BX := box_new w (P : Int) (.slice A l.length cap) 30
  clear hl hb hE hr
  obtain ⟨_, g1, g2⟩ := BX
  go_enter Try.func213, Try.ntmps213
  go_wp2_with fail
  clear g1 g2
  generalize (w.alloc (.cells #[.int .i64 (P : Int), .slice A l.length cap] 30)) = w1 at *
  go_loopw [9, 15] (fun n i wr => ∃ j : Nat, j ≤ l.length ∧ i = .int .i64 j ∧ n = .int .i64 ((l.take j).countP (bothB m) : Nat) ∧ Below w.heap.size w wr) (fun _ i _ => l.length - (intOf i).toNat)
  case atStart => exact ⟨0, by omega, rfl, by simp, HB.out⟩
  case round =>
    obtain ⟨j, hj, rfl, rfl, hbw⟩ := hrel
    have HBW := Lib.hid hbw
    have hbs := hbw.size
    clear hbw
    have hcl : (l.take j).countP (bothB m) ≤ j := Nat.le_trans List.countP_le_length (by simp; omega)
    by_cases hlt : j < l.length
    · have hij : (j : Int) < (l.length : Int) := by omega
      obtain ⟨b0, off, rfl, hbB, hcell⟩ := HL.out (by omega)
      have hc1 := (HBW.out.cell (p := ⟨b0, off + j * 2, none⟩) hbB).trans (hcell j hlt).1
      have hc2 := (HBW.out.cell (p := ⟨b0, off + j * 2 + 1, none⟩) hbB).trans (hcell j hlt).2
      have hbar := HEE.out j hlt
      have hx' := countP_take (bothB m) l j hlt
      obtain ⟨x, hx⟩ : ∃ x, l.getD j (0, 0) = x := ⟨_, rfl⟩
      rw [hx] at hc1 hc2 hbar hx'
      obtain ⟨x1, x2⟩ := x
      simp only at hc1 hc2 hbar
      obtain ⟨a, rfl⟩ : ∃ a : Nat, x1 = (a : Int) := ⟨x1.toNat, by omega⟩
      obtain ⟨b, rfl⟩ : ∃ b : Nat, x2 = (b : Int) := ⟨x2.toNat, by omega⟩
      have ha8 : a < 8 := by omega
      have hb8 : b < 8 := by omega
      have hbth : bothB m ((a : Int), (b : Int)) = (m.testBit a && m.testBit b) := rfl
      rw [hbth] at hx'
      clear hx hcell hbar hbth
      have HN := Lib.hid (HBW.out.trans ((new_below wr (.cells #[.int .i64 (a : Int), .int .i64 (b : Int)] 103)).mono hbs))
      have H1 := has_p m a (wr.alloc (.cells #[.int .i64 (a : Int), .int .i64 (b : Int)] 103)) hm8 ha8
      have H2 := has_p m b (wr.alloc (.cells #[.int .i64 (a : Int), .int .i64 (b : Int)] 103)) hm8 hb8
      generalize (l.take j).countP (bothB m) = n0 at *
      cases h1 : m.testBit a
      · rw [h1] at H1
        have HX := Lib.hid (hx'.trans (by rw [h1]; simp : _ = n0))
        clear hx' H2
        go_wp2_with (go_at_call 158; refine H1.mono ?_; rintro e w2 ⟨rfl, rfl⟩; clear H1)
        go_roundw
        case rel => exact ⟨j + 1, by omega, by go_num, by rw [HX.out], HN.out⟩
        case measure => simp [intOf]; omega
      · rw [h1] at H1
        cases h2 : m.testBit b
        · rw [h2] at H2
          have HX := Lib.hid (hx'.trans (by rw [h1, h2]; simp : _ = n0))
          clear hx'
          go_wp2_with (first | (go_at_call 158; refine H1.mono ?_; rintro e w2 ⟨rfl, rfl⟩; clear H1) | (go_at_call 158; refine H2.mono ?_; rintro e w2 ⟨rfl, rfl⟩; clear H2))
          go_roundw
          case rel => exact ⟨j + 1, by omega, by go_num, by rw [HX.out], HN.out⟩
          case measure => simp [intOf]; omega
        · rw [h2] at H2
          have HX := Lib.hid (hx'.trans (by rw [h1, h2]; simp : _ = n0 + 1))
          clear hx'
          go_wp2_with (first | (go_at_call 158; refine H1.mono ?_; rintro e w2 ⟨rfl, rfl⟩; clear H1) | (go_at_call 158; refine H2.mono ?_; rintro e w2 ⟨rfl, rfl⟩; clear H2))
          go_roundw
          case rel => exact ⟨j + 1, by omega, by go_num, by rw [HX.out]; go_num, HN.out⟩
          case measure => simp [intOf]; omega
    · obtain rfl : j = l.length := by omega
      rw [List.take_length] at hcl ⊢
      have hbad : badS l k c P m = (decide (0 < l.countP (bothB m)) && decide (k * ((setL P m).length : Int) - c < (l.countP (bothB m) : Int))) := rfl
      have hsl := setL_len P m
      generalize l.countP (bothB m) = n0 at *
      generalize (setL P m).length = s0 at *
      by_cases h0 : 0 < n0
      · have h0' : (0 : Int) < (n0 : Int) := by omega
        have hks : 0 ≤ k * (s0 : Int) ∧ k * (s0 : Int) ≤ 24 := by
          constructor
          · exact Int.mul_nonneg (by omega) (by omega)
          · calc k * (s0 : Int) ≤ 3 * (s0 : Int) := Int.mul_le_mul_of_nonneg_right (by omega) (by omega)
              _ ≤ 24 := by omega
        by_cases h1 : k * (s0 : Int) - c < (n0 : Int)
        all_goals
          have HBD := Lib.hid (hbad.trans (by simp [h0, h1] : _ = decide (k * (s0 : Int) - c < (n0 : Int))))
          rw [show decide (k * (s0 : Int) - c < (n0 : Int)) = _ from by first | exact decide_eq_true h1 | exact decide_eq_false h1] at HBD
          clear hbad
          go_wp2_with (go_at_call 216; refine (HSZ _ hP hm).mono ?_; rintro e w2 ⟨rfl, rfl⟩)
          go_ret
          exact ⟨by rw [HBD.out]; try simp [*], HBW.out⟩
      · obtain rfl : n0 = 0 := by omega
        have HBD := Lib.hid (hbad.trans (by simp : _ = false))
        clear hbad
        go_wp2_with fail
        go_ret
        exact ⟨by rw [HBD.out]; try simp [*], HBW.out⟩
end Go.Proofs.Ytggibhhdnlifcaa
/- What slices.Contains answers on a row of sets. No condition. -/
namespace Go.Proofs.Ytggibhhdnlifcaa
open Go.RowKit

/-- The slice at A reads as the sets zs, in a block from lo to hi. -/
def SetsIn (W : World) (lo hi : Nat) (A : Option Addr) (zs : List Int) : Prop :=
  hi ≤ W.heap.size ∧ (0 < zs.length → ∃ b off, A = some ⟨b, off, none⟩ ∧ lo ≤ b ∧ b < hi ∧ ∀ k, k < zs.length → W.cell? ⟨b, off + k, none⟩ = some (.int .u64 (zs.getD k 0)))
theorem SetsIn.within {W W' : World} {lo hi lo' hi' : Nat} {A : Option Addr} {zs : List Int} (h : SetsIn W lo hi A zs) (hw : Within lo' hi' W W') (hd : hi ≤ lo' ∨ hi' ≤ lo) : SetsIn W' lo hi A zs :=
  ⟨Nat.le_trans h.1 hw.size, fun hl => by
    obtain ⟨b, off, e, h1, h2, hc⟩ := h.2 hl
    have hk := hw.block b (Nat.lt_of_lt_of_le h2 h.1) (by omega)
    exact ⟨b, off, e, h1, h2, fun k hk' => (World.cell?_of_block (a := ⟨b, off + k, none⟩) hk).trans (hc k hk')⟩⟩
def setCells (zs : List Int) : List Value := zs.map (Value.int .u64)
theorem setCells_get (zs : List Int) (k : Nat) (h : k < zs.length) : (setCells zs)[k]? = some (.int .u64 (zs.getD k 0)) := by
  simp [setCells, List.getD, List.getElem?_eq_getElem h]
theorem setCells_len (zs : List Int) : (setCells zs).length = zs.length := by simp [setCells]
theorem mem_cast (xs : List Nat) (x : Nat) : decide ((x : Int) ∈ xs.map (fun y : Nat => (y : Int))) = decide (x ∈ xs) := by
  refine decide_eq_decide.2 ⟨fun h => ?_, fun h => List.mem_map.2 ⟨x, h, rfl⟩⟩
  obtain ⟨y, h1, h2⟩ := List.mem_map.1 h
  have : y = x := by omega
  exact this ▸ h1

set_option maxHeartbeats 2000000 in
set_option maxRecDepth 100000 in
theorem slIndexU (zs : List Int) (x : Int) (A : Option Addr) (cap lo hi : Nat) (w : World) (hl : SetsIn w lo hi A zs) (hn : zs.length ≤ 1048576) :
    Calls Try.prog 192 #[.slice A zs.length cap, .int .u64 x] w fun e w' => (∃ r : Int, e = .returned (.int .i64 r) ∧ (0 ≤ r ↔ x ∈ zs)) ∧ w = w' := by
  have HL := Lib.hid hl
  clear hl
  go_enter Try.func192, Try.ntmps192
  go_wp2_with fail
  go_loop [8] (fun i => ∃ k : Nat, k ≤ zs.length ∧ i = .int .i64 k ∧ ∀ j, j < k → zs.getD j 0 ≠ x) (fun i => zs.length - (intOf i).toNat)
  case atStart => exact ⟨0, by omega, rfl, fun j hj => absurd hj (by omega)⟩
  case round =>
    obtain ⟨k, hk, rfl, hall⟩ := hrel
    have HALL := Lib.hid hall
    clear hall
    by_cases hlt : k < zs.length
    · have hi : (k : Int) < (zs.length : Int) := by omega
      obtain ⟨b, off, rfl, _, _, hcell⟩ := HL.out.2 (by omega)
      have hc := hcell k hlt
      clear hcell
      have HM := Lib.hid (show zs.getD k 0 ∈ zs by
        have : zs.getD k 0 = zs[k] := by simp [List.getD, List.getElem?_eq_getElem hlt]
        rw [this]; exact List.getElem_mem hlt)
      obtain ⟨y, hy⟩ : ∃ y, zs.getD k 0 = y := ⟨_, rfl⟩
      rw [hy] at hc HM
      by_cases he : y = x
      · have he' : (x == y) = true := by simpa using he.symm
        have HD := Lib.hid (show (0 : Int) ≤ (k : Int) ↔ x ∈ zs from ⟨fun _ => by rw [← he]; exact HM.out, fun _ => by omega⟩)
        clear he hy
        go_wp2_with fail
        go_ret
        exact ⟨⟨_, rfl, HD.out⟩, rfl⟩
      · have he' : (x == y) = false := by simpa using fun e => he e.symm
        have HS := Lib.hid (show ∀ j, j < k + 1 → zs.getD j 0 ≠ x from fun j hj => by
          by_cases e : j = k
          · subst e; rw [hy]; exact he
          · exact HALL.out j (by omega))
        clear he hy
        go_wp2_with fail
        go_round
        case rel => exact ⟨k + 1, by omega, by go_num, HS.out⟩
        case measure => simp [intOf]; omega
    · obtain rfl : k = zs.length := by omega
      have HD := Lib.hid (show (0 : Int) ≤ -1 ↔ x ∈ zs by
        refine ⟨fun h => absurd h (by omega), fun hm => False.elim ?_⟩
        obtain ⟨i, hi, e⟩ := List.getElem_of_mem hm
        refine HALL.out i hi ?_
        simpa [List.getD, List.getElem?_eq_getElem hi] using e)
      go_wp2_with fail
      go_ret
      exact ⟨⟨_, rfl, HD.out⟩, rfl⟩

set_option maxHeartbeats 2000000 in
set_option maxRecDepth 100000 in
theorem slContainsU (zs : List Int) (x : Int) (A : Option Addr) (cap lo hi : Nat) (w : World) (hl : SetsIn w lo hi A zs) (hn : zs.length ≤ 1048576) :
    Calls Try.prog 156 #[.slice A zs.length cap, .int .u64 x] w fun e w' => e = .returned (.bool (decide (x ∈ zs))) ∧ w = w' := by
  have HL := Lib.hid hl
  clear hl
  by_cases hm : x ∈ zs
  · rw [decide_eq_true hm]
    have HM := Lib.hid hm
    clear hm
    go_enter Try.func156, Try.ntmps156
    go_wp2_with fail
    refine (slIndexU zs x A cap lo hi _ HL.out hn).mono ?_
    rintro e w1 ⟨⟨r, rfl, hr⟩, rfl⟩
    have hr0 : 0 ≤ r := hr.2 HM.out
    clear hr
    go_wp2_with fail
    go_ret
    exact ⟨by first | rfl | simp [hr0], rfl⟩
  · rw [decide_eq_false hm]
    have HM := Lib.hid hm
    clear hm
    go_enter Try.func156, Try.ntmps156
    go_wp2_with fail
    refine (slIndexU zs x A cap lo hi _ HL.out hn).mono ?_
    rintro e w1 ⟨⟨r, rfl, hr⟩, rfl⟩
    have hr0 : ¬ 0 ≤ r := fun h => HM.out (hr.1 h)
    have hr1 : r < 0 := by omega
    clear hr
    go_wp2_with fail
    go_ret
    exact ⟨by first | rfl | simp [hr0] | simp [hr1], rfl⟩
end Go.Proofs.Ytggibhhdnlifcaa
/- Rows of sets of the call's own: what an append onto them asks and does. No condition. -/
namespace Go.Proofs.Ytggibhhdnlifcaa
open Go.RowKit

/-- A row of sets of the call's own in a block from lo to hi, or no block; an empty one too can be appended to. -/
def OwnU (W : World) (lo hi : Nat) (A : Option Addr) (cap : Nat) (zs : List Int) : Prop :=
  hi ≤ W.heap.size ∧ ((A = none ∧ cap = 0 ∧ zs = []) ∨ ∃ g, A = some ⟨g, 0, none⟩ ∧ lo ≤ g ∧ g < hi ∧ W.ownsRow lo 106 1 (.slice (some ⟨g, 0, none⟩) zs.length cap) zs.length (setCells zs))
theorem OwnU.within {W W' : World} {lo hi lo' hi' : Nat} {A : Option Addr} {cap : Nat} {zs : List Int} (h : OwnU W lo hi A cap zs) (hw : Within lo' hi' W W') (hd : hi ≤ lo' ∨ hi' ≤ lo) : OwnU W' lo hi A cap zs :=
  ⟨Nat.le_trans h.1 hw.size, by
    rcases h.2 with h2 | ⟨g, e, h1, h2, ho⟩
    · exact .inl h2
    · exact .inr ⟨g, e, h1, h2, own_block ho (hw.block g (Nat.lt_of_lt_of_le h2 h.1) (by omega))⟩⟩
/-- What an append onto the row asks. -/
theorem OwnU.row {W : World} {lo hi : Nat} {A : Option Addr} {cap : Nat} {zs : List Int} (h : OwnU W lo hi A cap zs) : W.ownsRow lo 106 1 (.slice A zs.length cap) zs.length (setCells zs) := by
  rcases h.2 with ⟨rfl, rfl, rfl⟩ | ⟨g, rfl, _, _, ho⟩
  · exact ⟨rfl, .inl ⟨rfl, rfl⟩⟩
  · exact ho
theorem own_u {w' : World} {base : Nat} {A : Option Addr} {cap : Nat} {zs : List Int} (h : w'.ownsRow base 106 1 (.slice A zs.length cap) zs.length (setCells zs)) : OwnU w' base w'.heap.size A cap zs := by
  rcases h.2 with ⟨h1, h0⟩ | ⟨g, cap', cur, h1, h2⟩
  · injection h1 with e1 e2 e3
    exact ⟨Nat.le_refl _, .inl ⟨e1, e3, List.eq_nil_of_length_eq_zero h0⟩⟩
  · cases h1
    exact ⟨Nat.le_refl _, .inr ⟨g, rfl, (h.lt g rfl).1, (h.lt g rfl).2, h⟩⟩
theorem infoSet : (Try.prog.info? 106).map (fun i => (i.zero, i.size, i.bytes)) = some (some (.int .u64 0), 1, 8) := by kernel_rfl
theorem wpList_pushU (w : World) {ops : Array Oper} {rest : List Oper} {o : Oper} {a : Act} {Q : Exit → Act → World → Prop} (hgd : o.guard = none) (s x : Operand)
    (ho : o.op = .call { callee := .builtin .append, args := #[s, x], argTypes := #[99, 99] }) (lo hi : Nat) (A : Option Addr) (cap : Nat) (zs : List Int) (y : Int) (hs : a.eval s = .slice A zs.length cap) (hr : OwnU w lo hi A cap zs)
    (tb : TypeId) (hx : a.eval x = .slice (some ⟨w.heap.size, 0, none⟩) 1 1) (hn : zs.length ≤ 1048576) (hlo : lo ≤ w.heap.size)
    (h : ∀ A' c' w' lo' hi', OwnU w' lo' hi' A' c' (zs ++ [y]) → ((lo' = lo ∧ hi' = hi) ∨ (w.heap.size ≤ lo' ∧ lo' ≤ w'.heap.size ∧ hi' ≤ w'.heap.size)) → Within lo hi w w' → wpList Try.prog ops Q rest (a.put o.dst (.slice A' (zs.length + 1) c')) w') : wpList Try.prog ops Q (o :: rest) a (w.alloc (.cells #[.int .u64 y] tb)) := by
  have hlen : (zs ++ [y]).length = zs.length + 1 := by simp
  have hcells : setCells (zs ++ [y]) = setCells zs ++ [.int .u64 y] := by simp [setCells]
  refine wpList_at w hgd s x 99 ho lo 106 (.int .u64 0) 1 8 Try.underlying99 infoSet rfl (by decide) _ _ _ hs hr.row #[.int .u64 y] 1 rfl (by simp [Value.oneCell']) tb 1 hx (by omega) (by unfold maxLen; omega) hlo ?_
  intro v' w' hown hg hat _
  obtain ⟨A', c', rfl⟩ := own_shape hown
  rw [show setCells zs ++ (#[Value.int .u64 y] : Array Value).toList = setCells (zs ++ [y]) from hcells.symm, ← hlen] at hown
  rw [← hlen] at hat
  have hw : Within lo hi w w' := ⟨hg.os, hg.tape, hg.output, hg.size, fun k hk hd => hg.block k hk fun e => by
    rcases hr.2 with ⟨rfl, rfl, rfl⟩ | ⟨g, rfl, g1, g2, _⟩
    · cases e
    · have : k = g := by simpa [Value.ownBlock] using e
      omega⟩
  rcases hown.2 with ⟨_, e0⟩ | ⟨g', cap', cur, e1, _⟩
  · rw [hlen] at e0; omega
  · injection e1 with q1 q2 q3
    subst q1
    have hlt := hown.lt g' rfl
    rcases hat with e | e
    · rcases hr.2 with ⟨rfl, rfl, rfl⟩ | ⟨g, rfl, g1, g2, _⟩
      · cases e
      · have : g' = g := by simpa [Value.ownBlock] using e
        subst this
        exact h _ c' w' lo hi ⟨Nat.le_trans hr.1 hg.size, .inr ⟨g', rfl, g1, g2, hown⟩⟩ (.inl ⟨rfl, rfl⟩) hw
    · have : g' = w.heap.size + 1 := by simpa [Value.ownBlock] using e
      exact h _ c' w' g' (g' + 1) ⟨hlt.2, .inr ⟨g', rfl, Nat.le_refl _, by omega, own_rebase hown (Nat.le_refl _)⟩⟩ (.inr ⟨by omega, by omega, hlt.2⟩) hw
/-- The row reads as its sets. -/
theorem OwnU.reads {W : World} {lo hi : Nat} {A : Option Addr} {cap : Nat} {zs : List Int} (h : OwnU W lo hi A cap zs) : SetsIn W lo hi A zs :=
  ⟨h.1, fun hl => by
    rcases h.2 with ⟨_, _, h2⟩ | ⟨g, e, h1, h2, ho⟩
    · subst h2; simp at hl
    · exact ⟨g, 0, e, h1, h2, fun k hk => by
        rw [Nat.zero_add]
        exact (ho.cellAt k (by omega)).trans (setCells_get zs k hk)⟩⟩
end Go.Proofs.Ytggibhhdnlifcaa
/- (*uniqueList).add: one set more, if it is not yet there. No condition. -/
namespace Go.Proofs.Ytggibhhdnlifcaa
open Go.RowKit

/-- A block of one cell. -/
def Cel1 (W : World) (b : Nat) (T : TypeId) (v : Value) : Prop := W.heap[b]? = some (.cells #[v] T)
theorem Cel1.lt {W : World} {b : Nat} {T : TypeId} {v : Value} (h : Cel1 W b T v) : b < W.heap.size := by
  unfold Cel1 at h
  rw [Array.getElem?_eq_some_iff] at h
  exact h.1
theorem Cel1.within {W W' : World} {b lo hi : Nat} {T : TypeId} {v : Value} (h : Cel1 W b T v) (hw : Within lo hi W W') (hd : b < lo ∨ hi ≤ b) : Cel1 W' b T v := (hw.block b h.lt hd).trans h
theorem Cel1.set0 {W : World} {b : Nat} {T : TypeId} {v : Value} (h : Cel1 W b T v) (u : Value) : Cel1 (W.setCell ⟨b, 0, none⟩ u) b T u := heap_setCell_same W b 0 _ T u h
theorem cel1_new (w : World) (v : Value) (T : TypeId) : Cel1 (w.alloc (.cells #[v] T)) w.heap.size T v := heap_alloc_new w _

/-- The list of sets in the box b. -/
structure UniQ (W : World) (b lo hi : Nat) (xs : List Nat) : Prop where
  box : ∃ A cap, Cel1 W b 101 (.slice A (xs.map fun y : Nat => (y : Int)).length cap) ∧ OwnU W lo hi A cap (xs.map fun y : Nat => (y : Int))
  dis : b < lo ∨ hi ≤ b
  le : lo ≤ W.heap.size
theorem Cel1.cells {W : World} {b : Nat} {T : TypeId} {v : Value} (h : Cel1 W b T v) : W.cell? ⟨b, 0, none⟩ = some v ∧ W.frozen? ⟨b, 0, none⟩ = false := by
  refine ⟨?_, frozen_of_row W b 0 _ T h⟩
  rw [cell_of_row W b 0 _ T (0, 0) h]
  rfl
theorem UniQ.within {W W' : World} {b lo hi lo' hi' : Nat} {xs : List Nat} (h : UniQ W b lo hi xs) (hw : Within lo' hi' W W') (hb : b < lo' ∨ hi' ≤ b) (hd : hi ≤ lo' ∨ hi' ≤ lo) : UniQ W' b lo hi xs := by
  obtain ⟨A, cap, h1, h2⟩ := h.box
  exact ⟨⟨A, cap, h1.within hw hb, h2.within hw hd⟩, h.dis, Nat.le_trans h.le hw.size⟩
theorem uniq_new (w : World) : UniQ (w.alloc (.cells #[.slice none 0 0] 101)) w.heap.size (w.heap.size + 1) (w.heap.size + 1) [] :=
  ⟨⟨none, 0, cel1_new w _ _, by simp, .inl ⟨rfl, rfl, rfl⟩⟩, .inl (by omega), by simp⟩

set_option maxHeartbeats 2000000 in
set_option maxRecDepth 100000 in
theorem addU_c (xs : List Nat) (x b lo hi : Nat) (w : World) (h : UniQ w b lo hi xs) (hn : xs.length ≤ 1048575) :
    Calls Try.prog 87 #[.pointer (some ⟨b, 0, none⟩), .int .u64 (x : Int)] w fun e w' => e = .returned (.tuple #[]) ∧ ∃ lo' hi', UniQ w' b lo' hi' (addU xs x) ∧ ((lo' = lo ∧ hi' = hi) ∨ (w.heap.size ≤ lo' ∧ hi' ≤ w'.heap.size)) ∧ w.heap.size ≤ w'.heap.size ∧ w'.os = w.os ∧ w'.tape = w.tape ∧ w'.output = w.output ∧ ∀ k, k < w.heap.size → k ≠ b → (k < lo ∨ hi ≤ k) → w'.heap[k]? = w.heap[k]? := by
  obtain ⟨⟨A, cap, hc, ho⟩, hd, hle⟩ := h
  obtain ⟨zs, hz⟩ : ∃ zs, xs.map (fun y : Nat => (y : Int)) = zs := ⟨_, rfl⟩
  have hzn : zs.length ≤ 1048575 := by rw [← hz, List.length_map]; exact hn
  have HM := Lib.hid (show decide ((x : Int) ∈ zs) = decide (x ∈ xs) from by rw [← hz]; exact mem_cast xs x)
  have HZ := Lib.hid hz
  rw [hz] at hc ho
  clear hz
  have HC := Lib.hid hc
  have HO := Lib.hid ho
  have HD := Lib.hid hd
  have HLE := Lib.hid hle
  have HLT := Lib.hid hc.lt
  have hc0 := hc.cells.1
  have hf0 := hc.cells.2
  clear hc ho hd hle hn
  by_cases hx : x ∈ xs
  · have HX := Lib.hid hx
    have HT := Lib.hid (show decide ((x : Int) ∈ zs) = true from by rw [HM.out]; exact decide_eq_true hx)
    clear hx
    go_enter Try.func87, Try.ntmps87
    go_wp2_with fail
    refine (slContainsU zs (x : Int) A cap _ _ _ HO.out.reads (by omega)).mono ?_
    rintro e w1 ⟨rfl, rfl⟩
    rw [HT.out]
    go_wp2_with fail
    go_end0
    have hz := HZ.out
    subst hz
    rw [addU_in HX.out]
    exact ⟨rfl, lo, hi, ⟨⟨A, cap, HC.out, HO.out⟩, HD.out, HLE.out⟩, .inl ⟨rfl, rfl⟩, Nat.le_refl _, rfl, rfl, rfl, fun _ _ _ _ => rfl⟩
  · have HX := Lib.hid hx
    have HT := Lib.hid (show decide ((x : Int) ∈ zs) = false from by rw [HM.out]; exact decide_eq_false hx)
    clear hx
    go_enter Try.func87, Try.ntmps87
    go_wp2_with fail
    refine (slContainsU zs (x : Int) A cap _ _ _ HO.out.reads (by omega)).mono ?_
    rintro e w1 ⟨rfl, rfl⟩
    rw [HT.out]
    go_wp2_with (at_builtin; refine wpList_pushU _ rfl _ _ rfl lo hi A cap zs (x : Int) rfl HO.out _ rfl (by omega) HLE.out ?_; intro A2 c2 w2 lo2 hi2 ho2 hd2 hw2; have HC2 := Lib.hid (HC.out.within hw2 HD.out); have q0 := HC2.out.cells.1; have f0 := HC2.out.cells.2; have HO2 := Lib.hid ho2; have HD2 := Lib.hid hd2; have HW2 := Lib.hid hw2; clear ho2 hd2 hw2)
    go_end0
    have hlt := HLT.out
    have hdd := HD.out
    have hd2 := HD2.out
    have hs2 := HW2.out.size
    have hws := within_set w2 b 0 (.slice A2 (zs.length + 1) c2)
    have hl2 : lo2 ≤ w2.heap.size := by have := HLE.out; omega
    have hz := HZ.out
    subst hz
    have HC3 := HC2.out.set0 (.slice A2 ((xs.map fun y : Nat => (y : Int)).length + 1) c2)
    rw [addU_out HX.out]
    refine ⟨rfl, lo2, hi2, ⟨⟨A2, c2, ?_, ?_⟩, by omega, Nat.le_trans hl2 hws.size⟩, ?_, Nat.le_trans hs2 hws.size, hws.os.trans HW2.out.os, hws.tape.trans HW2.out.tape, hws.output.trans HW2.out.output, fun k hk hkb hkl => (hws.block k (by omega) (by omega)).trans (HW2.out.block k hk hkl)⟩
    · simpa using HC3
    · have := HO2.out.within hws (by omega)
      simpa using this
    · have := hws.size
      omega
end Go.Proofs.Ytggibhhdnlifcaa
/- What impl.ComponentsOf answers: the same as the specification's, in memory of its own. No condition. -/
namespace Go.Proofs.Ytggibhhdnlifcaa
open Go.RowKit

/-- Rows of rows of the call's own. -/
def RowsW (w : World) (rs : List (List Int)) (e : Ending) (w' : World) : Prop :=
  ∃ A cap, e = .returned (.slice A rs.length cap) ∧ RowsOwn w' w.heap.size w'.heap.size A rs ∧ Below w.heap.size w w'
theorem RowsOwn.widen {W : World} {lo hi lo' hi' : Nat} {A : Option Addr} {rs : List (List Int)} (h : RowsOwn W lo hi A rs) (h1 : lo' ≤ lo) (h2 : hi ≤ hi') (h3 : hi' ≤ W.heap.size) : RowsOwn W lo' hi' A rs :=
  ⟨h3, fun hl => by
    obtain ⟨g, r, S, e, q1, q2, q3, hc⟩ := h.2 hl
    refine ⟨g, r, S, e, by omega, by omega, q3, fun k hk => ?_⟩
    obtain ⟨c1, c2, c3, c4, c5⟩ := hc k hk
    exact ⟨c1, c2, by omega, by omega, c5⟩⟩
theorem cast_get (xs : List Nat) (k : Nat) (h : k < xs.length) : (xs.map fun y : Nat => (y : Int)).getD k 0 = ((xs.getD k 0 : Nat) : Int) := by
  simp [List.getD, h]
theorem take_snoc {α : Type} (ys : List α) (z : α) (k : Nat) (h : k < ys.length) : ys.take (k + 1) = ys.take k ++ [ys.getD k z] := take_getD ys z k h
theorem map_get (xs : List Nat) (P k : Nat) (h : k < xs.length) : (xs.map (setL P)).getD k [] = setL P (xs.getD k 0) := by
  simp [List.getD, h]

set_option maxHeartbeats 8000000 in
set_option maxRecDepth 100000 in
theorem implComs (p : Int) (l : List (Int × Int)) (A : Option Addr) (cap : Nat) (w : World) (hl : BarsAt w w.heap.size A l) (hn : l.length ≤ 1048576) :
    Calls Try.prog 14 #[.agg #[.int .i64 p, .slice A l.length cap]] w (RowsW w (comV p l)) := by
  have hA1 := new_below w (.cells #[.int .i64 p, .slice A l.length cap] 30)
  have HA1 := Lib.hid hA1
  have HL1 := Lib.hid (hl.on hA1)
  have BX1 := Lib.hid (box_new w p (.slice A l.length cap) 30)
  have HS1 := Lib.hid (show (w.alloc (.cells #[.int .i64 p, .slice A l.length cap] 30)).heap.size = w.heap.size + 1 by simp)
  have hg := implIsGraph p l A cap (w.alloc (.cells #[.int .i64 p, .slice A l.length cap] 30)) HL1.out hn
  clear hl hA1
  go_enter Try.func14, Try.ntmps14
  obtain ⟨g0, g1, g2⟩ := BX1.out
  go_wp2_with fail
  clear g0 g1 g2
  generalize (w.alloc (.cells #[.int .i64 p, .slice A l.length cap] 30)) = w1 at *
  cases hG : isGB p l with
  | false =>
    have HR := Lib.hid (comV_no hG)
    rw [hG] at hg
    clear hG
    refine hg.mono ?_
    rintro e w2 ⟨rfl, hb⟩
    go_wp2_with fail
    go_ret
    refine ⟨none, 0, by rw [HR.out] <;> rfl, ?_, below_on HA1.out hb HA1.out.size⟩
    rw [HR.out]
    exact ⟨Nat.le_refl _, fun h => absurd h (by simp)⟩
  | true =>
    have hGG : IsG p l := Classical.byContradiction fun g => by rw [isGB_no g] at hG; cases hG
    have hp := hGG.1
    have h24 := hGG.2.1
    obtain ⟨P, rfl⟩ : ∃ P : Nat, p = (P : Int) := ⟨p.toNat, by omega⟩
    have HR := Lib.hid (comV_set hG)
    have HBAR := Lib.hid (fun (k : Nat) (hk : k < l.length) => isG_bar hGG k hk)
    have HSL := Lib.hid (fun (n : Nat) => comS_len (P : Int) l P n)
    have HSLT := Lib.hid (fun (n : Nat) => comS_lt (P : Int) l P n)
    have HPP := Lib.hid (show P ≤ 8 by omega)
    rw [hG] at hg
    clear hG hGG
    refine hg.mono ?_
    rintro e w2 ⟨rfl, hb⟩
    have HB2 := Lib.hid hb
    have BX2 := Lib.hid (BX1.out.kept hb)
    have HL2 := Lib.hid (HL1.out.on hb)
    clear hb hg
    have hA3 := new_below w2 (.cells #[.slice none 0 0] 101)
    have HA3 := Lib.hid hA3
    have HU3 := Lib.hid (uniq_new w2)
    have HS3 := Lib.hid (show (w2.alloc (.cells #[.slice none 0 0] 101)).heap.size = w2.heap.size + 1 by simp)
    obtain ⟨g0, g1, g2⟩ := BX2.out.kept hA3
    clear hA3
    go_wp2_with fail
    generalize (w2.alloc (.cells #[.slice none 0 0] 101)) = w3 at *
    clear g0 g1 g2
    go_loopw [15] (fun i wr => ∃ k lo hi : Nat, k ≤ l.length ∧ i = .int .i64 k ∧ UniQ wr w2.heap.size lo hi (comS (P : Int) l P k) ∧ w2.heap.size < lo ∧ Below w2.heap.size w2 wr) (fun i _ => l.length - (intOf i).toNat)
    case atStart => exact ⟨0, _, _, by omega, rfl, HU3.out, by omega, HA3.out⟩
    case round =>
      obtain ⟨k, lo, hi, hk, rfl, hu, hlo, hb⟩ := hrel
      have HB := Lib.hid hb
      have HU := Lib.hid hu
      have hbs := hb.size
      have hult : w2.heap.size < wr.heap.size := by
        obtain ⟨_, _, hc, _⟩ := hu.box
        exact hc.lt
      have HULT := Lib.hid hult
      clear hb hu
      have hxl := HSL.out k
      by_cases hlt : k < l.length
      · have hki : (k : Int) < (l.length : Int) := by omega
        obtain ⟨bb, off, rfl, hbB, hcell⟩ := HL2.out (by omega)
        have hc1 := (HB.out.cell (p := ⟨bb, off + k * 2, none⟩) hbB).trans (hcell k hlt).1
        have hc2 := (HB.out.cell (p := ⟨bb, off + k * 2 + 1, none⟩) hbB).trans (hcell k hlt).2
        have hbar := HBAR.out k hlt
        have HK1 := Lib.hid (show comS (P : Int) l P (k + 1) = addU (comS (P : Int) l P k) (cobS (P : Int) l (l.getD k (0, 0)) P) from rfl)
        obtain ⟨x, hx⟩ : ∃ x, l.getD k (0, 0) = x := ⟨_, rfl⟩
        rw [hx] at hc1 hc2 hbar HK1
        obtain ⟨x1, x2⟩ := x
        dsimp only at hc1 hc2 hbar
        obtain ⟨a, rfl⟩ : ∃ a : Nat, x1 = (a : Int) := ⟨x1.toNat, by omega⟩
        obtain ⟨b, rfl⟩ : ∃ b : Nat, x2 = (b : Int) := ⟨x2.toNat, by omega⟩
        have hab : (a : Int) < (b : Int) := hbar.2.1
        clear hcell hx hbar
        have hA4 := new_below wr (.cells #[.int .i64 (a : Int), .int .i64 (b : Int)] 103)
        have HB4 := Lib.hid (below_on HB.out hA4 hbs)
        have HU4 := Lib.hid (HU.out.within (within_of hA4) (.inr (Nat.zero_le _)) (.inr (Nat.zero_le _)))
        have BB4 := box_new wr (a : Int) (.int .i64 (b : Int)) 103
        have HSZ4 := Lib.hid (show (wr.alloc (.cells #[.int .i64 (a : Int), .int .i64 (b : Int)] 103)).heap.size = wr.heap.size + 1 by simp)
        obtain ⟨g0, g1, g2⟩ := BX2.out.kept (below_on HB.out hA4 hbs)
        obtain ⟨g3, g4, g5⟩ := BB4
        clear hA4
        go_wp2_with fail
        generalize (wr.alloc (.cells #[.int .i64 (a : Int), .int .i64 (b : Int)] 103)) = w4 at *
        clear g0 g1 g2 g3 g4 g5
        refine (held_c P a b l (some ⟨bb, off, none⟩) cap w4 (HL2.out.on HB4.out) hn HPP.out hab).mono ?_
        rintro e w5 ⟨rfl, hb5⟩
        have HB5 := Lib.hid (below_on HB4.out hb5 HB4.out.size)
        have HS5 := Lib.hid hb5.size
        have HU5 := Lib.hid (HU4.out.within (within_of hb5) (.inr (Nat.zero_le _)) (.inr (Nat.zero_le _)))
        clear hb5
        go_wp2_with fail
        refine (addU_c (comS (P : Int) l P k) (cobS (P : Int) l ((a : Int), (b : Int)) P) w2.heap.size lo hi w5 HU5.out (by omega)).mono ?_
        rintro e w6 ⟨rfl, lo2, hi2, hu6, hd6, hs6, ho6, ht6, hw6, hk6⟩
        have HU6 := Lib.hid (show UniQ w6 w2.heap.size lo2 hi2 (comS (P : Int) l P (k + 1)) by rw [HK1.out]; exact hu6)
        have HLO6 := Lib.hid (show w2.heap.size < lo2 by have := HS5.out; have := HULT.out; have := HSZ4.out; rcases hd6 with ⟨e, _⟩ | ⟨e, _⟩ <;> omega)
        have HB6 := Lib.hid (show Below w2.heap.size w2 w6 from ⟨ho6.trans HB5.out.os, ht6.trans HB5.out.tape, hw6.trans HB5.out.output, Nat.le_trans HB5.out.size hs6, fun i hi' => (hk6 i (by have := HB5.out.size; omega) (by omega) (by omega)).trans (HB5.out.block i hi')⟩)
        clear hu6 hd6 hs6 ho6 ht6 hw6 hk6
        go_wp2_with fail
        go_roundw
        case rel => exact ⟨k + 1, lo2, hi2, by omega, by go_num, HU6.out, HLO6.out, HB6.out⟩
        case measure => simp [intOf]; omega
      · obtain rfl : k = l.length := by omega
        generalize wr = wo at *
        have hR := HR.out
        have hLT := HSLT.out l.length
        obtain ⟨xs, hxs⟩ : ∃ xs, comS (P : Int) l P l.length = xs := ⟨_, rfl⟩
        rw [hxs] at HU hR hxl hLT
        have HRX := Lib.hid hR
        have HLTX := Lib.hid hLT
        have HZL := Lib.hid (show (xs.map fun y : Nat => (y : Int)).length = xs.length from List.length_map _)
        have HGET := Lib.hid (cast_get xs)
        have HMG := Lib.hid (map_get xs P)
        have HML := Lib.hid (show (xs.map (setL P)).length = xs.length from List.length_map _)
        obtain ⟨AU, cu, hcb, hou⟩ := HU.out.box
        obtain ⟨zs, hzs⟩ : ∃ zs, (xs.map fun y : Nat => (y : Int)) = zs := ⟨_, rfl⟩
        rw [hzs] at hcb hou HZL HGET
        have HSI := Lib.hid hou.reads
        have hq := hcb.cells.1
        have hxz := HZL.out
        clear hR hLT hxs hzs hou hcb
        go_wp2_with fail
        clear hq
        go_loopw [6, 27] (fun o i wq => ∃ (j T lo' hi' : Nat) (A' : Option Addr) (c' : Nat), j ≤ zs.length ∧ i = .int .i64 j ∧ o = .slice A' ((xs.map (setL P)).take j).length c' ∧ RowsG wq wo.heap.size T lo' hi' A' c' ((xs.map (setL P)).take j) ∧ Below wo.heap.size wo wq) (fun _ i _ => zs.length - (intOf i).toNat)
        case atStart => exact ⟨0, wo.heap.size, wo.heap.size, wo.heap.size, none, 0, by omega, rfl, rfl, RowsG.nil wo, Below.refl _ _⟩
        case round =>
          obtain ⟨j, T, lo', hi', A', c', hj, rfl, rfl, hrg, hb⟩ := hrel
          have HBI := Lib.hid hb
          have HRG := Lib.hid hrg
          have BXI := Lib.hid ((BX2.out.kept HB.out).kept hb)
          have HSII := Lib.hid (HSI.out.within (within_of hb) (.inr (Nat.zero_le _)))
          have HTS := Lib.hid (fun h => take_snoc (xs.map (setL P)) [] j h)
          have HTL := Lib.hid (show ((xs.map (setL P)).take j).length ≤ 24 by rw [List.length_take]; omega)
          have HTE := Lib.hid (show xs.length ≤ j → (xs.map (setL P)).take j = xs.map (setL P) from fun h => List.take_of_length_le (by rw [HML.out]; exact h))
          obtain ⟨ys, hys⟩ : ∃ ys, (xs.map (setL P)).take j = ys := ⟨_, rfl⟩
          rw [hys] at HRG HTS HTL HTE ⊢
          clear hb hrg hys
          obtain ⟨g0, g1, g2⟩ := BXI.out
          by_cases hjl : j < zs.length
          · have hij : (j : Int) < (zs.length : Int) := by omega
            obtain ⟨b, off, rfl, _, _, hcell⟩ := HSII.out.2 (by omega)
            have hc := hcell j hjl
            rw [HGET.out j (by omega)] at hc
            have HTS1 := Lib.hid (HTS.out (by rw [HML.out]; omega))
            have hmg := HMG.out j (by omega)
            have hm : xs.getD j 0 < 256 := by
              have h1 := HLTX.out (xs.getD j 0) (by
                rw [show xs.getD j 0 = xs[j]'(by omega) by simp [List.getD, show j < xs.length by omega]]
                exact List.getElem_mem _)
              have h2 : 2 ^ P ≤ 2 ^ 8 := Nat.pow_le_pow_right (by decide) HPP.out
              omega
            obtain ⟨m, hme⟩ : ∃ m, xs.getD j 0 = m := ⟨_, rfl⟩
            rw [hme] at hc hm hmg
            rw [hmg] at HTS1
            clear hcell hme hmg
            go_wp2_with fail
            refine (implList P m (.slice A l.length cap) _ HPP.out hm).mono ?_
            rintro e w6 ⟨Ax, cx, rfl, hx, hb6⟩
            obtain ⟨x, hxe⟩ : ∃ x, setL P m = x := ⟨_, rfl⟩
            rw [hxe] at hx HTS1 ⊢
            have HX := Lib.hid hx
            have HB6 := Lib.hid (below_on HBI.out hb6 HBI.out.size)
            have HRG6 := Lib.hid (HRG.out.below hb6)
            have HTOP := Lib.hid HRG.out.top
            clear hb6 hx hxe g0 g1 g2 hc
            obtain ⟨vs, r, S, z1, z2, z3, z4⟩ := HRG6.out.rows
            have HZ1 := Lib.hid z1
            have HZ2 := Lib.hid z2
            have HZ3 := Lib.hid (show RowsP _ wo.heap.size T lo' hi' vs ys from ⟨r, S, z3, z4⟩)
            have HLO := Lib.hid (show lo' ≤ _ from Nat.le_trans HRG6.out.out.2.1 HRG6.out.top)
            have HOB := Lib.hid (HRG6.out.out.1)
            clear z1 z2 z3 z4
            go_wp2_with (at_builtin; refine wpList_pushS _ rfl _ _ rfl lo' hi' A' c' vs (.slice Ax x.length cx) rfl (by rw [HZ1.out]; rfl) HZ2.out _ rfl (by have := HZ1.out; have := HTL.out; omega) HLO.out ?_; intro A2 c2 w7 lo2 hi2 ho2 hd2 hw2; have HO7 := Lib.hid ho2; have HD7 := Lib.hid hd2; have HW7 := Lib.hid hw2; clear ho2 hd2 hw2)
            have HRG7 := Lib.hid (HRG6.out.push (q := (_, w6.heap.size)) HX.out HTOP.out HZ1.out HZ3.out HO7.out HD7.out HW7.out)
            go_roundw
            case rel => exact ⟨j + 1, _, _, _, _, _, by omega, by go_num, by rw [HTS1.out, List.length_append, HZ1.out]; rfl, by rw [HTS1.out]; exact HRG7.out, within_on HB6.out HW7.out HB6.out.size (.inl HOB.out)⟩
            case measure => simp [intOf]; omega
          · have HE := Lib.hid (HRX.out.trans (HTE.out (by omega)).symm)
            go_wp2_with fail
            go_ret
            have hq1 := HB.out.size
            have hq2 := HB2.out.size
            have hq3 := HS1.out
            refine ⟨A', c', by rw [HE.out] <;> rfl, ?_, below_on (below_on (below_on HA1.out HB2.out HA1.out.size) HB.out (below_on HA1.out HB2.out HA1.out.size).size) HBI.out (below_on (below_on HA1.out HB2.out HA1.out.size) HB.out (below_on HA1.out HB2.out HA1.out.size).size).size⟩
            rw [HE.out]
            exact HRG.out.cells.widen (by omega) HRG.out.top (Nat.le_refl _)
end Go.Proofs.Ytggibhhdnlifcaa
/- The law FnExactComponentsOf returns true at every input. No condition. -/
namespace Go.Proofs.Ytggibhhdnlifcaa
open Go.RowKit

theorem comV_short (p : Int) (l : List (Int × Int)) : (comV p l).length ≤ 24 := by
  cases hg : isGB p l with
  | false => rw [comV_no hg]; simp
  | true =>
    have hG : IsG p l := Classical.byContradiction fun g => by rw [isGB_no g] at hg; cases hg
    exact Nat.le_trans (comV_len p l) hG.2.1
theorem comV_row (p : Int) (l : List (Int × Int)) (k : Nat) (h : k < (comV p l).length) : ((comV p l).getD k []).length ≤ 8 := by
  cases hg : isGB p l with
  | false => rw [comV_no hg] at h; simp at h
  | true =>
    have hG : IsG p l := Classical.byContradiction fun g => by rw [isGB_no g] at hg; cases hg
    have hp := hG.1
    obtain ⟨P, rfl⟩ : ∃ P : Nat, p = (P : Int) := ⟨p.toNat, by omega⟩
    have hm := comK_rows (P : Int) l P l.length ((comV (P : Int) l).getD k []) (by
      rw [← comV_yes hg, show (comV (P : Int) l).getD k [] = (comV (P : Int) l)[k] by simp [List.getD, List.getElem?_eq_getElem h]]
      exact List.getElem_mem h)
    omega
theorem comV_tot (p : Int) (l : List (Int × Int)) : (1 : Int) + (tot (comV p l) (comV p l).length : Int) ≤ 10000000 := by
  have h1 := tot_bound (comV p l) 8 (comV p l).length fun k hk => comV_row p l k hk
  have h2 := comV_short p l
  omega

set_option maxHeartbeats 2000000 in
set_option maxRecDepth 100000 in
theorem lawComponentsOf (q : Int) (A : Option Addr) (cap : Nat) (l : List (Int × Int)) (w : World) (hl : l.length ≤ maxLen) (hb : BarsAt w w.heap.size A l) :
    Calls Try.prog 3 #[.agg #[.int .i64 q, .slice A l.length cap]] w fun e w' => e = .returned (.bool true) ∧ Below w.heap.size w w' := by
  have HB_0 := Lib.hid (bars_in hb)
  clear hb
  by_cases hn : l.length ≤ 1048576
  · have W0 := Lib.hid (Below.refl w.heap.size w)
    have hz : (comV q l).length ≤ 1048576 := (Nat.le_trans (comV_short q l) (by omega))
    have hrr : ∀ k, k < (comV q l).length → ((comV q l).getD k []).length ≤ 1048576 := (fun k hk => Nat.le_trans (comV_row q l k hk) (by omega))
    have htt : (1 : Int) + (tot (comV q l) (comV q l).length : Int) ≤ 10000000 := (comV_tot q l)
    have HRR := Lib.hid hrr
    clear hrr
    have hal := new_below w (.cells #[.int .i64 q, .slice A l.length cap] 24)
    have Z1 := Lib.hid (within_of hal).size
    have W1 := Lib.hid (within_on W0.out (within_of hal) W0.out.size (.inr (Nat.le_refl _)))
    have HB_1 := Lib.hid (HB_0.out.within (within_of hal) (by omega))
    clear hal
    have hsz : (w.alloc (.cells #[.int .i64 q, .slice A l.length cap] 24)).heap.size = w.heap.size + 1 := by simp
    have Y1 := Lib.hid hsz
    clear hsz
    have BX_1 := Lib.hid (box_new w q (.slice A l.length cap) 24)
    go_enter Try.func3, Try.ntmps3
    go_wp2_with fail
    generalize (w.alloc (.cells #[.int .i64 q, .slice A l.length cap] 24)) = w1 at *
    refine (szGraph_c q A l.length cap 1048576 _ (by omega) (by omega)).mono ?_
    rintro e w2 ⟨rfl, hb⟩
    have Z2 := Lib.hid (within_of hb).size
    have W2 := Lib.hid (within_on W1.out (within_of hb) W1.out.size (.inr (Nat.le_refl _)))
    have HB_2 := Lib.hid (HB_1.out.within (within_of hb) (by omega))
    have BX_2 := Lib.hid (BX_1.out.within (within_of hb) (by omega))
    clear hb
    have hnn : ¬ (1048576 : Int) - (l.length : Int) < 0 := by omega
    obtain ⟨g01, g02, g03⟩ := BX_2.out
    go_wp2_with fail
    clear g01 g02 g03
    refine (toGraph_c q l A cap _ HB_2.out.at hn).mono ?_
    rintro e w3 ⟨g0, rfl, ho, hb⟩
    have Z3 := Lib.hid (within_of hb).size
    have W3 := Lib.hid (within_on W2.out (within_of hb) W2.out.size (.inr (Nat.le_refl _)))
    have HB_3 := Lib.hid (HB_2.out.within (within_of hb) (by omega))
    have BX_3 := Lib.hid (BX_2.out.within (within_of hb) (by omega))
    have SG_3 := Lib.hid ((own_in ho).bars)
    clear ho hb
    go_wp2_with fail
    refine (specComs q l (some ⟨g0, 0, none⟩) l.length _ SG_3.out.at hn).mono ?_
    rintro e w4 ⟨AS, cs, rfl, hs, hb⟩
    have Z4 := Lib.hid (within_of hb).size
    have W4 := Lib.hid (within_on W3.out (within_of hb) W3.out.size (.inr (Nat.le_refl _)))
    have HB_4 := Lib.hid (HB_3.out.within (within_of hb) (by omega))
    have BX_4 := Lib.hid (BX_3.out.within (within_of hb) (by omega))
    have SG_4 := Lib.hid (SG_3.out.within (within_of hb) (by omega))
    have SR_4 := Lib.hid (hs)
    clear hs hb
    obtain ⟨g01, g02, g03⟩ := BX_4.out
    go_wp2_with fail
    clear g01 g02 g03
    refine (toGraph_c q l A cap _ HB_4.out.at hn).mono ?_
    rintro e w5 ⟨x0, rfl, ho, hb⟩
    have Z5 := Lib.hid (within_of hb).size
    have W5 := Lib.hid (within_on W4.out (within_of hb) W4.out.size (.inr (Nat.le_refl _)))
    have HB_5 := Lib.hid (HB_4.out.within (within_of hb) (by omega))
    have BX_5 := Lib.hid (BX_4.out.within (within_of hb) (by omega))
    have SG_5 := Lib.hid (SG_4.out.within (within_of hb) (by omega))
    have SR_5 := Lib.hid (SR_4.out.within (within_of hb) (by omega))
    have SX_5 := Lib.hid (own_in ho)
    clear ho hb
    go_wp2_with fail
    have hal := new_below w5 (.cells #[.int .i64 q, .slice (some ⟨x0, 0, none⟩) l.length l.length] 30)
    have Z6 := Lib.hid (within_of hal).size
    have W6 := Lib.hid (within_on W5.out (within_of hal) W5.out.size (.inr (Nat.le_refl _)))
    have HB_6 := Lib.hid (HB_5.out.within (within_of hal) (by omega))
    have BX_6 := Lib.hid (BX_5.out.within (within_of hal) (by omega))
    have SG_6 := Lib.hid (SG_5.out.within (within_of hal) (by omega))
    have SR_6 := Lib.hid (SR_5.out.within (within_of hal) (by omega))
    have SX_6 := Lib.hid (SX_5.out.within (within_of hal) (by omega))
    clear hal
    have hsz : (w5.alloc (.cells #[.int .i64 q, .slice (some ⟨x0, 0, none⟩) l.length l.length] 30)).heap.size = w5.heap.size + 1 := by simp
    have Y6 := Lib.hid hsz
    clear hsz
    have XX_6 := Lib.hid (box_new w5 q (.slice (some ⟨x0, 0, none⟩) l.length l.length) 30)
    generalize (w5.alloc (.cells #[.int .i64 q, .slice (some ⟨x0, 0, none⟩) l.length l.length] 30)) = w6 at *
    refine (implComs q l (some ⟨x0, 0, none⟩) l.length _ SX_6.out.bars.at hn).mono ?_
    rintro e w7 ⟨AG, cg, rfl, ho, hb⟩
    have Z7 := Lib.hid (within_of hb).size
    have W7 := Lib.hid (within_on W6.out (within_of hb) W6.out.size (.inr (Nat.le_refl _)))
    have HB_7 := Lib.hid (HB_6.out.within (within_of hb) (by omega))
    have BX_7 := Lib.hid (BX_6.out.within (within_of hb) (by omega))
    have SG_7 := Lib.hid (SG_6.out.within (within_of hb) (by omega))
    have SR_7 := Lib.hid (SR_6.out.within (within_of hb) (by omega))
    have SX_7 := Lib.hid (SX_6.out.within (within_of hb) (by omega))
    have XX_7 := Lib.hid (XX_6.out.within (within_of hb) (by omega))
    have SO_7 := Lib.hid (ho)
    clear ho hb
    go_wp2_with fail
    refine (eqRows_c (comV q l) AG AS cg cs _ _ _ _ _ SO_7.out.reads SR_7.out hz HRR.out).mono ?_
    rintro e w8 ⟨rfl, hb⟩
    have Z8 := Lib.hid (within_of hb).size
    have W8 := Lib.hid (within_on W7.out (within_of hb) W7.out.size (.inr (Nat.le_refl _)))
    have HB_8 := Lib.hid (HB_7.out.within (within_of hb) (by omega))
    have BX_8 := Lib.hid (BX_7.out.within (within_of hb) (by omega))
    have SG_8 := Lib.hid (SG_7.out.within (within_of hb) (by omega))
    have SR_8 := Lib.hid (SR_7.out.within (within_of hb) (by omega))
    have SX_8 := Lib.hid (SX_7.out.within (within_of hb) (by omega))
    have XX_8 := Lib.hid (XX_7.out.within (within_of hb) (by omega))
    have SO_8 := Lib.hid (SO_7.out.within (within_of hb) (by omega))
    clear hb
    have kk0 := box2 BX_8.out XX_8.out
    have kk := box2 BX_8.out XX_8.out
    have hdr : Below w8.heap.size w8 w8.drew := (Below.refl _ _).drew
    have Z9 := Lib.hid (within_of hdr).size
    have W9 := Lib.hid (within_on W8.out (within_of hdr) W8.out.size (.inr (Nat.le_refl _)))
    have HB_9 := Lib.hid (HB_8.out.within (within_of hdr) (by omega))
    have BX_9 := Lib.hid (BX_8.out.within (within_of hdr) (by omega))
    have SG_9 := Lib.hid (SG_8.out.within (within_of hdr) (by omega))
    have SR_9 := Lib.hid (SR_8.out.within (within_of hdr) (by omega))
    have SX_9 := Lib.hid (SX_8.out.within (within_of hdr) (by omega))
    have XX_9 := Lib.hid (XX_8.out.within (within_of hdr) (by omega))
    have SO_9 := Lib.hid (SO_8.out.within (within_of hdr) (by omega))
    clear hdr
    go_wp2_with fail
    go_region_held3 (fun W' => W'.cell? ⟨w.heap.size, 0, none⟩ = some (.int .i64 q) ∧ W'.cell? ⟨w.heap.size, 1, none⟩ = some ((.slice A l.length cap)) ∧ W'.cell? ⟨w5.heap.size, 0, none⟩ = some (.int .i64 q) ∧ W'.cell? ⟨w5.heap.size, 1, none⟩ = some ((.slice (some ⟨x0, 0, none⟩) l.length l.length)))
      (first | exact kk | exact box2 BX_10.out XX_10.out | exact box2 BX_11.out XX_11.out | fail)
      (first
        | (go_at_call 13; refine (toGraph_c q l A cap _ ?_ hn).mono ?_; (exact HB_9.out.at); rintro e w10 ⟨y0, rfl, ho, hb⟩; have Z10 := Lib.hid (within_of hb).size; have W10 := Lib.hid (within_on W9.out (within_of hb) W9.out.size (.inr (Nat.le_refl _))); have HB_10 := Lib.hid (HB_9.out.within (within_of hb) (by omega)); have BX_10 := Lib.hid (BX_9.out.within (within_of hb) (by omega)); have SG_10 := Lib.hid (SG_9.out.within (within_of hb) (by omega)); have SR_10 := Lib.hid (SR_9.out.within (within_of hb) (by omega)); have SX_10 := Lib.hid (SX_9.out.within (within_of hb) (by omega)); have XX_10 := Lib.hid (XX_9.out.within (within_of hb) (by omega)); have SO_10 := Lib.hid (SO_9.out.within (within_of hb) (by omega)); have YY := Lib.hid (own_bars ho); clear ho hb)
        | (go_at_call 16; refine (eqGraph_c q l _ _ l.length l.length _ ?_ ?_ hn).mono ?_; (exact SX_10.out.bars.at); (exact YY.out); rintro e w11 ⟨rfl, hb⟩; have Z11 := Lib.hid (within_of hb).size; have W11 := Lib.hid (within_on W10.out (within_of hb) W10.out.size (.inr (Nat.le_refl _))); have HB_11 := Lib.hid (HB_10.out.within (within_of hb) (by omega)); have BX_11 := Lib.hid (BX_10.out.within (within_of hb) (by omega)); have SG_11 := Lib.hid (SG_10.out.within (within_of hb) (by omega)); have SR_11 := Lib.hid (SR_10.out.within (within_of hb) (by omega)); have SX_11 := Lib.hid (SX_10.out.within (within_of hb) (by omega)); have XX_11 := Lib.hid (XX_10.out.within (within_of hb) (by omega)); have SO_11 := Lib.hid (SO_10.out.within (within_of hb) (by omega)); clear hb))
    obtain ⟨g01, g02, g03⟩ := XX_11.out
    go_wp2_with fail
    clear g01 g02 g03
    refine (markGraph_o q (some ⟨x0, 0, none⟩) l.length l 1 w4.heap.size w5.heap.size _ SX_11.out hn (by omega) (by omega)).mono ?_
    rintro e w12 ⟨rfl, hin, hox⟩
    have Z12 := Lib.hid (hin).size
    have W12 := Lib.hid (within_on W11.out (hin) W11.out.size (by have := W11.out.size; have := Z1.out; have := Z2.out; have := Z3.out; have := Z4.out; have := Z5.out; have := Z6.out; have := Z7.out; have := Z8.out; have := Z9.out; have := Z10.out; have := Z11.out; have := Z12.out; have := Y1.out; have := Y6.out; omega))
    have HB_12 := Lib.hid (HB_11.out.within (hin) (by have := Z1.out; have := Z2.out; have := Z3.out; have := Z4.out; have := Z5.out; have := Z6.out; have := Z7.out; have := Z8.out; have := Z9.out; have := Z10.out; have := Z11.out; have := Z12.out; have := Y1.out; have := Y6.out; omega))
    have BX_12 := Lib.hid (BX_11.out.within (hin) (by have := Z1.out; have := Z2.out; have := Z3.out; have := Z4.out; have := Z5.out; have := Z6.out; have := Z7.out; have := Z8.out; have := Z9.out; have := Z10.out; have := Z11.out; have := Z12.out; have := Y1.out; have := Y6.out; omega))
    have SG_12 := Lib.hid (SG_11.out.within (hin) (by have := Z1.out; have := Z2.out; have := Z3.out; have := Z4.out; have := Z5.out; have := Z6.out; have := Z7.out; have := Z8.out; have := Z9.out; have := Z10.out; have := Z11.out; have := Z12.out; have := Y1.out; have := Y6.out; omega))
    have SR_12 := Lib.hid (SR_11.out.within (hin) (by have := Z1.out; have := Z2.out; have := Z3.out; have := Z4.out; have := Z5.out; have := Z6.out; have := Z7.out; have := Z8.out; have := Z9.out; have := Z10.out; have := Z11.out; have := Z12.out; have := Y1.out; have := Y6.out; omega))
    have XX_12 := Lib.hid (XX_11.out.within (hin) (by have := Z1.out; have := Z2.out; have := Z3.out; have := Z4.out; have := Z5.out; have := Z6.out; have := Z7.out; have := Z8.out; have := Z9.out; have := Z10.out; have := Z11.out; have := Z12.out; have := Y1.out; have := Y6.out; omega))
    have SO_12 := Lib.hid (SO_11.out.within (hin) (by have := Z1.out; have := Z2.out; have := Z3.out; have := Z4.out; have := Z5.out; have := Z6.out; have := Z7.out; have := Z8.out; have := Z9.out; have := Z10.out; have := Z11.out; have := Z12.out; have := Y1.out; have := Y6.out; omega))
    clear hox hin
    have hk1 : ¬ (1 : Int) + 2 * (l.length : Int) < 0 := by omega
    go_wp2_with fail
    refine (eqRows_c (comV q l) AG AS cg cs _ _ _ _ _ SO_12.out.reads SR_12.out hz HRR.out).mono ?_
    rintro e w13 ⟨rfl, hb⟩
    have Z13 := Lib.hid (within_of hb).size
    have W13 := Lib.hid (within_on W12.out (within_of hb) W12.out.size (.inr (Nat.le_refl _)))
    have HB_13 := Lib.hid (HB_12.out.within (within_of hb) (by omega))
    have BX_13 := Lib.hid (BX_12.out.within (within_of hb) (by omega))
    have SG_13 := Lib.hid (SG_12.out.within (within_of hb) (by omega))
    have SR_13 := Lib.hid (SR_12.out.within (within_of hb) (by omega))
    have XX_13 := Lib.hid (XX_12.out.within (within_of hb) (by omega))
    have SO_13 := Lib.hid (SO_12.out.within (within_of hb) (by omega))
    clear hb
    go_wp2_with fail
    refine (markRows_c (comV q l) AG cg w6.heap.size w7.heap.size 1 _ SO_13.out hz HRR.out (by omega) htt).mono ?_
    rintro e w14 ⟨rfl, hin, hog⟩
    have Z14 := Lib.hid (hin).size
    have W14 := Lib.hid (within_on W13.out (hin) W13.out.size (by have := W13.out.size; have := Z1.out; have := Z2.out; have := Z3.out; have := Z4.out; have := Z5.out; have := Z6.out; have := Z7.out; have := Z8.out; have := Z9.out; have := Z10.out; have := Z11.out; have := Z12.out; have := Z13.out; have := Z14.out; have := Y1.out; have := Y6.out; omega))
    have HB_14 := Lib.hid (HB_13.out.within (hin) (by have := Z1.out; have := Z2.out; have := Z3.out; have := Z4.out; have := Z5.out; have := Z6.out; have := Z7.out; have := Z8.out; have := Z9.out; have := Z10.out; have := Z11.out; have := Z12.out; have := Z13.out; have := Z14.out; have := Y1.out; have := Y6.out; omega))
    have BX_14 := Lib.hid (BX_13.out.within (hin) (by have := Z1.out; have := Z2.out; have := Z3.out; have := Z4.out; have := Z5.out; have := Z6.out; have := Z7.out; have := Z8.out; have := Z9.out; have := Z10.out; have := Z11.out; have := Z12.out; have := Z13.out; have := Z14.out; have := Y1.out; have := Y6.out; omega))
    have SG_14 := Lib.hid (SG_13.out.within (hin) (by have := Z1.out; have := Z2.out; have := Z3.out; have := Z4.out; have := Z5.out; have := Z6.out; have := Z7.out; have := Z8.out; have := Z9.out; have := Z10.out; have := Z11.out; have := Z12.out; have := Z13.out; have := Z14.out; have := Y1.out; have := Y6.out; omega))
    have SR_14 := Lib.hid (SR_13.out.within (hin) (by have := Z1.out; have := Z2.out; have := Z3.out; have := Z4.out; have := Z5.out; have := Z6.out; have := Z7.out; have := Z8.out; have := Z9.out; have := Z10.out; have := Z11.out; have := Z12.out; have := Z13.out; have := Z14.out; have := Y1.out; have := Y6.out; omega))
    have XX_14 := Lib.hid (XX_13.out.within (hin) (by have := Z1.out; have := Z2.out; have := Z3.out; have := Z4.out; have := Z5.out; have := Z6.out; have := Z7.out; have := Z8.out; have := Z9.out; have := Z10.out; have := Z11.out; have := Z12.out; have := Z13.out; have := Z14.out; have := Y1.out; have := Y6.out; omega))
    have SM_14 := Lib.hid (hog)
    clear hog hin
    have hk2 : ¬ (1 : Int) + (tot (comV q l) (comV q l).length : Int) < 0 := by omega
    go_wp2_with fail
    refine (heldRows_c (comV q l) AG cg _ _ 1 _ SM_14.out.reads hz HRR.out (by omega) htt).mono ?_
    rintro e w15 ⟨rfl, hb⟩
    have Z15 := Lib.hid (within_of hb).size
    have W15 := Lib.hid (within_on W14.out (within_of hb) W14.out.size (.inr (Nat.le_refl _)))
    have HB_15 := Lib.hid (HB_14.out.within (within_of hb) (by omega))
    have BX_15 := Lib.hid (BX_14.out.within (within_of hb) (by omega))
    have SG_15 := Lib.hid (SG_14.out.within (within_of hb) (by omega))
    have SR_15 := Lib.hid (SR_14.out.within (within_of hb) (by omega))
    have XX_15 := Lib.hid (XX_14.out.within (within_of hb) (by omega))
    have SM_15 := Lib.hid (SM_14.out.within (within_of hb) (by omega))
    clear hb
    obtain ⟨g01, g02, g03⟩ := BX_15.out
    go_wp2_with fail
    clear g01 g02 g03
    refine (toGraph_c q l A cap _ HB_15.out.at hn).mono ?_
    rintro e w16 ⟨z0, rfl, ho, hb⟩
    have Z16 := Lib.hid (within_of hb).size
    have W16 := Lib.hid (within_on W15.out (within_of hb) W15.out.size (.inr (Nat.le_refl _)))
    have HB_16 := Lib.hid (HB_15.out.within (within_of hb) (by omega))
    have BX_16 := Lib.hid (BX_15.out.within (within_of hb) (by omega))
    have SG_16 := Lib.hid (SG_15.out.within (within_of hb) (by omega))
    have SR_16 := Lib.hid (SR_15.out.within (within_of hb) (by omega))
    have XX_16 := Lib.hid (XX_15.out.within (within_of hb) (by omega))
    have SM_16 := Lib.hid (SM_15.out.within (within_of hb) (by omega))
    have ST_16 := Lib.hid ((own_in ho).bars)
    clear ho hb
    go_wp2_with fail
    refine (implComs q l (some ⟨z0, 0, none⟩) l.length _ ST_16.out.at hn).mono ?_
    rintro e w17 ⟨AH, ch, rfl, ho, hb⟩
    have Z17 := Lib.hid (within_of hb).size
    have W17 := Lib.hid (within_on W16.out (within_of hb) W16.out.size (.inr (Nat.le_refl _)))
    have HB_17 := Lib.hid (HB_16.out.within (within_of hb) (by omega))
    have BX_17 := Lib.hid (BX_16.out.within (within_of hb) (by omega))
    have SG_17 := Lib.hid (SG_16.out.within (within_of hb) (by omega))
    have SR_17 := Lib.hid (SR_16.out.within (within_of hb) (by omega))
    have XX_17 := Lib.hid (XX_16.out.within (within_of hb) (by omega))
    have SM_17 := Lib.hid (SM_16.out.within (within_of hb) (by omega))
    have ST_17 := Lib.hid (ST_16.out.within (within_of hb) (by omega))
    have SH_17 := Lib.hid (ho.reads)
    clear ho hb
    go_wp2_with fail
    refine (eqRows_c (comV q l) AH AS ch cs _ _ _ _ _ SH_17.out SR_17.out hz HRR.out).mono ?_
    rintro e w18 ⟨rfl, hb⟩
    have Z18 := Lib.hid (within_of hb).size
    have W18 := Lib.hid (within_on W17.out (within_of hb) W17.out.size (.inr (Nat.le_refl _)))
    have HB_18 := Lib.hid (HB_17.out.within (within_of hb) (by omega))
    have BX_18 := Lib.hid (BX_17.out.within (within_of hb) (by omega))
    have SG_18 := Lib.hid (SG_17.out.within (within_of hb) (by omega))
    have SR_18 := Lib.hid (SR_17.out.within (within_of hb) (by omega))
    have XX_18 := Lib.hid (XX_17.out.within (within_of hb) (by omega))
    have SM_18 := Lib.hid (SM_17.out.within (within_of hb) (by omega))
    have ST_18 := Lib.hid (ST_17.out.within (within_of hb) (by omega))
    have SH_18 := Lib.hid (SH_17.out.within (within_of hb) (by omega))
    clear hb
    go_wp2_with fail
    refine (heldRows_c (comV q l) AG cg _ _ 1 _ SM_18.out.reads hz HRR.out (by omega) htt).mono ?_
    rintro e w19 ⟨rfl, hb⟩
    have Z19 := Lib.hid (within_of hb).size
    have W19 := Lib.hid (within_on W18.out (within_of hb) W18.out.size (.inr (Nat.le_refl _)))
    have HB_19 := Lib.hid (HB_18.out.within (within_of hb) (by omega))
    have BX_19 := Lib.hid (BX_18.out.within (within_of hb) (by omega))
    have SG_19 := Lib.hid (SG_18.out.within (within_of hb) (by omega))
    have SR_19 := Lib.hid (SR_18.out.within (within_of hb) (by omega))
    have XX_19 := Lib.hid (XX_18.out.within (within_of hb) (by omega))
    have SM_19 := Lib.hid (SM_18.out.within (within_of hb) (by omega))
    have ST_19 := Lib.hid (ST_18.out.within (within_of hb) (by omega))
    have SH_19 := Lib.hid (SH_18.out.within (within_of hb) (by omega))
    clear hb
    go_wp2_with fail
    go_ret
    exact ⟨rfl, W19.out⟩
  · have hx : (1048576 : Int) < (l.length : Int) := by omega
    have h63 : l.length ≤ 9223372036854775807 := by unfold maxLen at hl; omega
    have HA := Lib.hid (new_below w (.cells #[.int .i64 q, .slice A l.length cap] 24))
    go_enter Try.func3, Try.ntmps3
    go_wp2_with fail
    refine (szGraph_no q A l.length cap 1048576 _ h63 hx (by omega)).mono ?_
    rintro e w1 ⟨rfl, hb1⟩
    have W1 := Lib.hid (below_on HA.out hb1 HA.out.size)
    clear hb1
    go_wp2_with fail
    go_ret
    exact ⟨rfl, W1.out⟩
end Go.Proofs.Ytggibhhdnlifcaa
