/- Rows of rows of the call's own: the laws' marks in them (laws.markIntSS, heldIntSS). No condition. -/
import Derived.Test.YtcfgljfpkhefmaaRowS
import Derived.Test.YtcfgljfpkhefmaaIntsO
namespace Go.Proofs.Ytcfgljfpkhefmaa
open Go.RowKit

/-- The rows rs of the call's own: their row lies in a block from lo to hi, each of them in a range of its own. -/
def RowsOwn (W : World) (lo hi : Nat) (A : Option Addr) (rs : List (List Int)) : Prop :=
  hi ≤ W.heap.size ∧ (0 < rs.length → ∃ (g : Nat) (r : Nat → Nat × Nat) (S : Nat → Option Addr × Nat), A = some ⟨g, 0, none⟩ ∧ lo ≤ g ∧ g < hi ∧ (∀ j k, j < k → k < rs.length → Dis (r j) (r k)) ∧
    ∀ k, k < rs.length → W.cell? ⟨g, k, none⟩ = some (.slice (S k).1 (rs.getD k []).length (S k).2) ∧ OwnInts W (r k).1 (r k).2 (S k).1 (S k).2 (rs.getD k []) ∧ lo ≤ (r k).1 ∧ (r k).2 ≤ hi ∧ (g < (r k).1 ∨ (r k).2 ≤ g))
theorem RowsOwn.within {W W' : World} {lo hi lo' hi' : Nat} {A : Option Addr} {rs : List (List Int)} (h : RowsOwn W lo hi A rs) (hw : Within lo' hi' W W') (hd : hi ≤ lo' ∨ hi' ≤ lo) : RowsOwn W' lo hi A rs :=
  ⟨Nat.le_trans h.1 hw.size, fun hl => by
    obtain ⟨g, r, S, e, h1, h2, hdis, hc⟩ := h.2 hl
    have hk := hw.block g (Nat.lt_of_lt_of_le h2 h.1) (by omega)
    refine ⟨g, r, S, e, h1, h2, hdis, fun k hk' => ?_⟩
    obtain ⟨c1, c2, c3, c4, c5⟩ := hc k hk'
    exact ⟨(World.cell?_of_block (a := ⟨g, k, none⟩) hk).trans c1, c2.within hw (by omega), c3, c4, c5⟩⟩
theorem RowsOwn.reads {W : World} {lo hi : Nat} {A : Option Addr} {rs : List (List Int)} (h : RowsOwn W lo hi A rs) : RowsIn W lo hi A rs :=
  ⟨h.1, fun hl => by
    obtain ⟨g, r, S, e, h1, h2, _, hc⟩ := h.2 hl
    refine ⟨g, 0, e, h1, h2, fun k hk => ?_⟩
    obtain ⟨c1, c2, c3, c4, _⟩ := hc k hk
    exact ⟨(S k).1, (S k).2, by rw [Nat.zero_add]; exact c1, c2.reads.widen c3 c4 h.1⟩⟩

/-- The number of ints in the first n rows. -/
def tot (rs : List (List Int)) : Nat → Nat
  | 0 => 0
  | n + 1 => tot rs n + (rs.getD n []).length
theorem tot_le (rs : List (List Int)) {j n : Nat} (h : j ≤ n) : tot rs j ≤ tot rs n := by
  induction n with
  | zero =>
    obtain rfl : j = 0 := by omega
    exact Nat.le_refl _
  | succ n ih =>
    by_cases e : j = n + 1
    · subst e; exact Nat.le_refl _
    · have := ih (by omega)
      rw [tot]; omega
theorem tot_bound (rs : List (List Int)) (m n : Nat) (h : ∀ k, k < n → (rs.getD k []).length ≤ m) : tot rs n ≤ n * m := by
  induction n with
  | zero => simp [tot]
  | succ n ih =>
    have h1 := ih fun k hk => h k (by omega)
    have h2 := h n (by omega)
    rw [tot, Nat.add_mul]
    omega
/-- The rows that the marks from k on make. -/
def marksR (k : Int) (rs : List (List Int)) : List (List Int) := (List.range rs.length).map fun j => marksI (k + (tot rs j : Int)) (rs.getD j []).length
theorem marksR_len (k : Int) (rs : List (List Int)) : (marksR k rs).length = rs.length := by simp [marksR]
theorem marksR_get (k : Int) (rs : List (List Int)) (j : Nat) (h : j < rs.length) : (marksR k rs).getD j [] = marksI (k + (tot rs j : Int)) (rs.getD j []).length := by simp [marksR, List.getD, h]
/-- The row j while the first n rows are marked. -/
def stg (k : Int) (rs : List (List Int)) (n j : Nat) : List Int := if j < n then marksI (k + (tot rs j : Int)) (rs.getD j []).length else rs.getD j []
theorem stg_len (k : Int) (rs : List (List Int)) (n j : Nat) : (stg k rs n j).length = (rs.getD j []).length := by
  unfold stg
  split
  · rw [marksI_len]
  · rfl
theorem stg_now (k : Int) (rs : List (List Int)) (n : Nat) : stg k rs n n = rs.getD n [] := by unfold stg; rw [if_neg (by omega)]
theorem stg_next (k : Int) (rs : List (List Int)) (n : Nat) : stg k rs (n + 1) n = marksI (k + (tot rs n : Int)) (rs.getD n []).length := by unfold stg; rw [if_pos (by omega)]
theorem stg_else (k : Int) (rs : List (List Int)) (n j : Nat) (h : j ≠ n) : stg k rs (n + 1) j = stg k rs n j := by
  unfold stg
  by_cases e : j < n
  · rw [if_pos e, if_pos (by omega)]
  · rw [if_neg e, if_neg (by omega)]
/-- The rows while the first n of them are marked. -/
def MarkSt (W : World) (lo hi g : Nat) (r : Nat → Nat × Nat) (S : Nat → Option Addr × Nat) (k0 : Int) (rs : List (List Int)) (n : Nat) : Prop :=
  hi ≤ W.heap.size ∧ ∀ k, k < rs.length → W.cell? ⟨g, k, none⟩ = some (.slice (S k).1 (rs.getD k []).length (S k).2) ∧ OwnInts W (r k).1 (r k).2 (S k).1 (S k).2 (stg k0 rs n k) ∧ lo ≤ (r k).1 ∧ (r k).2 ≤ hi ∧ (g < (r k).1 ∨ (r k).2 ≤ g)
theorem MarkSt.below {W W' : World} {lo hi g : Nat} {r : Nat → Nat × Nat} {S : Nat → Option Addr × Nat} {k0 : Int} {rs : List (List Int)} {n : Nat} (h : MarkSt W lo hi g r S k0 rs n) (hg : g < hi) (hb : Below W.heap.size W W') : MarkSt W' lo hi g r S k0 rs n :=
  ⟨Nat.le_trans h.1 hb.size, fun k hk => by
    obtain ⟨c1, c2, c3, c4, c5⟩ := h.2 k hk
    have := h.1
    exact ⟨(hb.cell (p := ⟨g, k, none⟩) (show g < W.heap.size by omega)).trans c1, c2.within (within_of hb) (.inr (Nat.zero_le _)), c3, c4, c5⟩⟩
theorem MarkSt.next {W W' : World} {lo hi g : Nat} {r : Nat → Nat × Nat} {S : Nat → Option Addr × Nat} {k0 : Int} {rs : List (List Int)} {n : Nat} (h : MarkSt W lo hi g r S k0 rs n) (hg : g < hi) (hn : n < rs.length) (hd : ∀ j k, j < k → k < rs.length → Dis (r j) (r k))
    (hw : Within (r n).1 (r n).2 W W') (ho : OwnInts W' (r n).1 (r n).2 (S n).1 (S n).2 (marksI (k0 + (tot rs n : Int)) (rs.getD n []).length)) : MarkSt W' lo hi g r S k0 rs (n + 1) :=
  ⟨Nat.le_trans h.1 hw.size, fun k hk => by
    obtain ⟨c1, c2, c3, c4, c5⟩ := h.2 k hk
    obtain ⟨_, _, _, _, d5⟩ := h.2 n hn
    have := h.1
    refine ⟨(World.cell?_of_block (a := ⟨g, k, none⟩) (hw.block g (by omega) (by omega))).trans c1, ?_, c3, c4, c5⟩
    by_cases e : k = n
    · subst e
      rw [stg_next]
      exact ho
    · rw [stg_else _ _ _ _ e]
      refine c2.within hw ?_
      rcases Nat.lt_or_gt_of_ne e with e1 | e1
      · exact hd k n e1 hn
      · exact (hd n k e1 hk).symm⟩

set_option maxHeartbeats 2000000 in
set_option maxRecDepth 100000 in
theorem markRows_c (rs : List (List Int)) (A : Option Addr) (cap lo hi : Nat) (k0 : Int) (w : World) (h : RowsOwn w lo hi A rs) (hn : rs.length ≤ 1048576) (hr : ∀ k, k < rs.length → (rs.getD k []).length ≤ 1048576) (hk0 : 0 ≤ k0) (hk1 : k0 + (tot rs rs.length : Int) ≤ 10000000) :
    Calls Try.prog 23 #[.slice A rs.length cap, .int .i64 k0] w fun e w' => e = .returned (.int .i64 (k0 + (tot rs rs.length : Int))) ∧ Within lo hi w w' ∧ RowsOwn w' lo hi A (marksR k0 rs) := by
  by_cases h0 : rs.length = 0
  · have hs := h.1
    have ht : tot rs rs.length = 0 := by rw [h0]; rfl
    rw [ht]
    rw [h0]
    go_enter Try.func23, Try.ntmps23
    go_wp2_with fail
    refine wp_loop_rounds 1 ?_
    rw [rounds_succ]
    go_wp2_with fail
    go_ret
    exact ⟨by simp, Within.refl _ _ _, hs, fun hl => by rw [marksR_len] at hl; omega⟩
  · obtain ⟨g, r, S, rfl, h1, h2, hd, hc⟩ := h.2 (by omega)
    have HD := Lib.hid hd
    have HR := Lib.hid hr
    have HM := Lib.hid (show MarkSt w lo hi g r S k0 rs 0 from ⟨h.1, fun k hk => by
      have := hc k hk
      unfold stg
      rw [if_neg (by omega)]
      exact this⟩)
    clear hd hr hc h
    go_enter Try.func23, Try.ntmps23
    go_wp2_with fail
    go_loopw [1, 5] (fun m i wr => ∃ j : Nat, j ≤ rs.length ∧ i = .int .i64 j ∧ m = .int .i64 (k0 + (tot rs j : Int)) ∧ MarkSt wr lo hi g r S k0 rs j ∧ Within lo hi w wr) (fun _ i _ => rs.length - (intOf i).toNat)
    case atStart => exact ⟨0, by omega, rfl, by simp [tot], HM.out, Within.refl _ _ _⟩
    case round =>
      obtain ⟨j, hj, rfl, rfl, hm, hw⟩ := hrel
      have HW := Lib.hid hw
      have HM := Lib.hid hm
      clear hm hw
      by_cases hlt : j < rs.length
      · have hij : (j : Int) < (rs.length : Int) := by omega
        obtain ⟨c1, c2, c3, c4, c5⟩ := HM.out.2 j hlt
        rw [stg_now] at c2
        have hz := HR.out j hlt
        have ht := tot_le rs (j := j + 1) (n := rs.length) (by omega)
        have hs : tot rs (j + 1) = tot rs j + (rs.getD j []).length := rfl
        obtain ⟨zs, hzs⟩ : ∃ zs, rs.getD j [] = zs := ⟨_, rfl⟩
        rw [hzs] at c1 c2 hz hs
        have HZS := Lib.hid hzs
        have HO := Lib.hid c2
        have HS := Lib.hid hs
        have HQ := Lib.hid (And.intro c3 c4)
        clear c2 hzs hs c3 c4 c5
        obtain ⟨⟨A', cp⟩, hS⟩ : ∃ s, S j = s := ⟨_, rfl⟩
        rw [hS] at c1 HO
        have HSJ := Lib.hid hS
        clear hS
        go_wp2_with fail
        refine (markInts_o A' cp zs (k0 + (tot rs j : Int)) (r j).1 (r j).2 _ HO.out hz (by omega) (by have := HS.out; omega)).mono ?_
        rintro e w3 ⟨rfl, hw3, ho3⟩
        have HM3 := Lib.hid (HM.out.next h2 hlt HD.out hw3 (by rw [HZS.out, HSJ.out]; exact ho3))
        have HW3 := Lib.hid (show Within lo hi w w3 from ⟨hw3.os.trans HW.out.os, hw3.tape.trans HW.out.tape, hw3.output.trans HW.out.output, Nat.le_trans HW.out.size hw3.size, fun i hi' hd' => (hw3.block i (Nat.lt_of_lt_of_le hi' HW.out.size) (by have := HQ.out; omega)).trans (HW.out.block i hi' hd')⟩)
        have hnx : k0 + (tot rs j : Int) + (zs.length : Int) = k0 + (tot rs (j + 1) : Int) := by rw [HS.out]; omega
        clear hw3 ho3
        rw [hnx]
        go_wp2_with fail
        go_roundw
        case rel => exact ⟨j + 1, by omega, by go_num, rfl, HM3.out, HW3.out⟩
        case measure => simp [intOf]; omega
      · obtain rfl : j = rs.length := by omega
        go_wp2_with fail
        go_ret
        refine ⟨rfl, HW.out, HM.out.1, fun _ => ⟨g, r, S, rfl, h1, h2, fun j k hjk hk => HD.out j k hjk (by rw [marksR_len] at hk; exact hk), fun k hk => ?_⟩⟩
        rw [marksR_len] at hk
        obtain ⟨c1, c2, c3, c4, c5⟩ := HM.out.2 k hk
        rw [marksR_get _ _ _ hk, marksI_len]
        unfold stg at c2
        rw [if_pos hk] at c2
        exact ⟨c1, c2, c3, c4, c5⟩

set_option maxHeartbeats 2000000 in
set_option maxRecDepth 100000 in
theorem heldRows_c (rs : List (List Int)) (A : Option Addr) (cap lo hi : Nat) (k0 : Int) (w : World) (h : RowsIn w lo hi A (marksR k0 rs)) (hn : rs.length ≤ 1048576) (hr : ∀ k, k < rs.length → (rs.getD k []).length ≤ 1048576) (hk0 : 0 ≤ k0) (hk1 : k0 + (tot rs rs.length : Int) ≤ 10000000) :
    Calls Try.prog 24 #[.slice A rs.length cap, .int .i64 k0] w fun e w' => e = .returned (.int .i64 (k0 + (tot rs rs.length : Int))) ∧ Below w.heap.size w w' := by
  have HL := Lib.hid h
  have HR := Lib.hid hr
  clear h hr
  go_enter Try.func24, Try.ntmps24
  go_wp2_with fail
  go_loopw [1, 5] (fun m i wr => ∃ j : Nat, j ≤ rs.length ∧ i = .int .i64 j ∧ m = .int .i64 (k0 + (tot rs j : Int)) ∧ Below w.heap.size w wr) (fun _ i _ => rs.length - (intOf i).toNat)
  case atStart => exact ⟨0, by omega, rfl, by simp [tot], Below.refl _ _⟩
  case round =>
    obtain ⟨j, hj, rfl, rfl, hb⟩ := hrel
    have HQ := Lib.hid (HL.out.within (within_low hb) (.inl HL.out.1))
    have HB := Lib.hid hb
    clear hb
    by_cases hlt : j < rs.length
    · have hi : (j : Int) < (rs.length : Int) := by omega
      obtain ⟨b, off, rfl, _, _, hcell⟩ := HQ.out.2 (by rw [marksR_len]; omega)
      obtain ⟨A1, c1, hc1, hi1⟩ := hcell j (by rw [marksR_len]; exact hlt)
      rw [marksR_get _ _ _ hlt] at hc1 hi1
      rw [marksI_len] at hc1
      have hz := HR.out j hlt
      have ht := tot_le rs (j := j + 1) (n := rs.length) (by omega)
      have hs : tot rs (j + 1) = tot rs j + (rs.getD j []).length := rfl
      obtain ⟨m, hm⟩ : ∃ m, (rs.getD j []).length = m := ⟨_, rfl⟩
      rw [hm] at hc1 hi1 hz hs
      have HI1 := Lib.hid hi1
      have HS := Lib.hid hs
      clear hcell hi1 hm hs
      go_wp2_with fail
      refine (heldInts_c m A1 c1 (k0 + (tot rs j : Int)) _ _ _ HI1.out hz (by omega) (by have := HS.out; omega)).mono ?_
      rintro e w3 ⟨rfl, hb3⟩
      have HB3 := Lib.hid (below_on HB.out hb3 HB.out.size)
      have hnx : k0 + (tot rs j : Int) + (m : Int) = k0 + (tot rs (j + 1) : Int) := by rw [HS.out]; omega
      clear hb3
      rw [hnx]
      have hnn : ¬ k0 + (tot rs (j + 1) : Int) < 0 := by omega
      go_wp2_with fail
      go_roundw
      case rel => exact ⟨j + 1, by omega, by go_num, rfl, HB3.out⟩
      case measure => simp [intOf]; omega
    · obtain rfl : j = rs.length := by omega
      go_wp2_with fail
      go_ret
      exact ⟨rfl, HB.out⟩
end Go.Proofs.Ytcfgljfpkhefmaa
