/- Rows of rows of ints that a law is handed: opened, measured, copied and compared (laws.szIntS, szIntSS, toIntS, toIntSS, eqIntS, eqIntSS). No condition. -/
import Derived.Test.YtcfgljfpkhefmaaWords
import Derived.StillTailTactics
import Derived.Deep.QuietTactic
import Derived.BigQuiet
import Derived.ProofKit
import Derived.Lib.SmallJoins
import Derived.Deep.SlicePairs
import Derived.Deep.RegionHeld3
namespace Go.Proofs.Ytcfgljfpkhefmaa
open Go.RowKit Go.Joins Go.ChangeShapes Go.WideShapes Go.Deep

/-- The slice at A reads as the ints zs, in a block from lo to hi. -/
def IntsD (W : World) (lo hi : Nat) (A : Option Addr) (zs : List Int) : Prop :=
  hi ≤ W.heap.size ∧ (0 < zs.length → ∃ b off, A = some ⟨b, off, none⟩ ∧ lo ≤ b ∧ b < hi ∧ ∀ k, k < zs.length → W.cell? ⟨b, off + k, none⟩ = some (.int .i64 (zs.getD k 0)))
theorem IntsD.kept {W W' : World} {lo hi : Nat} {A : Option Addr} {zs : List Int} (h : IntsD W lo hi A zs) (hs : W.heap.size ≤ W'.heap.size) (hk : ∀ b, lo ≤ b → b < hi → W'.heap[b]? = W.heap[b]?) : IntsD W' lo hi A zs :=
  ⟨Nat.le_trans h.1 hs, fun hl => by
    obtain ⟨b, off, e, h1, h2, hc⟩ := h.2 hl
    exact ⟨b, off, e, h1, h2, fun k hk' => (World.cell?_of_block (a := ⟨b, off + k, none⟩) (hk b h1 h2)).trans (hc k hk')⟩⟩
theorem IntsD.below {W W' : World} {lo hi : Nat} {A : Option Addr} {zs : List Int} (h : IntsD W lo hi A zs) (hb : Below W.heap.size W W') : IntsD W' lo hi A zs :=
  h.kept hb.size fun b _ h2 => hb.block b (Nat.lt_of_lt_of_le h2 h.1)
theorem IntsD.widen {W : World} {lo hi lo' hi' : Nat} {A : Option Addr} {zs : List Int} (h : IntsD W lo hi A zs) (h1 : lo' ≤ lo) (h2 : hi ≤ hi') (h3 : hi' ≤ W.heap.size) : IntsD W lo' hi' A zs :=
  ⟨h3, fun hl => by
    obtain ⟨b, off, e, q1, q2, hc⟩ := h.2 hl
    exact ⟨b, off, e, by omega, by omega, hc⟩⟩
def intCellsD (zs : List Int) : List Value := zs.map (Value.int .i64)
theorem intCellsD_get (zs : List Int) (k : Nat) (h : k < zs.length) : (intCellsD zs)[k]? = some (.int .i64 (zs.getD k 0)) := by
  simp [intCellsD, List.getD, List.getElem?_eq_getElem h]
theorem infoIntD : (Try.prog.info? 3).map (fun i => (i.zero, i.size, i.bytes)) = some (some (.int .i64 0), 1, 8) := by kernel_rfl
theorem own_intsD {w' : World} {base g cap : Nat} {zs : List Int} (h : w'.ownsRow base 3 1 (.slice (some ⟨g, 0, none⟩) zs.length cap) zs.length (intCellsD zs)) : IntsD w' base w'.heap.size (some ⟨g, 0, none⟩) zs :=
  ⟨Nat.le_refl _, fun _ => ⟨g, 0, rfl, (h.lt g rfl).1, (h.lt g rfl).2, fun k hk => by
    rw [Nat.zero_add]
    exact (h.cellAt k (by omega)).trans (intCellsD_get zs k hk)⟩⟩

theorem intsOfD_zero (n : Nat) : List.replicate n (Value.int .i64 0) = intCellsD (List.replicate n 0) := by simp [intCellsD]
theorem intsD_step (zs : List Int) (k : Nat) (h : k < zs.length) : (intCellsD (zs.take k ++ List.replicate (zs.length - k) 0)).set k (.int .i64 (zs.getD k 0)) = intCellsD (zs.take (k + 1) ++ List.replicate (zs.length - (k + 1)) 0) := by
  unfold intCellsD
  rw [← List.map_set]
  congr 1
  have hl0 : (zs.take k).length = k := by simp; omega
  obtain ⟨r, hr⟩ : ∃ r, zs.length - k = r + 1 := ⟨zs.length - k - 1, by omega⟩
  rw [List.set_append_right _ _ (by omega), hl0, Nat.sub_self, hr, List.replicate_succ, List.set_cons_zero, List.take_succ_eq_append_getElem h, show zs.length - (k + 1) = r by omega, List.append_assoc]
  simp [List.getD, List.getElem?_eq_getElem h]

set_option maxHeartbeats 1000000 in
set_option maxRecDepth 100000 in
theorem toIntsD_c (zs : List Int) (A : Option Addr) (cap lo hi : Nat) (w : World) (hl : IntsD w lo hi A zs) (hn : zs.length ≤ 1048576) :
    Calls Try.prog 28 #[.slice A zs.length cap] w fun e w' => ∃ g, e = .returned (.slice (some ⟨g, 0, none⟩) zs.length zs.length) ∧ w'.ownsRow w.heap.size 3 1 (.slice (some ⟨g, 0, none⟩) zs.length zs.length) zs.length (intCellsD zs) ∧ Below w.heap.size w w' := by
  have HL := Lib.hid hl
  clear hl
  go_enter Try.func28, Try.ntmps28
  go_wp2_with (at_make; refine wpList_mkn _ rfl _ _ 28 rfl w.heap.size 3 (.int .i64 0) 8 Try.underlying28 infoIntD rfl _ _ _ _ zs.length rfl rfl rfl rfl (by omega) (by unfold maxLen; omega) (Nat.le_refl _) ?_; intro w0 hown0 hb0)
  go_loopw [4] (fun i wr => ∃ k : Nat, k ≤ zs.length ∧ i = .int .i64 k ∧ wr.ownsRow w.heap.size 3 1 (.slice (some ⟨w.heap.size, 0, none⟩) zs.length zs.length) zs.length (intCellsD (zs.take k ++ List.replicate (zs.length - k) 0)) ∧ Below w.heap.size w wr) (fun i _ => zs.length - (intOf i).toNat)
  case atStart => exact ⟨0, by omega, rfl, by rw [intsOfD_zero] at hown0; rw [List.take_zero, List.nil_append, Nat.sub_zero]; exact hown0, hb0⟩
  case round =>
    obtain ⟨k, hk, rfl, hown, hb⟩ := hrel
    have HB := Lib.hid hb
    have hbs := hb.size
    clear hb hown0 hb0
    by_cases hlt : k < zs.length
    · have hi0 : (k : Int) < (zs.length : Int) := by omega
      obtain ⟨b, off, rfl, _, hbh, hcell⟩ := HL.out.2 (by omega)
      have hc := (HB.out.cell (p := ⟨b, off + k, none⟩) (Nat.lt_of_lt_of_le hbh HL.out.1)).trans (hcell k hlt)
      have hlen : (zs.take k ++ List.replicate (zs.length - k) (0 : Int)).length = zs.length := by simp; omega
      have hd := (hown.cellAt k (by omega)).trans (intCellsD_get _ k (by omega))
      have hf := hown.frozenAt k
      have hstep := intsD_step zs k hlt
      obtain ⟨x, hx⟩ : ∃ x, zs.getD k 0 = x := ⟨_, rfl⟩
      rw [hx] at hc hstep
      have hst := hown.stored k (.int .i64 x)
      rw [hstep] at hst
      have HST := Lib.hid hst.1
      have HB2 := Lib.hid (HB.out.grown hst.2 hbs fun g e => by cases e; exact Nat.le_refl _)
      clear hcell hlen hstep hst hown hx
      go_wp2_with fail
      go_roundw
      case rel => exact ⟨k + 1, by omega, by go_num, HST.out, HB2.out⟩
      case measure => simp [intOf]; omega
    · obtain rfl : k = zs.length := by omega
      rw [List.take_length, Nat.sub_self, List.replicate_zero, List.append_nil] at hown
      go_wp2_with fail
      go_ret
      exact ⟨_, rfl, hown, HB.out⟩

set_option maxHeartbeats 1000000 in
set_option maxRecDepth 100000 in
theorem eqIntsD_c (zs : List Int) (A A' : Option Addr) (cap cap' : Nat) (lo hi lo' hi' : Nat) (w : World) (hl : IntsD w lo hi A zs) (hl' : IntsD w lo' hi' A' zs) (hn : zs.length ≤ 1048576) :
    Calls Try.prog 30 #[.slice A zs.length cap, .slice A' zs.length cap'] w fun e w' => e = .returned (.bool true) ∧ Below w.heap.size w w' := by
  have HL := Lib.hid hl
  have HL' := Lib.hid hl'
  clear hl hl'
  go_enter Try.func30, Try.ntmps30
  go_wp2_with fail
  go_loopw [5] (fun i wr => ∃ k : Nat, k ≤ zs.length ∧ i = .int .i64 k ∧ ∃ m, wr = w.drewN m) (fun i _ => zs.length - (intOf i).toNat)
  case atStart => exact ⟨0, by omega, rfl, 0, rfl⟩
  case round =>
    obtain ⟨k, hk, rfl, m, rfl⟩ := hrel
    by_cases hlt : k < zs.length
    · have hi : (k : Int) < (zs.length : Int) := by omega
      obtain ⟨b, off, rfl, _, _, hcell⟩ := HL.out.2 (by omega)
      obtain ⟨b', off', rfl, _, _, hcell'⟩ := HL'.out.2 (by omega)
      have hc1 := hcell k hlt
      have hc2 := hcell' k hlt
      clear hcell hcell'
      obtain ⟨x, hx⟩ : ∃ x, zs.getD k 0 = x := ⟨_, rfl⟩
      rw [hx] at hc1 hc2
      clear hx
      go_wp2_with fail
      go_quiet (fail)
      go_wp2_with fail
      go_roundw
      case rel => exact ⟨k + 1, by omega, by go_num, m + nq, rfl⟩
      case measure => simp [intOf]; omega
    · go_wp2_with fail
      go_ret
      exact ⟨rfl, below_drewN _ _ _⟩

theorem szIntsD_c (A : Option Addr) (n cap : Nat) (left : Int) (w : World) (h0 : (n : Int) ≤ left) (h1 : left ≤ 1048576) :
    Calls Try.prog 95 #[.slice A n cap, .int .i64 left] w fun e w' => e = .returned (.int .i64 (left - n)) ∧ w = w' := by
  go_enter Try.func95, Try.ntmps95
  go_wp2
  go_ret
  exact ⟨rfl, rfl⟩
theorem szIntsD_no (A : Option Addr) (n cap : Nat) (left : Int) (w : World) (hn : n ≤ 9223372036854775807) (h0 : left < (n : Int)) (h1 : 0 ≤ left) :
    Calls Try.prog 95 #[.slice A n cap, .int .i64 left] w fun e w' => e = .returned (.int .i64 (-1)) ∧ w = w' := by
  go_enter Try.func95, Try.ntmps95
  go_wp2
  go_ret
  exact ⟨rfl, rfl⟩

/-- The numbers of the row are numbers of the machine. -/
def WfZ (zs : List Int) : Prop := ∀ n ∈ zs, (Lit.int .i64 n).wf = true
/-- The slice at A reads as the rows rs, in blocks from lo to hi. -/
def RowsD (W : World) (lo hi : Nat) (A : Option Addr) (rs : List (List Int)) : Prop :=
  hi ≤ W.heap.size ∧ (0 < rs.length → ∃ b off, A = some ⟨b, off, none⟩ ∧ lo ≤ b ∧ b < hi ∧ ∀ k, k < rs.length → ∃ A' c', W.cell? ⟨b, off + k, none⟩ = some (.slice A' (rs.getD k []).length c') ∧ IntsD W lo hi A' (rs.getD k []))
theorem RowsD.below {W W' : World} {lo hi : Nat} {A : Option Addr} {rs : List (List Int)} (h : RowsD W lo hi A rs) (hb : Below W.heap.size W W') : RowsD W' lo hi A rs :=
  ⟨Nat.le_trans h.1 hb.size, fun hl => by
    obtain ⟨b, off, e, h1, h2, hc⟩ := h.2 hl
    refine ⟨b, off, e, h1, h2, fun k hk => ?_⟩
    obtain ⟨A', c', h3, h4⟩ := hc k hk
    exact ⟨A', c', (hb.cell (p := ⟨b, off + k, none⟩) (Nat.lt_of_lt_of_le h2 h.1)).trans h3, h4.below hb⟩⟩

section
variable {H : Type} {enc : TypeId × Value → H} {w : World}
set_option maxRecDepth 100000 in
set_option maxHeartbeats 1000000 in
theorem open_rows {n : Nat} {v : Value} {y : DataW H × List MemPlace} (h : DataW.trod enc Try.prog w 0 (fun _ => true) true n 22 [v] = some y) :
    ∃ (A : Option Addr) (cap : Nat) (rs : List (List Int)), v = .slice A rs.length cap ∧ rs.length ≤ maxLen ∧ RowsD w 0 w.heap.size A rs ∧ ∀ k, k < rs.length → (rs.getD k []).length ≤ maxLen ∧ WfZ (rs.getD k []) := by
  rcases open_slice1 Try.underlying22 (by kernel_rfl) h with ⟨hv, _⟩ | ⟨a, len, cap, m, n, V, D, Pl, hv, _, hlc, hcm, hm, _, hi⟩
  · refine ⟨none, 0, [], ?_, by simp, ⟨Nat.le_refl _, fun h => absurd h (by simp)⟩, fun k hk => absurd hk (by simp)⟩
    simpa using hv
  · have hm' : m = cap := by simpa using hm
    have each : ∀ i, i < m → ∃ q : (Option Addr × Nat) × List Int, w.cell? (a.add i) = some (.slice q.1.1 q.2.length q.1.2) ∧ IntsD w 0 w.heap.size q.1.1 q.2 ∧ q.2.length ≤ maxLen ∧ WfZ q.2 := by
      intro i hi0
      obtain ⟨h1, h2⟩ := hi i hi0
      rcases open_ints Try.underlying28 Try.underlying3 (by kernel_rfl) h2 with ⟨hc, _⟩ | ⟨x, l, c, zs, hc, _, hl, hm, hz, _, hcell, hwz⟩
      · simp only [List.cons.injEq, and_true] at hc
        exact ⟨((none, 0), []), by rw [h1, hc]; rfl, ⟨Nat.le_refl _, fun h => absurd h (by simp)⟩, by simp, fun n hn => by simp at hn⟩
      · simp only [List.cons.injEq, and_true] at hc
        have hz' : zs.length = c := by simpa using hz
        have hlen : (zs.take l).length = l := by simp; omega
        refine ⟨((some x, c), zs.take l), by rw [h1, hc, hlen], ⟨Nat.le_refl _, fun hlt => ?_⟩, by rw [hlen]; omega, fun n hn => hwz n (List.mem_of_mem_take hn)⟩
        have hl' : 0 < zs.length := by rw [hlen] at hlt; omega
        obtain ⟨b, off, spot⟩ := x
        have hs : spot = none := by simpa [Addr.add] using World.cell?_spot (hcell 0 hl')
        subst hs
        have hadd : ∀ k, (⟨b, off, none⟩ : Addr).add k = ⟨b, off + k, none⟩ := fun k => by unfold Addr.add; split <;> simp_all
        have h0 := hcell 0 hl'
        rw [hadd] at h0
        refine ⟨b, off, rfl, Nat.zero_le _, World.block_lt_of_cell? w _ h0, fun k hk => ?_⟩
        have hk' : k < l ∧ k < zs.length := by rw [hlen] at hk; omega
        have := hcell k hk'.2
        rw [hadd] at this
        rw [this]
        simp [List.getD, hk'.1]
    obtain ⟨q, hq⟩ := choose_lt each
    refine ⟨some a, cap, (List.range len).map fun i => (q i).2, by simpa using hv, by simp; omega, ⟨Nat.le_refl _, fun hl => ?_⟩, fun k hk => ?_⟩
    · have hl' : 0 < len := by simpa using hl
      obtain ⟨b, off, spot⟩ := a
      have hs : spot = none := by simpa [Addr.add] using World.cell?_spot (hq 0 (by omega)).1
      subst hs
      have hadd : ∀ k, (⟨b, off, none⟩ : Addr).add k = ⟨b, off + k, none⟩ := fun k => by unfold Addr.add; split <;> simp_all
      have h0 := (hq 0 (by omega)).1
      rw [hadd] at h0
      refine ⟨b, off, rfl, Nat.zero_le _, World.block_lt_of_cell? w _ h0, fun k hk => ?_⟩
      have hk' : k < len := by simpa using hk
      have hg : ((List.range len).map fun i => (q i).2).getD k [] = (q k).2 := by simp [List.getD, hk']
      obtain ⟨c0, c1, _⟩ := hq k (by omega)
      rw [hadd] at c0
      rw [hg]
      exact ⟨(q k).1.1, (q k).1.2, c0, c1⟩
    · have hk' : k < len := by simpa using hk
      have hg : ((List.range len).map fun i => (q i).2).getD k [] = (q k).2 := by simp [List.getD, hk']
      rw [hg]
      exact (hq k (by omega)).2.2
end

/-- The number of ints in the first n rows. -/
def totD (rs : List (List Int)) : Nat → Nat
  | 0 => 0
  | n + 1 => totD rs n + (rs.getD n []).length
theorem totD_le (rs : List (List Int)) {j n : Nat} (h : j ≤ n) : totD rs j ≤ totD rs n := by
  induction n with
  | zero =>
    obtain rfl : j = 0 := by omega
    exact Nat.le_refl _
  | succ n ih =>
    by_cases e : j = n + 1
    · subst e; exact Nat.le_refl _
    · have := ih (by omega)
      rw [totD]; omega

set_option maxHeartbeats 2000000 in
set_option maxRecDepth 100000 in
theorem szRows_c (rs : List (List Int)) (A : Option Addr) (cap lo hi : Nat) (left : Int) (w : World) (hl : RowsD w lo hi A rs) (h0 : (rs.length : Int) + (totD rs rs.length : Int) ≤ left) (h1 : left ≤ 1048576) :
    Calls Try.prog 14 #[.slice A rs.length cap, .int .i64 left] w fun e w' => e = .returned (.int .i64 (left - rs.length - totD rs rs.length)) ∧ w = w' := by
  have HL := Lib.hid hl
  clear hl
  have hnn : ¬ left - (rs.length : Int) < 0 := by omega
  go_enter Try.func14, Try.ntmps14
  go_wp2_with fail
  go_loopw [1, 5] (fun m i wr => ∃ j : Nat, j ≤ rs.length ∧ i = .int .i64 j ∧ m = .int .i64 (left - rs.length - totD rs j) ∧ w = wr) (fun _ i _ => rs.length - (intOf i).toNat)
  case atStart => exact ⟨0, by omega, rfl, by simp [totD], rfl⟩
  case round =>
    obtain ⟨j, hj, rfl, rfl, rfl⟩ := hrel
    by_cases hlt : j < rs.length
    · have hij : (j : Int) < (rs.length : Int) := by omega
      obtain ⟨b, off, rfl, _, _, hcell⟩ := HL.out.2 (by omega)
      obtain ⟨A1, c1, hc1, _⟩ := hcell j hlt
      have ht := totD_le rs (j := j + 1) (n := rs.length) (by omega)
      have hs : totD rs (j + 1) = totD rs j + (rs.getD j []).length := rfl
      obtain ⟨m, hm⟩ : ∃ m, (rs.getD j []).length = m := ⟨_, rfl⟩
      rw [hm] at hc1 hs
      have HS := Lib.hid hs
      clear hcell hm hs
      go_wp2_with fail
      refine (szIntsD_c A1 m c1 (left - rs.length - totD rs j) _ (by have := HS.out; omega) (by omega)).mono ?_
      rintro e w3 ⟨rfl, rfl⟩
      have hnx : left - (rs.length : Int) - (totD rs j : Int) - (m : Int) = left - (rs.length : Int) - (totD rs (j + 1) : Int) := by rw [HS.out]; omega
      rw [hnx]
      have hnk : ¬ left - (rs.length : Int) - (totD rs (j + 1) : Int) < 0 := by omega
      go_wp2_with fail
      go_roundw
      case rel => exact ⟨j + 1, by omega, by go_num, rfl, trivial⟩
      case measure => simp [intOf]; omega
    · obtain rfl : j = rs.length := by omega
      go_wp2_with fail
      go_ret
      exact ⟨rfl, rfl⟩

set_option maxHeartbeats 2000000 in
set_option maxRecDepth 100000 in
theorem szRows_no (rs : List (List Int)) (A : Option Addr) (cap lo hi : Nat) (left : Int) (w : World) (hl : RowsD w lo hi A rs) (hr : ∀ k, k < rs.length → (rs.getD k []).length ≤ 9223372036854775807) (hn : rs.length ≤ 9223372036854775807) (h0 : left < (rs.length : Int) + (totD rs rs.length : Int)) (h1 : 0 ≤ left ∧ left ≤ 1048576) :
    Calls Try.prog 14 #[.slice A rs.length cap, .int .i64 left] w fun e w' => e = .returned (.int .i64 (-1)) ∧ w = w' := by
  have HL := Lib.hid hl
  have HR := Lib.hid hr
  clear hl hr
  by_cases hf : left < (rs.length : Int)
  · have hnn : left - (rs.length : Int) < 0 := by omega
    go_enter Try.func14, Try.ntmps14
    go_wp2_with fail
    go_ret
    exact ⟨rfl, rfl⟩
  · have hnn : ¬ left - (rs.length : Int) < 0 := by omega
    go_enter Try.func14, Try.ntmps14
    go_wp2_with fail
    go_loopw [1, 5] (fun m i wr => ∃ j : Nat, j ≤ rs.length ∧ i = .int .i64 j ∧ m = .int .i64 (left - rs.length - totD rs j) ∧ 0 ≤ left - (rs.length : Int) - (totD rs j : Int) ∧ w = wr) (fun _ i _ => rs.length - (intOf i).toNat)
    case atStart => exact ⟨0, by omega, rfl, by simp [totD], by simp [totD]; omega, rfl⟩
    case round =>
      obtain ⟨j, hj, rfl, rfl, hge, rfl⟩ := hrel
      by_cases hlt : j < rs.length
      · have hij : (j : Int) < (rs.length : Int) := by omega
        obtain ⟨b, off, rfl, _, _, hcell⟩ := HL.out.2 (by omega)
        obtain ⟨A1, c1, hc1, _⟩ := hcell j hlt
        have hz := HR.out j hlt
        have hs : totD rs (j + 1) = totD rs j + (rs.getD j []).length := rfl
        obtain ⟨m, hm⟩ : ∃ m, (rs.getD j []).length = m := ⟨_, rfl⟩
        rw [hm] at hc1 hs hz
        have HS := Lib.hid hs
        clear hcell hm hs
        by_cases hk : (m : Int) ≤ left - (rs.length : Int) - (totD rs j : Int)
        · go_wp2_with fail
          refine (szIntsD_c A1 m c1 (left - rs.length - totD rs j) _ hk (by omega)).mono ?_
          rintro e w3 ⟨rfl, rfl⟩
          have hnx : left - (rs.length : Int) - (totD rs j : Int) - (m : Int) = left - (rs.length : Int) - (totD rs (j + 1) : Int) := by rw [HS.out]; omega
          rw [hnx]
          have hnk : ¬ left - (rs.length : Int) - (totD rs (j + 1) : Int) < 0 := by have := HS.out; omega
          go_wp2_with fail
          go_roundw
          case rel => exact ⟨j + 1, by omega, by go_num, rfl, by omega, trivial⟩
          case measure => simp [intOf]; omega
        · go_wp2_with fail
          refine (szIntsD_no A1 m c1 (left - rs.length - totD rs j) _ hz (by omega) hge).mono ?_
          rintro e w3 ⟨rfl, rfl⟩
          go_wp2_with fail
          go_ret
          exact ⟨rfl, rfl⟩
      · obtain rfl : j = rs.length := by omega
        omega
end Go.Proofs.Ytcfgljfpkhefmaa
