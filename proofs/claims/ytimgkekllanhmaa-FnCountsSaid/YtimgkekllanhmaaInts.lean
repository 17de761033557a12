/- Rows of ints, as the laws copy, compare and mark them; an append onto a row of the call's own, with the block where the new row lies. No condition. -/
import Derived.Test.YtimgkekllanhmaaState
import Derived.Maps.AppendAt
namespace Go.Proofs.Ytimgkekllanhmaa
open Go.RowKit

/-- Several cells, just laid, appended onto a row of the call's own: what is written, and where the row lies then. -/
theorem wpList_at {P : Program} (w : World) {ops : Array Oper} {rest : List Oper} {o : Oper} {a : Act} {Q : Exit → Act → World → Prop} (hgd : o.guard = none) (s x : Operand) (t : TypeId)
    (ho : o.op = .call { callee := .builtin .append, args := #[s, x], argTypes := #[t, t] })
    (base : Nat) (e : TypeId) (z : Value) (size bytes : Nat) (ht : P.underlying t = some (.slice e)) (hinfo : (P.info? e).map (fun i => (i.zero, i.size, i.bytes)) = some (some z, size, bytes)) (hzs : z.cells.size = size) (hsz : 0 < size)
    (v : Value) (n : Nat) (xs : List Value) (hs : a.eval s = v) (hown : w.ownsRow base e size v n xs) (us : Array Value) (m : Nat) (hm : us.size = m * size) (hu : ∀ u ∈ us.toList, u.oneCell' = true) (tb : TypeId) (c : Nat) (hx : a.eval x = .slice (some ⟨w.heap.size, 0, none⟩) m c)
    (hbytes : (n + m) * bytes ≤ 140737488355328) (h63 : n + m ≤ maxLen) (hbase : base ≤ w.heap.size)
    (h : ∀ v' w', w'.ownsRow base e size v' (n + m) (xs ++ us.toList) → w.grownBy w' v.ownBlock → (v'.ownBlock = v.ownBlock ∨ v'.ownBlock = some (w.heap.size + 1)) → (v' = .slice none 0 0 ↔ v = .slice none 0 0 ∧ m = 0) → wpList P ops Q rest (a.put o.dst v') w') : wpList P ops Q (o :: rest) a (w.alloc (.cells us tb)) := by
  obtain ⟨i, hi, hz0, hz1, hz2⟩ := info_parts hinfo
  refine wpList_append_own_at _ hgd s x t ho base e i z size bytes ht hi hz0 hz1 hz2 hzs hsz v n xs hs (hown.alloc _) ⟨w.heap.size, 0, none⟩ m c us.toList hx (by simpa using hm) ?_ hu h63 hbytes (by simp; omega) ?_
  · intro j y hj
    have : (⟨w.heap.size, 0, none⟩ : Addr).add j = ⟨w.heap.size, j, none⟩ := by unfold Addr.add; split <;> simp_all
    rw [this, World.cell?_alloc_at _ _ _ _ rfl]
    simpa using hj
  · intro v' w' hown' hg hnil hat
    exact h v' w' hown' ((World.grownBy_alloc w (.cells us tb) v.ownBlock).trans_ hg) (by simpa using hat) hnil

theorem own_shape {w : World} {base size : Nat} {e : TypeId} {v : Value} {n : Nat} {xs : List Value} (h : w.ownsRow base e size v n xs) : ∃ A c, v = .slice A n c := by
  rcases h.2 with ⟨rfl, rfl⟩ | ⟨g, c, _, rfl, _⟩
  · exact ⟨none, 0, rfl⟩
  · exact ⟨_, c, rfl⟩
theorem infoInt : (Try.prog.info? 3).map (fun i => (i.zero, i.size, i.bytes)) = some (some (.int .i64 0), 1, 8) := by kernel_rfl

/-- The slice at A reads as the ints zs, in a block from lo to hi. -/
def IntsIn (W : World) (lo hi : Nat) (A : Option Addr) (zs : List Int) : Prop :=
  hi ≤ W.heap.size ∧ (0 < zs.length → ∃ b off, A = some ⟨b, off, none⟩ ∧ lo ≤ b ∧ b < hi ∧ ∀ k, k < zs.length → W.cell? ⟨b, off + k, none⟩ = some (.int .i64 (zs.getD k 0)))
theorem IntsIn.within {W W' : World} {lo hi lo' hi' : Nat} {A : Option Addr} {zs : List Int} (h : IntsIn W lo hi A zs) (hw : Within lo' hi' W W') (hd : hi ≤ lo' ∨ hi' ≤ lo) : IntsIn W' lo hi A zs :=
  ⟨Nat.le_trans h.1 hw.size, fun hl => by
    obtain ⟨b, off, e, h1, h2, hc⟩ := h.2 hl
    have hk := hw.block b (Nat.lt_of_lt_of_le h2 h.1) (by omega)
    exact ⟨b, off, e, h1, h2, fun k hk' => (World.cell?_of_block (a := ⟨b, off + k, none⟩) hk).trans (hc k hk')⟩⟩
def intCells (zs : List Int) : List Value := zs.map (Value.int .i64)
theorem intCells_get (zs : List Int) (k : Nat) (h : k < zs.length) : (intCells zs)[k]? = some (.int .i64 (zs.getD k 0)) := by
  simp [intCells, List.getD, List.getElem?_eq_getElem h]
theorem intCells_len (zs : List Int) : (intCells zs).length = zs.length := by simp [intCells]
/-- A row of ints of the call's own. -/
def OwnInts (W : World) (lo hi : Nat) (A : Option Addr) (cap : Nat) (zs : List Int) : Prop :=
  hi ≤ W.heap.size ∧ (zs = [] ∨ ∃ g, A = some ⟨g, 0, none⟩ ∧ lo ≤ g ∧ g < hi ∧ W.ownsRow lo 3 1 (.slice (some ⟨g, 0, none⟩) zs.length cap) zs.length (intCells zs))
theorem OwnInts.within {W W' : World} {lo hi lo' hi' : Nat} {A : Option Addr} {cap : Nat} {zs : List Int} (h : OwnInts W lo hi A cap zs) (hw : Within lo' hi' W W') (hd : hi ≤ lo' ∨ hi' ≤ lo) : OwnInts W' lo hi A cap zs :=
  ⟨Nat.le_trans h.1 hw.size, by
    rcases h.2 with h2 | ⟨g, e, h1, h2, ho⟩
    · exact .inl h2
    · exact .inr ⟨g, e, h1, h2, own_block ho (hw.block g (Nat.lt_of_lt_of_le h2 h.1) (by omega))⟩⟩
theorem OwnInts.reads {W : World} {lo hi : Nat} {A : Option Addr} {cap : Nat} {zs : List Int} (h : OwnInts W lo hi A cap zs) : IntsIn W lo hi A zs :=
  ⟨h.1, fun hl => by
    rcases h.2 with h2 | ⟨g, e, h1, h2, ho⟩
    · subst h2; simp at hl
    · exact ⟨g, 0, e, h1, h2, fun k hk => by
        rw [Nat.zero_add]
        exact (ho.cellAt k (by omega)).trans (intCells_get zs k hk)⟩⟩
theorem own_ints' {w' : World} {base : Nat} {A : Option Addr} {cap : Nat} {zs : List Int} (h : w'.ownsRow base 3 1 (.slice A zs.length cap) zs.length (intCells zs)) : OwnInts w' base w'.heap.size A cap zs := by
  rcases h.2 with ⟨h1, h0⟩ | ⟨g, cap', cur, h1, h2⟩
  · exact ⟨Nat.le_refl _, .inl (List.eq_nil_of_length_eq_zero h0)⟩
  · cases h1
    exact ⟨Nat.le_refl _, .inr ⟨g, rfl, (h.lt g rfl).1, (h.lt g rfl).2, h⟩⟩

set_option maxHeartbeats 1000000 in
set_option maxRecDepth 100000 in
theorem eqInts_c (zs : List Int) (A A' : Option Addr) (cap cap' : Nat) (lo hi lo' hi' : Nat) (w : World) (hl : IntsIn w lo hi A zs) (hl' : IntsIn w lo' hi' A' zs) (hn : zs.length ≤ 1048576) :
    Calls Try.prog 15 #[.slice A zs.length cap, .slice A' zs.length cap'] w fun e w' => e = .returned (.bool true) ∧ Below w.heap.size w w' := by
  have HL := Lib.hid hl
  have HL' := Lib.hid hl'
  clear hl hl'
  go_enter Try.func15, Try.ntmps15
  go_wp2_with fail
  go_loopw [5] (fun i wr => ∃ k : Nat, k ≤ zs.length ∧ i = .int .i64 k ∧ ∃ m, wr = w.drewN m) (fun i _ => zs.length - (intOf i).toNat)
  case atStart => exact ⟨0, by omega, rfl, 0, rfl⟩
  case round =>
    obtain ⟨k, hk, rfl, m, rfl⟩ := hrel
    by_cases hlt : k < zs.length
    · have hi : (k : Int) < (zs.length : Int) := by omega
      obtain ⟨b, off, rfl, _, _, hcell⟩ := HL.out.2 (by omega)
      obtain ⟨b', off', rfl, _, _, hcell'⟩ := HL'.out.2 (by omega)
      have hc1 := hcell k hlt
      have hc2 := hcell' k hlt
      clear hcell hcell'
      obtain ⟨x, hx⟩ : ∃ x, zs.getD k 0 = x := ⟨_, rfl⟩
      rw [hx] at hc1 hc2
      clear hx
      go_wp2_with fail
      go_quiet (fail)
      go_wp2_with fail
      go_roundw
      case rel => exact ⟨k + 1, by omega, by go_num, m + nq, rfl⟩
      case measure => simp [intOf]; omega
    · go_wp2_with fail
      go_ret
      exact ⟨rfl, below_drewN _ _ _⟩

/-- The ints that the marks from k on make. -/
def marksI (k : Int) (n : Nat) : List Int := (List.range n).map fun (i : Nat) => k + (i : Int)
theorem marksI_len (k : Int) (n : Nat) : (marksI k n).length = n := by simp [marksI]
theorem marksI_get (k : Int) (n i : Nat) (h : i < n) : (marksI k n).getD i 0 = k + (i : Int) := by simp [marksI, List.getD, h]
theorem marksI_step (k : Int) (zs : List Int) (i : Nat) (h : i < zs.length) : (intCells (marksI k i ++ zs.drop i)).set i (.int .i64 (k + (i : Int))) = intCells (marksI k (i + 1) ++ zs.drop (i + 1)) := by
  unfold intCells
  rw [← List.map_set, List.set_append_right _ _ (by rw [marksI_len]; exact Nat.le_refl _), marksI_len, Nat.sub_self, List.drop_eq_getElem_cons h, List.set_cons_zero]
  simp [marksI, List.range_succ]

set_option maxHeartbeats 1000000 in
set_option maxRecDepth 100000 in
theorem markInts_c (g : Nat) (zs : List Int) (cap : Nat) (k : Int) (base : Nat) (w : World) (hown : w.ownsRow base 3 1 (.slice (some ⟨g, 0, none⟩) zs.length cap) zs.length (intCells zs)) (hn : zs.length ≤ 1048576) (hk0 : 0 ≤ k) (hk1 : k ≤ 10000000) :
    Calls Try.prog 18 #[.slice (some ⟨g, 0, none⟩) zs.length cap, .int .i64 k] w fun e w' => e = .returned (.int .i64 (k + (zs.length : Int))) ∧ w'.ownsRow base 3 1 (.slice (some ⟨g, 0, none⟩) zs.length cap) zs.length (intCells (marksI k zs.length)) ∧ w.grownBy w' (some g) := by
  have HO := Lib.hid hown
  clear hown
  go_enter Try.func18, Try.ntmps18
  go_wp2_with fail
  go_loopw [1, 5] (fun m i wr => ∃ j : Nat, j ≤ zs.length ∧ i = .int .i64 j ∧ m = .int .i64 (k + (j : Int)) ∧ wr.ownsRow base 3 1 (.slice (some ⟨g, 0, none⟩) zs.length cap) zs.length (intCells (marksI k j ++ zs.drop j)) ∧ w.grownBy wr (some g)) (fun _ i _ => zs.length - (intOf i).toNat)
  case atStart => exact ⟨0, by omega, rfl, by simp, HO.out, World.grownBy.refl _ _⟩
  case round =>
    obtain ⟨j, hj, rfl, rfl, hown, hg⟩ := hrel
    have HG := Lib.hid hg
    clear hg
    by_cases hlt : j < zs.length
    · have hi : (j : Int) < (zs.length : Int) := by omega
      have hlen : (marksI k j ++ zs.drop j).length = zs.length := by rw [List.length_append, marksI_len, List.length_drop]; omega
      have hd1 := (hown.cellAt j (by omega)).trans (intCells_get _ j (by omega))
      have hf1 := hown.frozenAt j
      have hst1 := hown.stored j (.int .i64 (k + (j : Int)))
      have HG2 := Lib.hid (HG.out.trans_ hst1.2)
      have hst3 := hst1.1
      rw [marksI_step k zs j hlt] at hst3
      have HST := Lib.hid hst3
      clear hst1 hst3 hown hlen
      go_wp2_with fail
      go_roundw
      case rel => exact ⟨j + 1, by omega, by go_num, by go_num, HST.out, HG2.out⟩
      case measure => simp [intOf]; omega
    · obtain rfl : j = zs.length := by omega
      rw [List.drop_length, List.append_nil] at hown
      go_wp2_with fail
      go_ret
      exact ⟨rfl, hown, HG.out⟩
theorem markInts_nil (A : Option Addr) (cap : Nat) (k : Int) (w : World) :
    Calls Try.prog 18 #[.slice A 0 cap, .int .i64 k] w fun e w' => e = .returned (.int .i64 k) ∧ w = w' := by
  go_enter Try.func18, Try.ntmps18
  go_wp2_with fail
  refine wp_loop_rounds 1 ?_
  rw [rounds_succ]
  go_wp2_with fail
  go_ret
  exact ⟨rfl, rfl⟩
theorem markInts_o (A : Option Addr) (cap : Nat) (zs : List Int) (k : Int) (lo hi : Nat) (w : World) (h : OwnInts w lo hi A cap zs) (hn : zs.length ≤ 1048576) (hk0 : 0 ≤ k) (hk1 : k ≤ 10000000) :
    Calls Try.prog 18 #[.slice A zs.length cap, .int .i64 k] w fun e w' => e = .returned (.int .i64 (k + (zs.length : Int))) ∧ Within lo hi w w' ∧ OwnInts w' lo hi A cap (marksI k zs.length) := by
  have hhi := h.1
  rcases h.2 with h2 | ⟨g, rfl, h1, h2, ho⟩
  · subst h2
    refine (markInts_nil A cap k w).mono ?_
    rintro e w1 ⟨rfl, rfl⟩
    exact ⟨by simp, ⟨rfl, rfl, rfl, Nat.le_refl _, fun _ _ _ => rfl⟩, hhi, .inl rfl⟩
  · refine (markInts_c g zs cap k lo w ho hn hk0 hk1).mono ?_
    rintro e w1 ⟨rfl, ho1, hg1⟩
    refine ⟨rfl, ⟨hg1.os, hg1.tape, hg1.output, hg1.size, fun j hj hd => hg1.block j hj (by simp; omega)⟩, Nat.le_trans hhi hg1.size, .inr ⟨g, rfl, h1, h2, ?_⟩⟩
    have := marksI_len k zs.length
    rw [this]
    exact ho1

set_option maxHeartbeats 1000000 in
set_option maxRecDepth 100000 in
theorem heldInts_c (n : Nat) (A : Option Addr) (cap : Nat) (k : Int) (lo hi : Nat) (w : World) (hl : IntsIn w lo hi A (marksI k n)) (hn : n ≤ 1048576) (hk0 : 0 ≤ k) (hk1 : k ≤ 10000000) :
    Calls Try.prog 19 #[.slice A n cap, .int .i64 k] w fun e w' => e = .returned (.int .i64 (k + (n : Int))) ∧ Below w.heap.size w w' := by
  have HL := Lib.hid hl
  clear hl
  go_enter Try.func19, Try.ntmps19
  go_wp2_with fail
  go_loop [1, 5] (fun m i => ∃ j : Nat, j ≤ n ∧ i = .int .i64 j ∧ m = .int .i64 (k + (j : Int))) (fun _ i => n - (intOf i).toNat)
  case atStart => exact ⟨0, by omega, rfl, by simp⟩
  case round =>
    obtain ⟨j, hj, rfl, rfl⟩ := hrel
    by_cases hlt : j < n
    · have hi : (j : Int) < (n : Int) := by omega
      obtain ⟨b, off, rfl, _, _, hcell⟩ := HL.out.2 (by rw [marksI_len]; omega)
      have hc := hcell j (by rw [marksI_len]; exact hlt)
      rw [marksI_get k n j hlt] at hc
      clear hcell
      go_wp2_with fail
      go_round
      case rel => exact ⟨j + 1, by omega, by go_num, by go_num⟩
      case measure => simp [intOf]; omega
    · obtain rfl : j = n := by omega
      go_wp2_with fail
      go_ret
      exact ⟨rfl, Below.refl _ _⟩
end Go.Proofs.Ytimgkekllanhmaa
