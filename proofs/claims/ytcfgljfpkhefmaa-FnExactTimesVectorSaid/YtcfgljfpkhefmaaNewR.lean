/- What impl.newRows answers: rows of zeros side by side in one block. No condition. -/
import Derived.Test.YtcfgljfpkhefmaaFlat
import Derived.Test.YtcfgljfpkhefmaaToRows
import Derived.Test.YtcfgljfpkhefmaaIntArg
namespace Go.Proofs.Ytcfgljfpkhefmaa
open Go.RowKit

theorem rowF_zero (N : Nat) : List.replicate N (Value.int .i64 0) = intCells (rowF N fun _ => 0) := by
  rw [intsOf_zero]
  congr 1
  apply List.ext_getElem (by rw [rowF_len, List.length_replicate])
  intro i h1 h2
  rw [rowF_get h2, List.getElem_replicate]
def headV (g n : Nat) (i : Nat) : Value := .slice (some ⟨g, i * n, none⟩) n n

set_option maxHeartbeats 2000000 in
set_option maxRecDepth 100000 in
theorem newRows_c (h n : Nat) (w : World) (hh : h ≤ 1000) (hn : n ≤ 1000) (hn0 : 0 < n) :
    Calls Try.prog 104 #[.int .i64 h, .int .i64 n] w fun e w' => ∃ gh g, e = .returned (.slice (some ⟨gh, 0, none⟩) h h) ∧ RowsF w' w.heap.size w'.heap.size gh g h n id (fun _ => 0) ∧ Below w.heap.size w w' := by
  obtain ⟨N, hN⟩ : ∃ N, h * n = N := ⟨_, rfl⟩
  have hNb : N ≤ 1000000 := by rw [← hN]; exact Nat.mul_le_mul hh hn
  have hNc : ((h : Int) * (n : Int)) = (N : Int) := by rw [← hN]; exact (Int.natCast_mul ..).symm
  have hNw : IntKind.i64.wrap ((h : Int) * (n : Int)) = (N : Int) := by rw [hNc]; exact IntWalk.i64_in _ (by omega)
  have HN := Lib.hid hN
  clear hN hNc
  go_enter Try.func104, Try.ntmps104
  go_wp2_with (first
    | (at_make; refine wpList_mkn _ rfl _ _ 22 rfl w0.heap.size 28 (.slice none 0 0) 24 Try.underlying22 infoIntsD rfl _ _ _ _ h rfl rfl rfl rfl (by omega) (by unfold maxLen; omega) (Nat.le_refl _) ?_; intro w1 hown1 hb1)
    | (at_make; refine wpList_mkn _ rfl _ _ 28 rfl w.heap.size 3 (.int .i64 0) 8 Try.underlying28 infoInt rfl _ _ _ _ N rfl rfl rfl rfl (by omega) (by unfold maxLen; omega) (Nat.le_refl _) ?_; intro w0 hown0 hb0))
  obtain ⟨g, hg⟩ : ∃ g, w.heap.size = g := ⟨_, rfl⟩
  rw [hg] at hown0 hb0 ⊢
  rw [rowF_zero] at hown0
  have HF := Lib.hid (show FlatAt w0 g N (fun _ => 0) from hown0)
  have HB0 := Lib.hid hb0
  have HG := Lib.hid hg
  have hgs := HF.out.lt
  clear hown0 hb0 hg
  obtain ⟨gh, hgh⟩ : ∃ gh, w0.heap.size = gh := ⟨_, rfl⟩
  have HF1 := Lib.hid (HF.out.within (within_of hb1) (.inr (Nat.zero_le _)))
  have HB1 := Lib.hid (HB0.out.trans (hb1.mono (Nat.le_of_lt hgs)))
  rw [hgh] at hown1 hgs hb1 ⊢
  have HO1 := Lib.hid hown1
  clear hown1 hb1 hgh
  go_loopw [7, 16] (fun _ i wr => ∃ j : Nat, j ≤ h ∧ i = .int .i64 j ∧ wr.ownsRow gh 28 1 (.slice (some ⟨gh, 0, none⟩) h h) h ((List.range j).map (headV g n) ++ List.replicate (h - j) (.slice none 0 0)) ∧ FlatAt wr g N (fun _ => 0) ∧ Below g w wr) (fun _ i _ => h - (intOf i).toNat)
  case atStart => exact ⟨0, by omega, rfl, HO1.out, HF1.out, HB1.out⟩
  case round =>
    obtain ⟨j, hj, rfl, hown, hf, hb⟩ := hrel
    have HO := Lib.hid hown
    have HFJ := Lib.hid hf
    have HB := Lib.hid hb
    clear hown hf hb
    have hlen : ((List.range j).map (headV g n) ++ List.replicate (h - j) (Value.slice none 0 0)).length = h := by simp; omega
    by_cases hlt : j < h
    · have hji : (j : Int) < (h : Int) := by omega
      have hKN := Nat.mul_le_mul_right n (show j + 1 ≤ h from hlt)
      have hS : (j + 1) * n = j * n + n := by rw [Nat.add_mul, Nat.one_mul]
      rw [hS, HN.out] at hKN
      obtain ⟨K, hK⟩ : ∃ K, j * n = K := ⟨_, rfl⟩
      obtain ⟨K1, hK1⟩ : ∃ K1, K + n = K1 := ⟨_, rfl⟩
      rw [hK, hK1] at hKN
      have hw1 : IntKind.i64.wrap ((j : Int) * (n : Int)) = (K : Int) := by rw [← Int.natCast_mul, hK]; exact IntWalk.i64_in _ (by omega)
      have hw2 : IntKind.i64.wrap (((j : Int) + 1) * (n : Int)) = (K1 : Int) := by
        have : ((j : Int) + 1) * (n : Int) = (((j + 1) * n : Nat) : Int) := by rw [Int.natCast_mul]; rfl
        rw [this, hS, hK, hK1]; exact IntWalk.i64_in _ (by omega)
      have hkk : (K : Int) ≤ (K1 : Int) := by omega
      have hkn : (K1 : Int) ≤ (N : Int) := by omega
      have hk0 : (0 : Int) ≤ (K : Int) := by omega
      have hd := (HO.out.cellAt j (by omega)).trans (show ((List.range j).map (headV g n) ++ List.replicate (h - j) (Value.slice none 0 0))[j]? = some (Value.slice none 0 0) by
        rw [List.getElem?_append_right (by simp), List.length_map, List.length_range, Nat.sub_self, List.getElem?_replicate, if_pos (by omega)])
      have hfz := HO.out.frozenAt j
      have hv : Value.slice (if K1 = K then some ⟨g, 0, none⟩ else some ⟨g, K, none⟩) (K1 - K) (K1 - K) = headV g n j := by
        unfold headV
        rw [if_neg (by omega), hK, show K1 - K = n by omega]
      have hst := HO.out.stored j (headV g n j)
      have hstep : ((List.range j).map (headV g n) ++ List.replicate (h - j) (Value.slice none 0 0)).set j (headV g n j) = (List.range (j + 1)).map (headV g n) ++ List.replicate (h - (j + 1)) (.slice none 0 0) := by
        obtain ⟨r, hr⟩ : ∃ r, h - j = r + 1 := ⟨h - j - 1, by omega⟩
        rw [List.set_append_right _ _ (by simp), List.length_map, List.length_range, Nat.sub_self, hr, List.replicate_succ, List.set_cons_zero, show h - (j + 1) = r by omega, List.range_succ, List.map_append, List.append_assoc]
        rfl
      rw [hstep] at hst
      have hw3 : Within gh (gh + 1) wr (wr.setCell ⟨gh, j, none⟩ (headV g n j)) := ⟨hst.2.os, hst.2.tape, hst.2.output, hst.2.size, fun i hi' hd' => hst.2.block i hi' (by simp; omega)⟩
      have HST := Lib.hid hst.1
      have HF3 := Lib.hid (HFJ.out.within hw3 (.inl hgs))
      have HB3 := Lib.hid (within_on HB.out hw3 (by have := HFJ.out.lt; omega) (.inl (Nat.le_of_lt hgs)))
      have HV := Lib.hid hv
      clear hK hK1 hS hlen hv hst hstep hw3
      go_wp2_with fail
      rw [HV.out]
      go_roundw
      case rel => exact ⟨j + 1, by omega, by go_num, HST.out, HF3.out, HB3.out⟩
      case measure => simp [intOf]; omega
    · obtain rfl : j = h := by omega
      go_wp2_with fail
      go_ret
      rw [HG.out]
      have hrow := HO.out
      rw [Nat.sub_self, List.replicate_zero, List.append_nil] at hrow
      have hgl := (World.ownsRow.lt hrow gh rfl).2
      exact ⟨gh, g, rfl, ⟨Nat.le_refl _, ⟨by omega, hgl⟩, ⟨Nat.le_refl _, by omega⟩, by omega, fun i hi => hi, hrow, by rw [HN.out]; exact HFJ.out⟩, HB.out⟩
/-- A number stored. -/
theorem RowsF.store {W : World} {lo hi gh g h n : Nat} {p : Nat → Nat} {f : Nat → Int} (r : RowsF W lo hi gh g h n p f) {t : Nat} (ht : t < h * n) (x : Int) :
    RowsF (W.setCell ⟨g, t, none⟩ (.int .i64 x)) lo hi gh g h n p (fun s => if s = t then x else f s) ∧ Within g (g + 1) W (W.setCell ⟨g, t, none⟩ (.int .i64 x)) := by
  have hst := World.ownsRow.stored r.num t (.int .i64 x)
  have hw : Within g (g + 1) W (W.setCell ⟨g, t, none⟩ (.int .i64 x)) := ⟨hst.2.os, hst.2.tape, hst.2.output, hst.2.size, fun i hi' hd' => hst.2.block i hi' (by simp; omega)⟩
  refine ⟨⟨Nat.le_trans r.top hw.size, r.hd, r.nm, r.ne, r.per, ?_, ?_⟩, hw⟩
  · obtain ⟨l1, l2⟩ := r.row
    refine ⟨l1, ?_⟩
    have h1 := r.hd
    have ht := r.top
    have hne := r.ne
    rcases l2 with l2 | ⟨g2, c2, cur, e1, e2, e3, e4⟩
    · cases l2.1
    · cases e1
      exact .inr ⟨gh, h, cur, rfl, Nat.le_refl _, (hw.block gh (by omega) (by omega)).trans e3, e4⟩
  · have := hst.1
    rw [rowF_set ht] at this
    exact this
theorem RowsF.widen {W : World} {lo hi lo' hi' gh g h n : Nat} {p : Nat → Nat} {f : Nat → Int} (r : RowsF W lo hi gh g h n p f) (h1 : lo' ≤ lo) (h2 : hi ≤ hi') (h3 : hi' ≤ W.heap.size) : RowsF W lo' hi' gh g h n p f :=
  ⟨h3, by have := r.hd; omega, by have := r.nm; omega, r.ne, r.per, r.row, r.num⟩
theorem at_inj {n c r j i : Nat} (hr : r < n) (hi : i < n) (e : c * n + r = j * n + i) : c = j ∧ r = i := by
  rcases Nat.lt_trichotomy c j with h | h | h
  · have := Nat.mul_le_mul_right n (show c + 1 ≤ j from h)
    rw [Nat.add_mul, Nat.one_mul] at this
    omega
  · subst h; omega
  · have := Nat.mul_le_mul_right n (show j + 1 ≤ c from h)
    rw [Nat.add_mul, Nat.one_mul] at this
    omega
end Go.Proofs.Ytcfgljfpkhefmaa
