/- Several texts in one, in the order in which they build on each other: what stands on the way to the law; each names its own matter. No condition. -/
import Derived.Test.YtedjhnedkghhoaaPk3
import Derived.OrdersHeld
import Derived.Deep.RegionHeld3
import Derived.WalkMore
import Derived.StillTailTactics
import Derived.Deep.QuietTactic
import Derived.BigQuiet
import Derived.ProofKit
import Derived.Lib.SmallJoins
import Derived.Deep.SlicePairs
/- What ArePackedTrees answers: no bar twice, or all bars, is the same where there are as many as bars. No program's walk. No condition. -/
namespace Go.Proofs.Ytedjhnedkghhoaa
open Go.RowKit

def sumN (f : Nat → Nat) : Nat → Nat
  | 0 => 0
  | n + 1 => sumN f n + f n
theorem sumN_zero (n : Nat) : sumN (fun _ => 0) n = 0 := by
  induction n with
  | zero => rfl
  | succ n ih => rw [sumN, ih]
theorem sumN_one (f : Nat → Nat) (t : Nat) : ∀ n, t < n → sumN (fun b => f b + if b = t then 1 else 0) n = sumN f n + 1 := by
  have low : ∀ n, n ≤ t → sumN (fun b => f b + if b = t then 1 else 0) n = sumN f n := by
    intro n
    induction n with
    | zero => intro _; rfl
    | succ n ih =>
      intro h
      rw [sumN, sumN, ih (by omega), if_neg (by omega)]
      rfl
  intro n
  induction n with
  | zero => intro h; omega
  | succ n ih =>
    intro h
    rw [sumN, sumN]
    by_cases e : n = t
    · subst e
      rw [low n (Nat.le_refl _), if_pos rfl]
      omega
    · rw [ih (by omega), if_neg e]
      omega
theorem sumN_congr (f g : Nat → Nat) (n : Nat) (h : ∀ b, f b = g b) : sumN f n = sumN g n := by
  have : f = g := funext h
  rw [this]
theorem count_sum (n : Nat) : ∀ F : List Int, (∀ z ∈ F, 0 ≤ z ∧ z < (n : Int)) → sumN (fun b => F.count (b : Int)) n = F.length := by
  intro F
  induction F with
  | nil => intro _; exact sumN_zero n
  | cons z F ih =>
    intro h
    have hz := h z (List.mem_cons_self ..)
    rw [sumN_congr _ (fun b => F.count (b : Int) + if b = z.toNat then 1 else 0) n fun b => ?_, sumN_one _ z.toNat n (by omega), ih fun y hy => h y (List.mem_cons_of_mem _ hy)]
    · rfl
    · rw [List.count_cons]
      by_cases e : b = z.toNat
      · rw [if_pos e, if_pos (by simp; omega)]
      · rw [if_neg e, if_neg (by simp; omega)]
theorem sumN_le {f : Nat → Nat} : ∀ n, (∀ b, b < n → f b ≤ 1) → sumN f n ≤ n ∧ (sumN f n = n → ∀ b, b < n → f b = 1) := by
  intro n
  induction n with
  | zero => intro _; exact ⟨Nat.le_refl _, fun _ b hb => absurd hb (by omega)⟩
  | succ n ih =>
    intro h
    obtain ⟨i1, i2⟩ := ih fun b hb => h b (by omega)
    have hn := h n (by omega)
    rw [sumN]
    refine ⟨by omega, fun e b hb => ?_⟩
    by_cases c : b = n
    · subst c; omega
    · exact i2 (by omega) b (by omega)
theorem sumN_ge {f : Nat → Nat} : ∀ n, (∀ b, b < n → 1 ≤ f b) → n ≤ sumN f n ∧ (sumN f n = n → ∀ b, b < n → f b = 1) := by
  intro n
  induction n with
  | zero => intro _; exact ⟨Nat.le_refl _, fun _ b hb => absurd hb (by omega)⟩
  | succ n ih =>
    intro h
    obtain ⟨i1, i2⟩ := ih fun b hb => h b (by omega)
    have hn := h n (by omega)
    rw [sumN]
    refine ⟨by omega, fun e b hb => ?_⟩
    by_cases c : b = n
    · subst c; omega
    · exact i2 (by omega) b (by omega)
/-- As many numbers as there are bars: none twice exactly if all are there. -/
theorem once_all {F : List Int} {n : Nat} (h : ∀ z ∈ F, 0 ≤ z ∧ z < (n : Int)) (hl : F.length = n) : F.Nodup ↔ ∀ b : Nat, b < n → (b : Int) ∈ F := by
  have hs := count_sum n F h
  rw [hl] at hs
  constructor
  · intro hn b hb
    have h1 := (sumN_le n fun b _ => List.nodup_iff_count.1 hn (b : Int)).2 hs b hb
    exact List.count_pos_iff.1 (by omega)
  · intro ha
    have h1 := (sumN_ge n fun b hb => List.count_pos_iff.2 (ha b hb)).2 hs
    refine List.nodup_iff_count.2 fun a => ?_
    by_cases hm : a ∈ F
    · have h2 := h a hm
      have h3 := h1 a.toNat (by omega)
      have e : ((a.toNat : Nat) : Int) = a := by omega
      rw [e] at h3
      omega
    · rw [List.count_eq_zero.2 hm]
      omega
/-- What IsSpanningTree answers. -/
noncomputable def spaB (p : Int) (l : List (Int × Int)) (zs : List Int) : Bool := indB p 1 1 l zs && decide ((zs.length : Int) = p - 1)
theorem spaB_set {p : Int} {l : List (Int × Int)} {zs : List Int} (h : spaB p l zs = true) : setB p l zs = true := by
  unfold spaB at h
  rw [Bool.and_eq_true] at h
  cases hs : setB p l zs with
  | false => rw [indB_set hs] at h; cases h.1
  | true => rfl
theorem spaB_in {p : Int} {l : List (Int × Int)} {zs : List Int} (h : spaB p l zs = true) : (∀ x ∈ zs, 0 ≤ x ∧ x < (l.length : Int)) ∧ IsG p l :=
  ⟨(okS_pair (setB_is (spaB_set h)).1).1, (setB_is (spaB_set h)).2⟩
theorem spaB_len {p : Int} {l : List (Int × Int)} {zs : List Int} (h : spaB p l zs = true) : zs.length ≤ 7 := by
  have hG := (spaB_in h).2.1
  unfold spaB at h
  rw [Bool.and_eq_true, decide_eq_true_eq] at h
  omega
/-- The bars of the first j lists. -/
def flatJ (T : List (List Int)) (j : Nat) : List Int := (T.take j).flatten
theorem flatJ_zero (T : List (List Int)) : flatJ T 0 = [] := rfl
theorem flatJ_succ (T : List (List Int)) (j : Nat) (h : j < T.length) : flatJ T (j + 1) = flatJ T j ++ T.getD j [] := by
  unfold flatJ
  rw [List.take_succ_eq_append_getElem h, List.flatten_append]
  simp [List.getD, List.getElem?_eq_getElem h]
theorem flatJ_all (T : List (List Int)) : flatJ T T.length = T.flatten := by unfold flatJ; rw [List.take_length]
theorem flatJ_le (T : List (List Int)) {i j : Nat} (h : i ≤ j) : (flatJ T i).Sublist (flatJ T j) := by
  unfold flatJ
  have e : T.take i = (T.take j).take i := by rw [List.take_take, Nat.min_eq_left h]
  rw [e]
  have q : ((T.take j).take i ++ (T.take j).drop i).flatten = (T.take j).flatten := by rw [List.take_append_drop]
  rw [← q, List.flatten_append]
  exact List.sublist_append_left _ _
/-- What ArePackedTrees answers. -/
noncomputable def arpB (p k : Int) (l : List (Int × Int)) (T : List (List Int)) : Bool := decide (1 ≤ k ∧ k ≤ 3) && (decide ((T.length : Int) = k) && (T.all (spaB p l) && (decide (T.flatten.length = l.length) && decide T.flatten.Nodup)))
theorem arp_range {p k : Int} {l : List (Int × Int)} {T : List (List Int)} (h : k < 1 ∨ 3 < k) : arpB p k l T = false := by
  unfold arpB
  rw [decide_eq_false (by omega)]
  rfl
theorem arp_len {p k : Int} {l : List (Int × Int)} {T : List (List Int)} (h : (T.length : Int) ≠ k) : arpB p k l T = false := by
  unfold arpB
  rw [decide_eq_false (p := (T.length : Int) = k) h]
  simp
theorem arp_spa {p k : Int} {l : List (Int × Int)} {T : List (List Int)} {j : Nat} (hj : j < T.length) (h : spaB p l (T.getD j []) = false) : arpB p k l T = false := by
  have : T.all (spaB p l) = false := by
    rw [List.all_eq_false]
    refine ⟨T[j], List.getElem_mem hj, ?_⟩
    have e : T.getD j [] = T[j] := by simp [List.getD, List.getElem?_eq_getElem hj]
    rw [e] at h
    rw [h]
    simp
  unfold arpB
  rw [this]
  simp
theorem arp_count {p k : Int} {l : List (Int × Int)} {T : List (List Int)} (h : T.flatten.length ≠ l.length) : arpB p k l T = false := by
  unfold arpB
  rw [decide_eq_false (p := T.flatten.length = l.length) h]
  simp
theorem arp_twice {p k : Int} {l : List (Int × Int)} {T : List (List Int)} (h : ¬ T.flatten.Nodup) : arpB p k l T = false := by
  unfold arpB
  rw [decide_eq_false (p := T.flatten.Nodup) h]
  simp
theorem all_spa {p : Int} {l : List (Int × Int)} {T : List (List Int)} (h : ∀ j, j < T.length → spaB p l (T.getD j []) = true) : T.all (spaB p l) = true := by
  rw [List.all_eq_true]
  intro t ht
  obtain ⟨j, hj, rfl⟩ := List.getElem_of_mem ht
  have := h j hj
  rwa [show T.getD j [] = T[j] by simp [List.getD, List.getElem?_eq_getElem hj]] at this
/-- The specification's way: all lists are trees, and no bar came twice. -/
theorem arp_spec {p k : Int} {l : List (Int × Int)} {T : List (List Int)} (h : ∀ j, j < T.length → spaB p l (T.getD j []) = true) (hn : T.flatten.Nodup) : arpB p k l T = (decide (1 ≤ k ∧ k ≤ 3) && (decide ((T.length : Int) = k) && decide ((T.flatten.length : Int) = (l.length : Int)))) := by
  have e : decide (T.flatten.length = l.length) = decide ((T.flatten.length : Int) = (l.length : Int)) := by
    rw [decide_eq_decide]
    omega
  unfold arpB
  rw [all_spa h, decide_eq_true hn, e, Bool.true_and, Bool.and_true]
/-- No list: an empty one. -/
theorem arp_graph {p k : Int} {l : List (Int × Int)} {T : List (List Int)} (h : isGB p l = false) : arpB p k l T = false := by
  by_cases hk : 1 ≤ k ∧ k ≤ 3
  · by_cases hl : (T.length : Int) = k
    · refine arp_spa (j := 0) (by omega) ?_
      cases hs : spaB p l (T.getD 0 []) with
      | false => rfl
      | true => rw [isGB_yes (spaB_in hs).2] at h; cases h
    · exact arp_len hl
  · exact arp_range (by omega)
theorem flat_in {p : Int} {l : List (Int × Int)} {T : List (List Int)} (h : ∀ j, j < T.length → spaB p l (T.getD j []) = true) : ∀ z ∈ T.flatten, 0 ≤ z ∧ z < (l.length : Int) := by
  intro z hz
  obtain ⟨t, ht, hzt⟩ := List.mem_flatten.1 hz
  obtain ⟨j, hj, rfl⟩ := List.getElem_of_mem ht
  have := (spaB_in (h j hj)).1
  rw [show T.getD j [] = T[j] by simp [List.getD, List.getElem?_eq_getElem hj]] at this
  exact this z hzt
/-- The program's way: all lists are trees, they have as many bars, and all bars are there. -/
theorem arp_impl {p k : Int} {l : List (Int × Int)} {T : List (List Int)} (hk : 1 ≤ k ∧ k ≤ 3) (hl : (T.length : Int) = k) (h : ∀ j, j < T.length → spaB p l (T.getD j []) = true) (hc : T.flatten.length = l.length) (ha : ∀ b : Nat, b < l.length → (b : Int) ∈ T.flatten) : arpB p k l T = true := by
  unfold arpB
  rw [decide_eq_true hk, decide_eq_true hl, all_spa h, decide_eq_true hc, decide_eq_true ((once_all (flat_in h) hc).2 ha)]
  rfl
theorem arp_miss {p k : Int} {l : List (Int × Int)} {T : List (List Int)} (h : ∀ j, j < T.length → spaB p l (T.getD j []) = true) (hc : T.flatten.length = l.length) {b : Nat} (hb : b < l.length) (hm : ∀ j, j < T.length → ¬ (b : Int) ∈ T.getD j []) : arpB p k l T = false := by
  refine arp_twice fun hn => ?_
  have := (once_all (flat_in h) hc).1 hn b hb
  obtain ⟨t, ht, hbt⟩ := List.mem_flatten.1 this
  obtain ⟨j, hj, rfl⟩ := List.getElem_of_mem ht
  refine hm j hj ?_
  rw [show T.getD j [] = T[j] by simp [List.getD, List.getElem?_eq_getElem hj]]
  exact hbt
theorem mem_flat {T : List (List Int)} {j : Nat} (hj : j < T.length) {b : Int} (h : b ∈ T.getD j []) : b ∈ T.flatten := by
  rw [show T.getD j [] = T[j] by simp [List.getD, List.getElem?_eq_getElem hj]] at h
  exact List.mem_flatten.2 ⟨_, List.getElem_mem hj, h⟩
end Go.Proofs.Ytedjhnedkghhoaa
/- Rows of rows of ints: how they are read and compared. No condition. -/
namespace Go.Proofs.Ytedjhnedkghhoaa
open Go.RowKit

/-- The slice at A reads as the rows rs; it and its rows lie in blocks from lo to hi. -/
def RowsIn (W : World) (lo hi : Nat) (A : Option Addr) (rs : List (List Int)) : Prop :=
  hi ≤ W.heap.size ∧ (0 < rs.length → ∃ b off, A = some ⟨b, off, none⟩ ∧ lo ≤ b ∧ b < hi ∧ ∀ k, k < rs.length → ∃ A' c', W.cell? ⟨b, off + k, none⟩ = some (.slice A' (rs.getD k []).length c') ∧ IntsIn W lo hi A' (rs.getD k []))
theorem RowsIn.within {W W' : World} {lo hi lo' hi' : Nat} {A : Option Addr} {rs : List (List Int)} (h : RowsIn W lo hi A rs) (hw : Within lo' hi' W W') (hd : hi ≤ lo' ∨ hi' ≤ lo) : RowsIn W' lo hi A rs :=
  ⟨Nat.le_trans h.1 hw.size, fun hl => by
    obtain ⟨b, off, e, h1, h2, hc⟩ := h.2 hl
    have hk := hw.block b (Nat.lt_of_lt_of_le h2 h.1) (by omega)
    refine ⟨b, off, e, h1, h2, fun k hk' => ?_⟩
    obtain ⟨A', c', h3, h4⟩ := hc k hk'
    exact ⟨A', c', (World.cell?_of_block (a := ⟨b, off + k, none⟩) hk).trans h3, h4.within hw hd⟩⟩

set_option maxHeartbeats 2000000 in
set_option maxRecDepth 100000 in
theorem eqRows_c (rs : List (List Int)) (A A' : Option Addr) (cap cap' lo hi lo' hi' : Nat) (w : World) (hl : RowsIn w lo hi A rs) (hl' : RowsIn w lo' hi' A' rs) (hn : rs.length ≤ 1048576) (hr : ∀ k, k < rs.length → (rs.getD k []).length ≤ 1048576) :
    Calls Try.prog 22 #[.slice A rs.length cap, .slice A' rs.length cap'] w fun e w' => e = .returned (.bool true) ∧ Below w.heap.size w w' := by
  have HL := Lib.hid hl
  have HL' := Lib.hid hl'
  have HR := Lib.hid hr
  clear hl hl' hr
  go_enter Try.func22, Try.ntmps22
  go_wp2_with fail
  go_loopw [5] (fun i wr => ∃ k : Nat, k ≤ rs.length ∧ i = .int .i64 k ∧ Below w.heap.size w wr) (fun i _ => rs.length - (intOf i).toNat)
  case atStart => exact ⟨0, by omega, rfl, Below.refl _ _⟩
  case round =>
    obtain ⟨k, hk, rfl, hb⟩ := hrel
    have HB := Lib.hid hb
    have HQ := Lib.hid (HL.out.within (within_low hb) (.inl HL.out.1))
    have HQ' := Lib.hid (HL'.out.within (within_low hb) (.inl HL'.out.1))
    have HWS := Lib.hid hb.size
    clear hb
    by_cases hlt : k < rs.length
    · have hi : (k : Int) < (rs.length : Int) := by omega
      obtain ⟨b, off, rfl, _, _, hcell⟩ := HQ.out.2 (by omega)
      obtain ⟨b', off', rfl, _, _, hcell'⟩ := HQ'.out.2 (by omega)
      obtain ⟨A1, c1, hc1, hi1⟩ := hcell k hlt
      obtain ⟨A2, c2, hc2, hi2⟩ := hcell' k hlt
      have hz := HR.out k hlt
      clear hcell hcell'
      obtain ⟨zs, hzs⟩ : ∃ zs, rs.getD k [] = zs := ⟨_, rfl⟩
      rw [hzs] at hc1 hc2 hi1 hi2 hz
      clear hzs
      have HI1 := Lib.hid hi1
      have HI2 := Lib.hid hi2
      clear hi1 hi2
      go_wp2_with fail
      refine wp_region_held_drew (S := (fun W' : World => W'.cell? ⟨b, off + k, none⟩ = some (.slice A1 zs.length c1) ∧ W'.cell? ⟨b', off' + k, none⟩ = some (.slice A2 zs.length c2))) (by kernel_rfl) ?_ (fun hHeld => ?_)
      · exact ⟨hc1, hc2⟩
      have HD := Lib.hid (show Below wr.heap.size wr wr.drew from (Below.refl _ _).drew)
      have HDS := Lib.hid HD.out.size
      generalize wr.drew = WD at *
      refine wpAnyH_take (i := 0) (v := .slice (some ⟨b, off, none⟩) rs.length cap) rfl (by kernel_rfl) (by kernel_rfl) (by kernel_rfl) (fun _ _ _ h => h) (Or.inl ⟨by kernel_rfl, fun w hSw => by (try dsimp only at hSw); go_simp; all_goals first | omega | exact IntWalk.i64_in _ (by omega)⟩) (by assumption) ?_
      refine wpAnyH_take (i := 1) (v := .int .i64 (k : Int)) rfl (by kernel_rfl) (by kernel_rfl) (by kernel_rfl) (fun _ _ _ h => h) (Or.inl ⟨by kernel_rfl, fun w hSw => by (try dsimp only at hSw); go_simp; all_goals first | omega | exact IntWalk.i64_in _ (by omega)⟩) (by assumption) ?_
      refine wpAnyH_take (i := 2) (v := .pointer (some ⟨b, off + k, none⟩)) rfl (by kernel_rfl) (by kernel_rfl) (by kernel_rfl) (fun _ _ _ h => h) (Or.inl ⟨by kernel_rfl, fun w hSw => by (try dsimp only at hSw); go_simp; all_goals first | omega | exact IntWalk.i64_in _ (by omega)⟩) (by assumption) ?_
      refine wpAnyH_take (i := 3) (v := .slice A1 zs.length c1) rfl (by kernel_rfl) (by kernel_rfl) (by kernel_rfl) (fun _ _ _ h => h) (Or.inl ⟨by kernel_rfl, fun w hSw => by (try dsimp only at hSw); go_simp; all_goals first | omega | exact IntWalk.i64_in _ (by omega)⟩) (by assumption) ?_
      refine wpAnyH_take (i := 4) (v := .slice (some ⟨b', off', none⟩) rs.length cap') rfl (by kernel_rfl) (by kernel_rfl) (by kernel_rfl) (fun _ _ _ h => h) (Or.inl ⟨by kernel_rfl, fun w hSw => by (try dsimp only at hSw); go_simp; all_goals first | omega | exact IntWalk.i64_in _ (by omega)⟩) (by assumption) ?_
      refine wpAnyH_take (i := 5) (v := .int .i64 (k : Int)) rfl (by kernel_rfl) (by kernel_rfl) (by kernel_rfl) (fun _ _ _ h => h) (Or.inl ⟨by kernel_rfl, fun w hSw => by (try dsimp only at hSw); go_simp; all_goals first | omega | exact IntWalk.i64_in _ (by omega)⟩) (by assumption) ?_
      refine wpAnyH_take (i := 6) (v := .pointer (some ⟨b', off' + k, none⟩)) rfl (by kernel_rfl) (by kernel_rfl) (by kernel_rfl) (fun _ _ _ h => h) (Or.inl ⟨by kernel_rfl, fun w hSw => by (try dsimp only at hSw); go_simp; all_goals first | omega | exact IntWalk.i64_in _ (by omega)⟩) (by assumption) ?_
      refine wpAnyH_take (i := 7) (v := .slice A2 zs.length c2) rfl (by kernel_rfl) (by kernel_rfl) (by kernel_rfl) (fun _ _ _ h => h) (Or.inl ⟨by kernel_rfl, fun w hSw => by (try dsimp only at hSw); go_simp; all_goals first | omega | exact IntWalk.i64_in _ (by omega)⟩) (by assumption) ?_
      refine wpAnyH_ready (rs := [8]) (by kernel_rfl) (by simp) (AllReadyH.cons rfl (fun K hK => ?_) AllReadyH.nil)
      go_simp
      go_at_call 17
      refine (eqInts_c zs A1 A2 c1 c2 _ _ _ _ _ (HI1.out.within (within_of HD.out) (.inr (Nat.zero_le _))) (HI2.out.within (within_of HD.out) (.inr (Nat.zero_le _))) hz).mono ?_
      rintro e w9 ⟨rfl, hb9⟩
      have HB9 := Lib.hid hb9
      refine hK.out _ _ ⟨(World.cell?_of_block (hb9.block b (by have := HQ.out.1; have := HDS.out; omega))).trans hHeld.1, (World.cell?_of_block (hb9.block b' (by have := HQ'.out.1; have := HDS.out; omega))).trans hHeld.2⟩ (fun hHeld => ?_)
      clear hK K hb9
      refine wpAnyH_take (i := 9) (v := .bool false) rfl (by kernel_rfl) (by kernel_rfl) (by kernel_rfl) (fun _ _ _ h => h) (Or.inl ⟨by kernel_rfl, fun w hSw => by (try dsimp only at hSw); go_simp; all_goals first | omega | exact IntWalk.i64_in _ (by omega)⟩) (by assumption) ?_
      refine wpAnyH_done (by kernel_rfl) ?_ _
      go_wp2_with fail
      go_roundw
      case rel => exact ⟨k + 1, by omega, by go_num, below_on HB.out (below_on HD.out HB9.out HDS.out) HWS.out⟩
      case measure => simp [intOf]; omega
    · go_wp2_with fail
      go_ret
      exact ⟨rfl, HB.out⟩
end Go.Proofs.Ytedjhnedkghhoaa
/- A row of ints that is collected: its range is the first one, or new; what else was there stands. No program's walk. No condition. -/
namespace Go.Proofs.Ytedjhnedkghhoaa
open Go.RowKit

structure GrowP (a b : Nat) (V W : World) (ys : List Int) (A : Option Addr) (cap lo hi : Nat) : Prop where
  row : OwnR W lo hi A cap ys
  rng : (lo = a ∧ hi = b) ∨ V.heap.size ≤ lo
  le : lo ≤ W.heap.size
  wi : Within a b V W
theorem GrowP.push {a b : Nat} {V W W' : World} {ys : List Int} {y : Int} {A A' : Option Addr} {cap lo hi c' lo' hi' : Nat} (h : GrowP a b V W ys A cap lo hi) (hr : OwnR W' lo' hi' A' c' (ys ++ [y])) (hd : (lo' = lo ∧ hi' = hi) ∨ (W.heap.size ≤ lo' ∧ lo' ≤ W'.heap.size ∧ hi' ≤ W'.heap.size)) (hw : Within lo hi W W') : GrowP a b V W' (ys ++ [y]) A' c' lo' hi' := by
  obtain ⟨_, h2, h3, h4⟩ := h
  have s1 := h4.size
  have s2 := hw.size
  refine ⟨hr, ?_, ?_, ⟨hw.os.trans h4.os, hw.tape.trans h4.tape, hw.output.trans h4.output, Nat.le_trans s1 s2, fun i hi hd => (hw.block i (by omega) (by omega)).trans (h4.block i hi hd)⟩⟩
  · rcases hd with ⟨rfl, rfl⟩ | hd
    · exact h2
    · exact .inr (by omega)
  · rcases hd with ⟨rfl, rfl⟩ | hd
    · omega
    · exact hd.2.1
theorem GrowP.out {a b : Nat} {V W : World} {ys : List Int} {A : Option Addr} {cap lo hi : Nat} (h : GrowP a b V W ys A cap lo hi) {B : Nat} (h1 : B ≤ a) (h2 : B ≤ V.heap.size) : OwnInts W B W.heap.size A cap ys :=
  h.row.ints.widen (by have := h.rng; omega) h.row.1 (Nat.le_refl _)
end Go.Proofs.Ytedjhnedkghhoaa
/- What spec.ArePackedTrees answers. No condition. -/
namespace Go.Proofs.Ytedjhnedkghhoaa
open Go.RowKit

theorem GrowP.new {a b : Nat} {V W W' : World} {ys : List Int} {A : Option Addr} {cap lo hi : Nat} (h : GrowP a b V W ys A cap lo hi) (hb : Below W.heap.size W W') : GrowP a b V W' ys A cap lo hi :=
  ⟨h.row.within (within_of hb) (.inr (Nat.zero_le _)), h.rng, Nat.le_trans h.le hb.size, ⟨hb.os.trans h.wi.os, hb.tape.trans h.wi.tape, hb.output.trans h.wi.output, Nat.le_trans h.wi.size hb.size, fun i hi hd => (hb.block i (Nat.lt_of_lt_of_le hi h.wi.size)).trans (h.wi.block i hi hd)⟩⟩
set_option maxHeartbeats 8000000 in
set_option maxRecDepth 100000 in
theorem specArp (p k : Int) (l : List (Int × Int)) (T : List (List Int)) (A AT : Option Addr) (cap ct lo hi : Nat) (w : World) (hl : BarsAt w w.heap.size A l) (ht : RowsIn w lo hi AT T) (hn : l.length ≤ 1048576) (hnt : T.length ≤ 1048576) (htot : T.flatten.length ≤ 1048576) :
    Calls Try.prog 27 #[.agg #[.int .i64 p, .slice A l.length cap], .int .i64 k, .slice AT T.length ct] w fun e w' => e = .returned (.bool (arpB p k l T)) ∧ Below w.heap.size w w' := by
  have HROW := Lib.hid (show ∀ j, j < T.length → (T.getD j []).length ≤ 1048576 from fun j hj => by
    have h1 := (flatJ_le T (i := j + 1) (j := T.length) (by omega)).length_le
    rw [flatJ_all, flatJ_succ T j hj, List.length_append] at h1
    omega)
  have HSPA := Lib.hid (show ∀ (zs : List Int) (Z : Option Addr) (cz lo hi : Nat) (W : World), BarsAt W W.heap.size A l → IntsIn W lo hi Z zs → zs.length ≤ 1048576 → Calls Try.prog 18 #[.agg #[.int .i64 p, .slice A l.length cap], .slice Z zs.length cz] W fun e w' => e = .returned (.bool (spaB p l zs)) ∧ Below W.heap.size W w' from fun zs Z cz lo hi W h1 h2 h3 => specSpa p l zs A Z cap cz lo hi W h1 h2 hn h3)
  have W0 := Lib.hid (Below.refl w.heap.size w)
  have HB_0 := Lib.hid (bars_in hl)
  have HT_0 := Lib.hid (ht)
  have hth := ht.1
  clear hl ht
  have Z1 := Lib.hid (within_alloc w (.cells #[.int .i64 p, (.slice A l.length cap)] 30)).size
  have W1 := Lib.hid (within_on W0.out (within_alloc w (.cells #[.int .i64 p, (.slice A l.length cap)] 30)) W0.out.size (.inr (Nat.le_refl _)))
  have HB_1 := Lib.hid (HB_0.out.within (within_alloc w (.cells #[.int .i64 p, (.slice A l.length cap)] 30)) (by omega))
  have HT_1 := Lib.hid (HT_0.out.within (within_alloc w (.cells #[.int .i64 p, (.slice A l.length cap)] 30)) (by omega))
  have Y1 := Lib.hid (show (w.alloc (.cells #[.int .i64 p, (.slice A l.length cap)] 30)).heap.size = w.heap.size + 1 by simp)
  have hnew := box_new w p (.slice A l.length cap) 30
  have BX_1 := Lib.hid hnew
  clear hnew
  have Z2 := Lib.hid (within_alloc (w.alloc (.cells #[.int .i64 p, (.slice A l.length cap)] 30)) (.cells #[] 3)).size
  have W2 := Lib.hid (within_on W1.out (within_alloc (w.alloc (.cells #[.int .i64 p, (.slice A l.length cap)] 30)) (.cells #[] 3)) W1.out.size (.inr (Nat.le_refl _)))
  have HB_2 := Lib.hid (HB_1.out.within (within_alloc (w.alloc (.cells #[.int .i64 p, (.slice A l.length cap)] 30)) (.cells #[] 3)) (by omega))
  have HT_2 := Lib.hid (HT_1.out.within (within_alloc (w.alloc (.cells #[.int .i64 p, (.slice A l.length cap)] 30)) (.cells #[] 3)) (by omega))
  have BX_2 := Lib.hid (BX_1.out.within (within_alloc (w.alloc (.cells #[.int .i64 p, (.slice A l.length cap)] 30)) (.cells #[] 3)) (by omega))
  have Y2 := Lib.hid (show ((w.alloc (.cells #[.int .i64 p, (.slice A l.length cap)] 30)).alloc (.cells #[] 3)).heap.size = (w.alloc (.cells #[.int .i64 p, (.slice A l.length cap)] 30)).heap.size + 1 by simp)
  have hown := ownR_empty (w.alloc (.cells #[.int .i64 p, (.slice A l.length cap)] 30))
  rw [show (w.alloc (.cells #[.int .i64 p, (.slice A l.length cap)] 30)).heap.size = w.heap.size + 1 by simp] at hown
  have OE_2 := Lib.hid hown
  clear hown
  have HSZ := Lib.hid (show ((w.alloc (.cells #[.int .i64 p, (.slice A l.length cap)] 30)).alloc (.cells #[] 3)).heap.size = w.heap.size + 1 + 1 by simp)
  go_enter Try.func27, Try.ntmps27
  obtain ⟨g0_0, g0_1, g0_2⟩ := BX_2.out
  go_wp2_with fail
  clear g0_0 g0_1 g0_2
  generalize ((w.alloc (.cells #[.int .i64 p, (.slice A l.length cap)] 30)).alloc (.cells #[] 3)) = w2 at *
  generalize (w.alloc (.cells #[.int .i64 p, (.slice A l.length cap)] 30)) = w1 at *
  have HG0 := Lib.hid (show GrowP (w.heap.size + 1) (w.heap.size + 1 + 1) w2 w2 (flatJ T 0) (some ⟨w.heap.size + 1, 0, none⟩) 0 (w.heap.size + 1) (w.heap.size + 1 + 1) from ⟨OE_2.out, .inl ⟨rfl, rfl⟩, (by have := HSZ.out; omega), Within.refl _ _ w2⟩)
  have HTOT := Lib.hid htot
  clear htot
  go_loopw [7, 8] (fun u i wr => ∃ j : Nat, j ≤ T.length ∧ i = .int .i64 j ∧ ∃ Ao co lo hi, u = .slice Ao (flatJ T j).length co ∧ (GrowP (w.heap.size + 1) (w.heap.size + 1 + 1) w2 wr (flatJ T j) Ao co lo hi ∧ (flatJ T j).Nodup ∧ ∀ i, i < j → spaB p l (T.getD i []) = true)) (fun _ i _ => T.length - (intOf i).toNat)
  case atStart => exact ⟨0, Nat.zero_le _, rfl, _, 0, _, _, rfl, HG0.out, by rw [flatJ_zero]; exact List.nodup_nil, fun i hi => absurd hi (Nat.not_lt_zero _)⟩
  case round =>
    obtain ⟨j, hj, rfl, Ao, co, lo2, hi2, rfl, hst, hnd, hall⟩ := hrel
    have HG := Lib.hid hst
    have HND := Lib.hid hnd
    have HALL := Lib.hid hall
    have BXW := Lib.hid (BX_2.out.within hst.wi (.inl (Nat.lt_succ_self _)))
    have HBW := Lib.hid (HB_2.out.within hst.wi (.inl (by omega)))
    have HTW := Lib.hid (HT_2.out.within hst.wi (.inl (by omega)))
    have hwsz := hst.wi.size
    have HWS := Lib.hid (show w.heap.size < wr.heap.size by have := HSZ.out; omega)
    have hfl := (flatJ_le T (i := j) (j := T.length) hj).length_le
    rw [flatJ_all] at hfl
    have HFL := Lib.hid (show (flatJ T j).length ≤ 1048576 by have := HTOT.out; omega)
    clear hst hnd hall hwsz hfl
    by_cases hlt : j < T.length
    · have hji : (j : Int) < (T.length : Int) := by omega
      obtain ⟨b0, off, rfl, _, hb0, hcell⟩ := HTW.out.2 (by omega)
      obtain ⟨A1, c1, hc, hi1⟩ := hcell j hlt
      have hz := HROW.out j hlt
      have HSU := Lib.hid (flatJ_succ T j hlt)
      have HIN := Lib.hid (show (T.getD j []) = [] ∨ True from .inr trivial)
      obtain ⟨t, hts⟩ : ∃ t, T.getD j [] = t := ⟨_, rfl⟩
      have HTS := Lib.hid hts
      rw [hts] at hc hi1 hz HSU
      have HI1 := Lib.hid hi1
      have hb0w : b0 < wr.heap.size := Nat.lt_of_lt_of_le hb0 HTW.out.1
      have KK := Lib.hid (fun (W : World) (h : Below wr.heap.size wr W) => (And.intro (BXW.out.kept h).2.1 (And.intro (BXW.out.kept h).2.2 ((h.cell (p := ⟨b0, off + j, none⟩) hb0w).trans hc)) : W.cell? ⟨w.heap.size, 0, none⟩ = some (.int .i64 p) ∧ W.cell? ⟨w.heap.size, 1, none⟩ = some (.slice A l.length cap) ∧ W.cell? ⟨b0, off + j, none⟩ = some (.slice A1 t.length c1)))
      have HCALL := Lib.hid (fun (W : World) (h : Below wr.heap.size wr W) => HSPA.out t A1 c1 lo hi W (HBW.out.within (within_of h) (.inr (Nat.zero_le _))).at (HI1.out.within (within_of h) (.inr (Nat.zero_le _))) hz)
      clear hcell hi1 hts
      cases hs : spaB p l t with
      | false =>
        have HR := Lib.hid (arp_spa (k := k) hlt (by rw [HTS.out]; exact hs))
        rw [hs] at HCALL
        clear hs
        go_wp2_with fail
        have HDR := Lib.hid (show Below wr.heap.size wr wr.drew from (Below.refl _ _).drew)
        go_region_held3 (fun W' => W'.cell? ⟨w.heap.size, 0, none⟩ = some (.int .i64 p) ∧ W'.cell? ⟨w.heap.size, 1, none⟩ = some (.slice A l.length cap) ∧ W'.cell? ⟨b0, off + j, none⟩ = some (.slice A1 t.length c1))
          (first | exact KK.out _ HDR.out | exact KK.out _ HB5.out | fail)
          (first | (go_at_call 18; refine (HCALL.out _ HDR.out).mono ?_; rintro e w5 ⟨rfl, hb⟩; have HB5 := Lib.hid (below_on HDR.out hb HDR.out.size); clear hb) | fail)
        go_wp2_with fail
        go_ret
        exact ⟨by rw [HR.out]; rfl, below_on (within_on W2.out HG.out.wi W2.out.size (.inl (by omega))) HB5.out (Nat.le_of_lt HWS.out)⟩
      | true =>
        have HSP := Lib.hid hs
        rw [hs] at HCALL
        clear hs
        go_wp2_with fail
        have HDR := Lib.hid (show Below wr.heap.size wr wr.drew from (Below.refl _ _).drew)
        go_region_held3 (fun W' => W'.cell? ⟨w.heap.size, 0, none⟩ = some (.int .i64 p) ∧ W'.cell? ⟨w.heap.size, 1, none⟩ = some (.slice A l.length cap) ∧ W'.cell? ⟨b0, off + j, none⟩ = some (.slice A1 t.length c1))
          (first | exact KK.out _ HDR.out | exact KK.out _ HB5.out | fail)
          (first | (go_at_call 18; refine (HCALL.out _ HDR.out).mono ?_; rintro e w5 ⟨rfl, hb⟩; have HB5 := Lib.hid (below_on HDR.out hb HDR.out.size); clear hb) | fail)
        have HG5 := Lib.hid (HG.out.new HB5.out)
        go_wp2_with fail
        have HN0 := Lib.hid (show flatJ T j ++ t.take 0 = flatJ T j by rw [List.take_zero, List.append_nil])
        go_loopw [7, 9] (fun u i wr => ∃ m : Nat, m ≤ t.length ∧ i = .int .i64 m ∧ ∃ Ao co lo hi, u = .slice Ao (flatJ T j ++ t.take m).length co ∧ (GrowP (w.heap.size + 1) (w.heap.size + 1 + 1) w2 wr (flatJ T j ++ t.take m) Ao co lo hi ∧ (flatJ T j ++ t.take m).Nodup)) (fun _ i _ => t.length - (intOf i).toNat)
        case atStart => exact ⟨0, Nat.zero_le _, rfl, Ao, co, lo2, hi2, by rw [HN0.out], by rw [HN0.out]; exact HG5.out, by rw [HN0.out]; exact HND.out⟩
        case round =>
          obtain ⟨m, hm, rfl, A3, c3, lo3, hi3, rfl, hst, hnd⟩ := hrel
          have HGM := Lib.hid hst
          have HNDM := Lib.hid hnd
          have hwsz := hst.wi.size
          have HTM := Lib.hid (HT_2.out.within hst.wi (.inl (by omega)))
          have HWM := Lib.hid (show w.heap.size < wr.heap.size by have := HSZ.out; omega)
          clear hst hnd hwsz
          obtain ⟨b1, off1, eq1, _, hb1, hcell⟩ := HTM.out.2 (by omega)
          obtain ⟨A4, c4, hc4, hi4⟩ := hcell j hlt
          rw [HTS.out] at hc4 hi4
          injection eq1 with eq1
          injection eq1 with eqb eqo
          subst eqb eqo
          have HI4 := Lib.hid hi4
          clear hcell hi4
          have HFM := Lib.hid (show (flatJ T j ++ t.take m).length ≤ 1048576 by
            have h1 := (flatJ_le T (i := j + 1) (j := T.length) (by omega)).length_le
            rw [flatJ_all, HSU.out, List.length_append] at h1
            have := HTOT.out
            rw [List.length_append, List.length_take]
            omega)
          have HSUB := Lib.hid (show (flatJ T j ++ t.take m).Sublist T.flatten by
            have h1 := (flatJ_le T (i := j + 1) (j := T.length) (by omega))
            rw [flatJ_all, HSU.out] at h1
            exact ((List.Sublist.refl _).append (List.take_sublist _ _)).trans h1)
          by_cases hmt : m < t.length
          · have hmi : (m : Int) < (t.length : Int) := by omega
            obtain ⟨bz, oz, rfl, _, hbz, hzc⟩ := HI4.out.2 (by omega)
            have hzm := hzc m hmt
            have HTK := Lib.hid (take_getD t 0 m hmt)
            have HS1 := Lib.hid (show (flatJ T j ++ t.take (m + 1)).Sublist T.flatten by
              have h1 := (flatJ_le T (i := j + 1) (j := T.length) (by omega))
              rw [flatJ_all, HSU.out] at h1
              exact ((List.Sublist.refl _).append (List.take_sublist _ _)).trans h1)
            obtain ⟨x, hx⟩ : ∃ x, t.getD m 0 = x := ⟨_, rfl⟩
            rw [hx] at hzm HTK
            clear hzc hx
            have hX : flatJ T j ++ t.take (m + 1) = (flatJ T j ++ t.take m) ++ [x] := by rw [HTK.out, List.append_assoc]
            obtain ⟨ys, hys⟩ : ∃ ys, flatJ T j ++ t.take m = ys := ⟨_, rfl⟩
            rw [hys] at hX HGM HNDM HFM HSUB ⊢
            have HX := Lib.hid hX
            clear hX hys
            by_cases hmem : x ∈ ys
            · have HM := Lib.hid (decide_eq_true hmem)
              have HR := Lib.hid (show arpB p k l T = false from arp_twice fun hnn => by
                have h4 := hnn.sublist HS1.out
                rw [HX.out, List.nodup_append] at h4
                exact h4.2.2 x hmem x (by simp) rfl)
              clear hmem
              go_wp2_with (go_at_call 97; refine (has_c ys x A3 c3 _ _ _ HGM.out.row.ints.reads HFM.out).mono ?_; rintro e w9 ⟨rfl, rfl⟩; rw [HM.out])
              go_ret
              exact ⟨by rw [HR.out]; rfl, within_on W2.out HGM.out.wi W2.out.size (.inl (by omega))⟩
            · have HM := Lib.hid (decide_eq_false hmem)
              have HNN := Lib.hid (show (flatJ T j ++ t.take (m + 1)).Nodup by
                rw [HX.out, List.nodup_append]
                refine ⟨HNDM.out, by simp, fun a ha b hb => ?_⟩
                rw [List.mem_singleton] at hb
                subst hb
                intro e
                subst e
                exact hmem ha)
              clear hmem
              go_wp2_with (first
                | (at_builtin; refine wpList_pushR _ rfl _ _ rfl lo3 hi3 A3 c3 ys x rfl HGM.out.row _ (by first | rfl | (simp only [World.size_setCell]; rfl)) HFM.out HGM.out.le ?_; intro A6 c6 w16 lo6 hi6 hr6 hor6 hw6; have HG6 := Lib.hid (HGM.out.push hr6 hor6 hw6); clear hr6 hor6 hw6)
                | (go_at_call 97; refine (has_c ys x A3 c3 _ _ _ HGM.out.row.ints.reads HFM.out).mono ?_; rintro e w9 ⟨rfl, rfl⟩; rw [HM.out]))
              go_roundw
              case rel => exact ⟨m + 1, by omega, by go_num, A6, c6, lo6, hi6, by rw [HX.out, List.length_append]; rfl, by rw [HX.out]; exact HG6.out, HNN.out⟩
              case measure => simp [intOf]; omega
          · obtain rfl : m = t.length := by omega
            have HTE := Lib.hid (show flatJ T j ++ t.take t.length = flatJ T (j + 1) by rw [List.take_length, HSU.out])
            rw [HTE.out] at HGM HNDM ⊢
            go_wp2_with fail
            go_roundw
            case rel => exact ⟨j + 1, by omega, by go_num, A3, c3, lo3, hi3, rfl, HGM.out, HNDM.out, fun i hi' => by
              by_cases e : i = j
              · rw [e, HTS.out]; exact HSP.out
              · exact HALL.out i (by omega)⟩
            case measure => simp [intOf]; omega
    · obtain rfl : j = T.length := by omega
      have HEND := Lib.hid (arp_spec (k := k) HALL.out (by have := HND.out; rw [flatJ_all] at this; exact this))
      have HGR := Lib.hid (fun h : isGB p l = false => arp_graph (k := k) (T := T) h)
      have HISG := Lib.hid (specIsGraph' p l A cap wr HBW.out.at hn)
      have hfa : (flatJ T T.length).length = T.flatten.length := by rw [flatJ_all]
      rw [hfa]
      clear hlt hj
      obtain ⟨g0, g1, g2⟩ := BXW.out
      cases hg : isGB p l with
      | false =>
        have HR := Lib.hid (HGR.out hg)
        rw [hg] at HISG
        clear hg
        go_wp2_with fail
        refine HISG.out.mono ?_
        rintro e w5 ⟨rfl, hb⟩
        have HB5 := Lib.hid hb
        clear hb
        go_wp2_with fail
        go_ret
        exact ⟨by rw [HR.out]; rfl, below_on (within_on W2.out HG.out.wi W2.out.size (.inl (by omega))) HB5.out (Nat.le_of_lt HWS.out)⟩
      | true =>
        rw [hg] at HISG
        clear hg
        by_cases hk : 1 ≤ k ∧ k ≤ 3
        · by_cases hl' : (T.length : Int) = k
          · have HR := Lib.hid (show arpB p k l T = decide ((T.flatten.length : Int) = (l.length : Int)) by rw [HEND.out, decide_eq_true hk, decide_eq_true hl']; rfl)
            have he : ((T.length : Int) == k) = true := by simpa using hl'
            clear hl'
            generalize T.flatten.length = fl at *
            go_wp2_with fail
            refine HISG.out.mono ?_
            rintro e w5 ⟨rfl, hb⟩
            obtain ⟨q0, q1, q2⟩ := BXW.out.kept hb
            have HB5 := Lib.hid hb
            clear hb g0 g1 g2
            go_wp2_with fail
            refine (l1In_yes k 1 3 _ hk.1 hk.2).mono ?_
            rintro e w9 ⟨rfl, rfl⟩
            go_wp2_with fail
            go_ret
            exact ⟨by rw [HR.out]; first | rfl | simp, below_on (within_on W2.out HG.out.wi W2.out.size (.inl (by omega))) HB5.out (Nat.le_of_lt HWS.out)⟩
          · have HR := Lib.hid (arp_len (p := p) (l := l) hl')
            have he : ((T.length : Int) == k) = false := by simpa using hl'
            clear hl'
            go_wp2_with fail
            refine HISG.out.mono ?_
            rintro e w5 ⟨rfl, hb⟩
            obtain ⟨q0, q1, q2⟩ := BXW.out.kept hb
            have HB5 := Lib.hid hb
            clear hb g0 g1 g2
            go_wp2_with fail
            refine (l1In_yes k 1 3 _ hk.1 hk.2).mono ?_
            rintro e w9 ⟨rfl, rfl⟩
            go_wp2_with fail
            go_ret
            exact ⟨by rw [HR.out]; first | rfl | simp, below_on (within_on W2.out HG.out.wi W2.out.size (.inl (by omega))) HB5.out (Nat.le_of_lt HWS.out)⟩
        · have hk' : k < 1 ∨ 3 < k := by omega
          have HR := Lib.hid (arp_range (p := p) (l := l) (T := T) hk')
          go_wp2_with fail
          refine HISG.out.mono ?_
          rintro e w5 ⟨rfl, hb⟩
          have HB5 := Lib.hid hb
          clear hb
          go_wp2_with fail
          refine (l1In_no k 1 3 _ hk').mono ?_
          rintro e w9 ⟨rfl, rfl⟩
          go_wp2_with fail
          go_ret
          exact ⟨by rw [HR.out]; rfl, below_on (within_on W2.out HG.out.wi W2.out.size (.inl (by omega))) HB5.out (Nat.le_of_lt HWS.out)⟩
end Go.Proofs.Ytedjhnedkghhoaa
/- What slices.Contains answers on a row of ints. No condition. -/
namespace Go.Proofs.Ytedjhnedkghhoaa
open Go.RowKit

set_option maxHeartbeats 2000000 in
set_option maxRecDepth 100000 in
theorem slIndex (zs : List Int) (x : Int) (A : Option Addr) (cap lo hi : Nat) (w : World) (hl : IntsIn w lo hi A zs) (hn : zs.length ≤ 1048576) :
    Calls Try.prog 149 #[.slice A zs.length cap, .int .i64 x] w fun e w' => (∃ r : Int, e = .returned (.int .i64 r) ∧ (0 ≤ r ↔ x ∈ zs)) ∧ w = w' := by
  have HL := Lib.hid hl
  clear hl
  go_enter Try.func149, Try.ntmps149
  go_wp2_with fail
  go_loop [8] (fun i => ∃ k : Nat, k ≤ zs.length ∧ i = .int .i64 k ∧ ∀ j, j < k → zs.getD j 0 ≠ x) (fun i => zs.length - (intOf i).toNat)
  case atStart => exact ⟨0, by omega, rfl, fun j hj => absurd hj (by omega)⟩
  case round =>
    obtain ⟨k, hk, rfl, hall⟩ := hrel
    have HALL := Lib.hid hall
    clear hall
    by_cases hlt : k < zs.length
    · have hi : (k : Int) < (zs.length : Int) := by omega
      obtain ⟨b, off, rfl, _, _, hcell⟩ := HL.out.2 (by omega)
      have hc := hcell k hlt
      clear hcell
      have HM := Lib.hid (show zs.getD k 0 ∈ zs by
        have : zs.getD k 0 = zs[k] := by simp [List.getD, List.getElem?_eq_getElem hlt]
        rw [this]; exact List.getElem_mem hlt)
      obtain ⟨y, hy⟩ : ∃ y, zs.getD k 0 = y := ⟨_, rfl⟩
      rw [hy] at hc HM
      by_cases he : y = x
      · have he' : (x == y) = true := by simpa using he.symm
        have HD := Lib.hid (show (0 : Int) ≤ (k : Int) ↔ x ∈ zs from ⟨fun _ => by rw [← he]; exact HM.out, fun _ => by omega⟩)
        clear he hy
        go_wp2_with fail
        go_ret
        exact ⟨⟨_, rfl, HD.out⟩, rfl⟩
      · have he' : (x == y) = false := by simpa using fun e => he e.symm
        have HS := Lib.hid (show ∀ j, j < k + 1 → zs.getD j 0 ≠ x from fun j hj => by
          by_cases e : j = k
          · subst e; rw [hy]; exact he
          · exact HALL.out j (by omega))
        clear he hy
        go_wp2_with fail
        go_round
        case rel => exact ⟨k + 1, by omega, by go_num, HS.out⟩
        case measure => simp [intOf]; omega
    · obtain rfl : k = zs.length := by omega
      have HD := Lib.hid (show (0 : Int) ≤ -1 ↔ x ∈ zs by
        refine ⟨fun h => absurd h (by omega), fun hm => False.elim ?_⟩
        obtain ⟨i, hi, e⟩ := List.getElem_of_mem hm
        refine HALL.out i hi ?_
        simpa [List.getD, List.getElem?_eq_getElem hi] using e)
      go_wp2_with fail
      go_ret
      exact ⟨⟨_, rfl, HD.out⟩, rfl⟩

set_option maxHeartbeats 2000000 in
set_option maxRecDepth 100000 in
theorem slContains (zs : List Int) (x : Int) (A : Option Addr) (cap lo hi : Nat) (w : World) (hl : IntsIn w lo hi A zs) (hn : zs.length ≤ 1048576) :
    Calls Try.prog 98 #[.slice A zs.length cap, .int .i64 x] w fun e w' => e = .returned (.bool (decide (x ∈ zs))) ∧ w = w' := by
  have HL := Lib.hid hl
  clear hl
  by_cases hm : x ∈ zs
  · rw [decide_eq_true hm]
    have HM := Lib.hid hm
    clear hm
    go_enter Try.func98, Try.ntmps98
    go_wp2_with fail
    refine (slIndex zs x A cap lo hi _ HL.out hn).mono ?_
    rintro e w1 ⟨⟨r, rfl, hr⟩, rfl⟩
    have hr0 : 0 ≤ r := hr.2 HM.out
    clear hr
    go_wp2_with fail
    go_ret
    exact ⟨by first | rfl | simp [hr0], rfl⟩
  · rw [decide_eq_false hm]
    have HM := Lib.hid hm
    clear hm
    go_enter Try.func98, Try.ntmps98
    go_wp2_with fail
    refine (slIndex zs x A cap lo hi _ HL.out hn).mono ?_
    rintro e w1 ⟨⟨r, rfl, hr⟩, rfl⟩
    have hr0 : ¬ 0 ≤ r := fun h => HM.out (hr.1 h)
    have hr1 : r < 0 := by omega
    clear hr
    go_wp2_with fail
    go_ret
    exact ⟨by first | rfl | simp [hr0] | simp [hr1], rfl⟩
end Go.Proofs.Ytedjhnedkghhoaa
/- What impl.ArePackedTrees answers. No condition. -/
namespace Go.Proofs.Ytedjhnedkghhoaa
open Go.RowKit

set_option maxHeartbeats 8000000 in
set_option maxRecDepth 100000 in
theorem implArp (p k : Int) (l : List (Int × Int)) (T : List (List Int)) (A AT : Option Addr) (cap ct lo hi : Nat) (w : World) (hl : BarsAt w w.heap.size A l) (ht : RowsIn w lo hi AT T) (hn : l.length ≤ 1048576) (hnt : T.length ≤ 1048576) (htot : T.flatten.length ≤ 1048576) :
    Calls Try.prog 29 #[.agg #[.int .i64 p, .slice A l.length cap], .int .i64 k, .slice AT T.length ct] w fun e w' => e = .returned (.bool (arpB p k l T)) ∧ Below w.heap.size w w' := by
  have HROW := Lib.hid (show ∀ j, j < T.length → (T.getD j []).length ≤ 1048576 from fun j hj => by
    have h1 := (flatJ_le T (i := j + 1) (j := T.length) (by omega)).length_le
    rw [flatJ_all, flatJ_succ T j hj, List.length_append] at h1
    omega)
  have HSPA := Lib.hid (show ∀ (zs : List Int) (Z : Option Addr) (cz lo hi : Nat) (W : World), BarsAt W W.heap.size A l → IntsIn W lo hi Z zs → zs.length ≤ 1048576 → Calls Try.prog 19 #[.agg #[.int .i64 p, .slice A l.length cap], .slice Z zs.length cz] W fun e w' => e = .returned (.bool (spaB p l zs)) ∧ Below W.heap.size W w' from fun zs Z cz lo hi W h1 h2 h3 => implSpa p l zs A Z cap cz lo hi W h1 h2 hn h3)
  have HTOT := Lib.hid htot
  clear htot
  have W0 := Lib.hid (Below.refl w.heap.size w)
  have HB_0 := Lib.hid (bars_in hl)
  have HT_0 := Lib.hid (ht)
  have hth := ht.1
  clear hl ht
  have Z1 := Lib.hid (within_alloc w (.cells #[.int .i64 p, (.slice A l.length cap)] 30)).size
  have W1 := Lib.hid (within_on W0.out (within_alloc w (.cells #[.int .i64 p, (.slice A l.length cap)] 30)) W0.out.size (.inr (Nat.le_refl _)))
  have HB_1 := Lib.hid (HB_0.out.within (within_alloc w (.cells #[.int .i64 p, (.slice A l.length cap)] 30)) (by omega))
  have HT_1 := Lib.hid (HT_0.out.within (within_alloc w (.cells #[.int .i64 p, (.slice A l.length cap)] 30)) (by omega))
  have Y1 := Lib.hid (show (w.alloc (.cells #[.int .i64 p, (.slice A l.length cap)] 30)).heap.size = w.heap.size + 1 by simp)
  have hnew := box_new w p (.slice A l.length cap) 30
  have BX_1 := Lib.hid hnew
  clear hnew
  by_cases hk1 : k < 1
  · have HR := Lib.hid (arp_range (p := p) (l := l) (T := T) (.inl hk1))
    have hd1 : decide (k < 1) = true := decide_eq_true hk1
    go_enter Try.func29, Try.ntmps29
    obtain ⟨g0_0, g0_1, g0_2⟩ := BX_1.out
    go_wp2_with fail
    go_step3
    go_wp2_with fail
    clear g0_0 g0_1 g0_2
    generalize (w.alloc (.cells #[.int .i64 p, (.slice A l.length cap)] 30)) = w1 at *
    try rw [Exit.noGoto_ret]
    try rw [Exit.noGoto_ret]
    go_ret
    exact ⟨by rw [HR.out]; rfl, W1.out⟩
  have hd1 : decide (k < 1) = false := decide_eq_false hk1
  by_cases hk3 : 3 < k
  · have HR := Lib.hid (arp_range (p := p) (l := l) (T := T) (.inr hk3))
    have hd3 : decide (3 < k) = true := decide_eq_true hk3
    go_enter Try.func29, Try.ntmps29
    obtain ⟨g0_0, g0_1, g0_2⟩ := BX_1.out
    go_wp2_with fail
    go_step3
    go_wp2_with fail
    clear g0_0 g0_1 g0_2
    generalize (w.alloc (.cells #[.int .i64 p, (.slice A l.length cap)] 30)) = w1 at *
    try rw [Exit.noGoto_ret]
    try rw [Exit.noGoto_ret]
    go_ret
    exact ⟨by rw [HR.out]; rfl, W1.out⟩
  have hd3 : decide (3 < k) = false := decide_eq_false hk3
  by_cases hkl : (T.length : Int) = k
  case neg =>
    have HR := Lib.hid (arp_len (p := p) (l := l) hkl)
    have hke : ((T.length : Int) == k) = false := by simpa using hkl
    have hkn : ((T.length : Int) != k) = true := by simpa using hkl
    clear hkl
    go_enter Try.func29, Try.ntmps29
    obtain ⟨g0_0, g0_1, g0_2⟩ := BX_1.out
    go_wp2_with fail
    go_step3
    go_wp2_with fail
    clear g0_0 g0_1 g0_2
    generalize (w.alloc (.cells #[.int .i64 p, (.slice A l.length cap)] 30)) = w1 at *
    try rw [Exit.noGoto_ret]
    try rw [Exit.noGoto_ret]
    go_ret
    exact ⟨by rw [HR.out]; rfl, W1.out⟩
  have HK := Lib.hid (And.intro (show 1 ≤ k ∧ k ≤ 3 by omega) hkl)
  have hkn : ((T.length : Int) != k) = false := by simpa using hkl
  clear hkl
  go_enter Try.func29, Try.ntmps29
  obtain ⟨g0_0, g0_1, g0_2⟩ := BX_1.out
  go_wp2_with fail
  go_step3
  go_wp2_with fail
  clear g0_0 g0_1 g0_2
  generalize (w.alloc (.cells #[.int .i64 p, (.slice A l.length cap)] 30)) = w1 at *
  clear hkn
  go_loopw [7, 30] (fun u i wr => ∃ j : Nat, j ≤ T.length ∧ i = .int .i64 j ∧ u = .int .i64 ((l.length : Int) - ((flatJ T j).length : Int)) ∧ Below w1.heap.size w1 wr ∧ ∀ i, i < j → spaB p l (T.getD i []) = true) (fun _ i _ => T.length - (intOf i).toNat)
  case atStart => exact ⟨0, Nat.zero_le _, rfl, by simp [flatJ_zero], Below.refl _ _, fun i hi => absurd hi (Nat.not_lt_zero _)⟩
  case round =>
    obtain ⟨j, hj, rfl, rfl, hb, hall⟩ := hrel
    have HB := Lib.hid hb
    have HALL := Lib.hid hall
    have BXW := Lib.hid (BX_1.out.kept hb)
    have HBW := Lib.hid (HB_1.out.within (within_of hb) (.inr (Nat.zero_le _)))
    have HTW := Lib.hid (HT_1.out.within (within_of hb) (.inr (Nat.zero_le _)))
    have hfl := (flatJ_le T (i := j) (j := T.length) hj).length_le
    rw [flatJ_all] at hfl
    have HFL := Lib.hid (show (flatJ T j).length ≤ 1048576 by have := HTOT.out; omega)
    clear hb hall hfl
    by_cases hlt : j < T.length
    · have hji : (j : Int) < (T.length : Int) := by omega
      obtain ⟨b0, off, rfl, _, hb0, hcell⟩ := HTW.out.2 (by omega)
      obtain ⟨A1, c1, hc, hi1⟩ := hcell j hlt
      have hz := HROW.out j hlt
      have HSU := Lib.hid (flatJ_succ T j hlt)
      obtain ⟨t, hts⟩ : ∃ t, T.getD j [] = t := ⟨_, rfl⟩
      have HTS := Lib.hid hts
      rw [hts] at hc hi1 hz HSU
      have HI1 := Lib.hid hi1
      have HCALL := Lib.hid (HSPA.out t A1 c1 lo hi wr HBW.out.at HI1.out hz)
      have HLN := Lib.hid (show (flatJ T (j + 1)).length = (flatJ T j).length + t.length by rw [HSU.out, List.length_append])
      obtain ⟨g0, g1, g2⟩ := BXW.out
      have hfl := HFL.out
      clear hcell hi1 hts
      cases hs : spaB p l t with
      | false =>
        have HR := Lib.hid (arp_spa (k := k) hlt (by rw [HTS.out]; exact hs))
        rw [hs] at HCALL
        clear hs
        go_wp2_with fail
        refine HCALL.out.mono ?_
        rintro e w5 ⟨rfl, hb⟩
        have HB5 := Lib.hid (below_on HB.out hb HB.out.size)
        clear hb
        go_wp2_with fail
        try rw [Exit.noGoto_ret]
        go_ret
        exact ⟨by rw [HR.out]; rfl, below_on W1.out HB5.out W1.out.size⟩
      | true =>
        have HSP := Lib.hid hs
        rw [hs] at HCALL
        clear hs
        generalize (flatJ T j).length = fl at *
        go_wp2_with fail
        refine HCALL.out.mono ?_
        rintro e w5 ⟨rfl, hb⟩
        have HB5 := Lib.hid (below_on HB.out hb HB.out.size)
        clear hb
        go_wp2_with fail
        go_roundw
        case rel => exact ⟨j + 1, by omega, by go_num, by rw [HLN.out]; go_num, HB5.out, fun i hi' => by
          by_cases e : i = j
          · rw [e, HTS.out]; exact HSP.out
          · exact HALL.out i (by omega)⟩
        case measure => simp [intOf]; omega
    · obtain rfl : j = T.length := by omega
      have HFE := Lib.hid (show (flatJ T T.length).length = T.flatten.length by rw [flatJ_all])
      obtain ⟨g0, g1, g2⟩ := BXW.out
      have hfl := HFL.out
      rw [HFE.out] at hfl ⊢
      by_cases hc : T.flatten.length = l.length
      case neg =>
        have HR := Lib.hid (arp_count (p := p) (k := k) hc)
        have hne : ((l.length : Int) - (T.flatten.length : Int) != 0) = true := by rw [bne_iff_ne]; omega
        generalize T.flatten.length = fl at *
        go_wp2_with fail
        try rw [Exit.noGoto_ret]
        go_ret
        exact ⟨by rw [HR.out]; rfl, below_on W1.out HB.out W1.out.size⟩
      have HC := Lib.hid hc
      rw [hc, Int.sub_self]
      clear hc hfl
      go_wp2_with fail
      go_step3
      go_wp2_with fail
      clear g0 g1 g2
      go_loopw [48] (fun i wr => ∃ b : Nat, b ≤ l.length ∧ i = .int .i64 b ∧ Below w1.heap.size w1 wr ∧ ∀ c : Nat, c < b → (c : Int) ∈ T.flatten) (fun i _ => l.length - (intOf i).toNat)
      case atStart => exact ⟨0, Nat.zero_le _, rfl, HB.out, fun c hc => absurd hc (Nat.not_lt_zero _)⟩
      case round =>
        obtain ⟨b, hb', rfl, hb, hin⟩ := hrel
        have HB2 := Lib.hid hb
        have HIN := Lib.hid hin
        obtain ⟨wq, rfl⟩ : ∃ x, x = wr := ⟨wr, rfl⟩
        clear hb hin
        by_cases hlb : b < l.length
        · have hbi : (b : Int) < (l.length : Int) := by omega
          go_wp2_with fail
          go_loopw [53] (fun i wr => ∃ m : Nat, m ≤ T.length ∧ i = .int .i64 m ∧ Below w1.heap.size w1 wr ∧ ∀ c : Nat, c < m → ¬ (b : Int) ∈ T.getD c []) (fun i _ => T.length - (intOf i).toNat)
          case atStart => exact ⟨0, Nat.zero_le _, rfl, HB2.out, fun c hc => absurd hc (Nat.not_lt_zero _)⟩
          case round =>
            obtain ⟨m, hm, rfl, hb, hno⟩ := hrel
            have HB3 := Lib.hid hb
            have HNO := Lib.hid hno
            have HTM := Lib.hid (HT_1.out.within (within_of hb) (.inr (Nat.zero_le _)))
            clear hb hno
            by_cases hmt : m < T.length
            · have hmi : (m : Int) < (T.length : Int) := by omega
              obtain ⟨b0, off, rfl, _, hb0, hcell⟩ := HTM.out.2 (by omega)
              obtain ⟨A1, c1, hc, hi1⟩ := hcell m hmt
              have hz := HROW.out m hmt
              obtain ⟨t, hts⟩ : ∃ t, T.getD m [] = t := ⟨_, rfl⟩
              have HTS := Lib.hid hts
              rw [hts] at hc hi1 hz
              have HI1 := Lib.hid hi1
              clear hcell hi1 hts
              by_cases hmem : (b : Int) ∈ t
              · have HM := Lib.hid (decide_eq_true hmem)
                have HNX := Lib.hid (show (b : Int) ∈ T.flatten from mem_flat hmt (by rw [HTS.out]; exact hmem))
                clear hmem
                go_wp2_with fail
                refine (slContains t (b : Int) A1 c1 _ _ _ HI1.out hz).mono ?_
                rintro e w9 ⟨rfl, rfl⟩
                rw [HM.out]
                go_wp2_with fail
                go_roundw
                case rel => exact ⟨b + 1, by omega, by go_num, HB3.out, fun c hc => by
                  by_cases e : c = b
                  · rw [e]; exact HNX.out
                  · exact HIN.out c (by omega)⟩
                case measure => simp [intOf]; omega
              · have HM := Lib.hid (decide_eq_false hmem)
                have HNX := Lib.hid (show ¬ (b : Int) ∈ T.getD m [] by rw [HTS.out]; exact hmem)
                clear hmem
                go_wp2_with fail
                refine (slContains t (b : Int) A1 c1 _ _ _ HI1.out hz).mono ?_
                rintro e w9 ⟨rfl, rfl⟩
                rw [HM.out]
                go_wp2_with fail
                go_roundw
                case rel => exact ⟨m + 1, by omega, by go_num, HB3.out, fun c hc => by
                  by_cases e : c = m
                  · rw [e]; exact HNX.out
                  · exact HNO.out c (by omega)⟩
                case measure => simp [intOf]; omega
            · obtain rfl : m = T.length := by omega
              have HR := Lib.hid (arp_miss (k := k) HALL.out HC.out hlb HNO.out)
              go_wp2_with fail
              try rw [Exit.noGoto_ret]
              go_ret
              exact ⟨by rw [HR.out]; rfl, below_on W1.out HB3.out W1.out.size⟩
        · obtain rfl : b = l.length := by omega
          have HR := Lib.hid (arp_impl HK.out.1 HK.out.2 HALL.out HC.out HIN.out)
          go_wp2_with fail
          try rw [Exit.noGoto_ret]
          go_ret
          exact ⟨by rw [HR.out]; rfl, below_on W1.out HB2.out W1.out.size⟩
end Go.Proofs.Ytedjhnedkghhoaa
/- Rows of rows of ints that a law is handed: opened, measured, copied and compared (laws.szIntS, szIntSS, toIntS, toIntSS, eqIntS, eqIntSS). No condition. -/
namespace Go.Proofs.Ytedjhnedkghhoaa
open Go.RowKit Go.Joins Go.ChangeShapes Go.WideShapes Go.Deep

/-- The slice at A reads as the ints zs, in a block from lo to hi. -/
def IntsD (W : World) (lo hi : Nat) (A : Option Addr) (zs : List Int) : Prop :=
  hi ≤ W.heap.size ∧ (0 < zs.length → ∃ b off, A = some ⟨b, off, none⟩ ∧ lo ≤ b ∧ b < hi ∧ ∀ k, k < zs.length → W.cell? ⟨b, off + k, none⟩ = some (.int .i64 (zs.getD k 0)))
theorem IntsD.kept {W W' : World} {lo hi : Nat} {A : Option Addr} {zs : List Int} (h : IntsD W lo hi A zs) (hs : W.heap.size ≤ W'.heap.size) (hk : ∀ b, lo ≤ b → b < hi → W'.heap[b]? = W.heap[b]?) : IntsD W' lo hi A zs :=
  ⟨Nat.le_trans h.1 hs, fun hl => by
    obtain ⟨b, off, e, h1, h2, hc⟩ := h.2 hl
    exact ⟨b, off, e, h1, h2, fun k hk' => (World.cell?_of_block (a := ⟨b, off + k, none⟩) (hk b h1 h2)).trans (hc k hk')⟩⟩
theorem IntsD.below {W W' : World} {lo hi : Nat} {A : Option Addr} {zs : List Int} (h : IntsD W lo hi A zs) (hb : Below W.heap.size W W') : IntsD W' lo hi A zs :=
  h.kept hb.size fun b _ h2 => hb.block b (Nat.lt_of_lt_of_le h2 h.1)
theorem IntsD.widen {W : World} {lo hi lo' hi' : Nat} {A : Option Addr} {zs : List Int} (h : IntsD W lo hi A zs) (h1 : lo' ≤ lo) (h2 : hi ≤ hi') (h3 : hi' ≤ W.heap.size) : IntsD W lo' hi' A zs :=
  ⟨h3, fun hl => by
    obtain ⟨b, off, e, q1, q2, hc⟩ := h.2 hl
    exact ⟨b, off, e, by omega, by omega, hc⟩⟩
def intCellsD (zs : List Int) : List Value := zs.map (Value.int .i64)
theorem intCellsD_get (zs : List Int) (k : Nat) (h : k < zs.length) : (intCellsD zs)[k]? = some (.int .i64 (zs.getD k 0)) := by
  simp [intCellsD, List.getD, List.getElem?_eq_getElem h]
theorem infoIntD : (Try.prog.info? 3).map (fun i => (i.zero, i.size, i.bytes)) = some (some (.int .i64 0), 1, 8) := by kernel_rfl
theorem own_intsD {w' : World} {base g cap : Nat} {zs : List Int} (h : w'.ownsRow base 3 1 (.slice (some ⟨g, 0, none⟩) zs.length cap) zs.length (intCellsD zs)) : IntsD w' base w'.heap.size (some ⟨g, 0, none⟩) zs :=
  ⟨Nat.le_refl _, fun _ => ⟨g, 0, rfl, (h.lt g rfl).1, (h.lt g rfl).2, fun k hk => by
    rw [Nat.zero_add]
    exact (h.cellAt k (by omega)).trans (intCellsD_get zs k hk)⟩⟩

theorem intsOfD_zero (n : Nat) : List.replicate n (Value.int .i64 0) = intCellsD (List.replicate n 0) := by simp [intCellsD]
theorem intsD_step (zs : List Int) (k : Nat) (h : k < zs.length) : (intCellsD (zs.take k ++ List.replicate (zs.length - k) 0)).set k (.int .i64 (zs.getD k 0)) = intCellsD (zs.take (k + 1) ++ List.replicate (zs.length - (k + 1)) 0) := by
  unfold intCellsD
  rw [← List.map_set]
  congr 1
  have hl0 : (zs.take k).length = k := by simp; omega
  obtain ⟨r, hr⟩ : ∃ r, zs.length - k = r + 1 := ⟨zs.length - k - 1, by omega⟩
  rw [List.set_append_right _ _ (by omega), hl0, Nat.sub_self, hr, List.replicate_succ, List.set_cons_zero, List.take_succ_eq_append_getElem h, show zs.length - (k + 1) = r by omega, List.append_assoc]
  simp [List.getD, List.getElem?_eq_getElem h]

set_option maxHeartbeats 1000000 in
set_option maxRecDepth 100000 in
theorem toIntsD_c (zs : List Int) (A : Option Addr) (cap lo hi : Nat) (w : World) (hl : IntsD w lo hi A zs) (hn : zs.length ≤ 1048576) :
    Calls Try.prog 14 #[.slice A zs.length cap] w fun e w' => ∃ g, e = .returned (.slice (some ⟨g, 0, none⟩) zs.length zs.length) ∧ w'.ownsRow w.heap.size 3 1 (.slice (some ⟨g, 0, none⟩) zs.length zs.length) zs.length (intCellsD zs) ∧ Below w.heap.size w w' := by
  have HL := Lib.hid hl
  clear hl
  go_enter Try.func14, Try.ntmps14
  go_wp2_with (at_make; refine wpList_mkn _ rfl _ _ 25 rfl w.heap.size 3 (.int .i64 0) 8 Try.underlying25 infoIntD rfl _ _ _ _ zs.length rfl rfl rfl rfl (by omega) (by unfold maxLen; omega) (Nat.le_refl _) ?_; intro w0 hown0 hb0)
  go_loopw [4] (fun i wr => ∃ k : Nat, k ≤ zs.length ∧ i = .int .i64 k ∧ wr.ownsRow w.heap.size 3 1 (.slice (some ⟨w.heap.size, 0, none⟩) zs.length zs.length) zs.length (intCellsD (zs.take k ++ List.replicate (zs.length - k) 0)) ∧ Below w.heap.size w wr) (fun i _ => zs.length - (intOf i).toNat)
  case atStart => exact ⟨0, by omega, rfl, by rw [intsOfD_zero] at hown0; rw [List.take_zero, List.nil_append, Nat.sub_zero]; exact hown0, hb0⟩
  case round =>
    obtain ⟨k, hk, rfl, hown, hb⟩ := hrel
    have HB := Lib.hid hb
    have hbs := hb.size
    clear hb hown0 hb0
    by_cases hlt : k < zs.length
    · have hi0 : (k : Int) < (zs.length : Int) := by omega
      obtain ⟨b, off, rfl, _, hbh, hcell⟩ := HL.out.2 (by omega)
      have hc := (HB.out.cell (p := ⟨b, off + k, none⟩) (Nat.lt_of_lt_of_le hbh HL.out.1)).trans (hcell k hlt)
      have hlen : (zs.take k ++ List.replicate (zs.length - k) (0 : Int)).length = zs.length := by simp; omega
      have hd := (hown.cellAt k (by omega)).trans (intCellsD_get _ k (by omega))
      have hf := hown.frozenAt k
      have hstep := intsD_step zs k hlt
      obtain ⟨x, hx⟩ : ∃ x, zs.getD k 0 = x := ⟨_, rfl⟩
      rw [hx] at hc hstep
      have hst := hown.stored k (.int .i64 x)
      rw [hstep] at hst
      have HST := Lib.hid hst.1
      have HB2 := Lib.hid (HB.out.grown hst.2 hbs fun g e => by cases e; exact Nat.le_refl _)
      clear hcell hlen hstep hst hown hx
      go_wp2_with fail
      go_roundw
      case rel => exact ⟨k + 1, by omega, by go_num, HST.out, HB2.out⟩
      case measure => simp [intOf]; omega
    · obtain rfl : k = zs.length := by omega
      rw [List.take_length, Nat.sub_self, List.replicate_zero, List.append_nil] at hown
      go_wp2_with fail
      go_ret
      exact ⟨_, rfl, hown, HB.out⟩

set_option maxHeartbeats 1000000 in
set_option maxRecDepth 100000 in
theorem eqIntsD_c (zs : List Int) (A A' : Option Addr) (cap cap' : Nat) (lo hi lo' hi' : Nat) (w : World) (hl : IntsD w lo hi A zs) (hl' : IntsD w lo' hi' A' zs) (hn : zs.length ≤ 1048576) :
    Calls Try.prog 17 #[.slice A zs.length cap, .slice A' zs.length cap'] w fun e w' => e = .returned (.bool true) ∧ Below w.heap.size w w' := by
  have HL := Lib.hid hl
  have HL' := Lib.hid hl'
  clear hl hl'
  go_enter Try.func17, Try.ntmps17
  go_wp2_with fail
  go_loopw [5] (fun i wr => ∃ k : Nat, k ≤ zs.length ∧ i = .int .i64 k ∧ ∃ m, wr = w.drewN m) (fun i _ => zs.length - (intOf i).toNat)
  case atStart => exact ⟨0, by omega, rfl, 0, rfl⟩
  case round =>
    obtain ⟨k, hk, rfl, m, rfl⟩ := hrel
    by_cases hlt : k < zs.length
    · have hi : (k : Int) < (zs.length : Int) := by omega
      obtain ⟨b, off, rfl, _, _, hcell⟩ := HL.out.2 (by omega)
      obtain ⟨b', off', rfl, _, _, hcell'⟩ := HL'.out.2 (by omega)
      have hc1 := hcell k hlt
      have hc2 := hcell' k hlt
      clear hcell hcell'
      obtain ⟨x, hx⟩ : ∃ x, zs.getD k 0 = x := ⟨_, rfl⟩
      rw [hx] at hc1 hc2
      clear hx
      go_wp2_with fail
      go_quiet (fail)
      go_wp2_with fail
      go_roundw
      case rel => exact ⟨k + 1, by omega, by go_num, m + nq, rfl⟩
      case measure => simp [intOf]; omega
    · go_wp2_with fail
      go_ret
      exact ⟨rfl, below_drewN _ _ _⟩

theorem szIntsD_c (A : Option Addr) (n cap : Nat) (left : Int) (w : World) (h0 : (n : Int) ≤ left) (h1 : left ≤ 1048576) :
    Calls Try.prog 96 #[.slice A n cap, .int .i64 left] w fun e w' => e = .returned (.int .i64 (left - n)) ∧ w = w' := by
  go_enter Try.func96, Try.ntmps96
  go_wp2
  go_ret
  exact ⟨rfl, rfl⟩
theorem szIntsD_no (A : Option Addr) (n cap : Nat) (left : Int) (w : World) (hn : n ≤ 9223372036854775807) (h0 : left < (n : Int)) (h1 : 0 ≤ left) :
    Calls Try.prog 96 #[.slice A n cap, .int .i64 left] w fun e w' => e = .returned (.int .i64 (-1)) ∧ w = w' := by
  go_enter Try.func96, Try.ntmps96
  go_wp2
  go_ret
  exact ⟨rfl, rfl⟩

/-- The numbers of the row are numbers of the machine. -/
def WfZ (zs : List Int) : Prop := ∀ n ∈ zs, (Lit.int .i64 n).wf = true
/-- The slice at A reads as the rows rs, in blocks from lo to hi. -/
def RowsD (W : World) (lo hi : Nat) (A : Option Addr) (rs : List (List Int)) : Prop :=
  hi ≤ W.heap.size ∧ (0 < rs.length → ∃ b off, A = some ⟨b, off, none⟩ ∧ lo ≤ b ∧ b < hi ∧ ∀ k, k < rs.length → ∃ A' c', W.cell? ⟨b, off + k, none⟩ = some (.slice A' (rs.getD k []).length c') ∧ IntsD W lo hi A' (rs.getD k []))
theorem RowsD.below {W W' : World} {lo hi : Nat} {A : Option Addr} {rs : List (List Int)} (h : RowsD W lo hi A rs) (hb : Below W.heap.size W W') : RowsD W' lo hi A rs :=
  ⟨Nat.le_trans h.1 hb.size, fun hl => by
    obtain ⟨b, off, e, h1, h2, hc⟩ := h.2 hl
    refine ⟨b, off, e, h1, h2, fun k hk => ?_⟩
    obtain ⟨A', c', h3, h4⟩ := hc k hk
    exact ⟨A', c', (hb.cell (p := ⟨b, off + k, none⟩) (Nat.lt_of_lt_of_le h2 h.1)).trans h3, h4.below hb⟩⟩

section
variable {H : Type} {enc : TypeId × Value → H} {w : World}
set_option maxRecDepth 100000 in
set_option maxHeartbeats 1000000 in
theorem open_rows {n : Nat} {v : Value} {y : DataW H × List MemPlace} (h : DataW.trod enc Try.prog w 0 (fun _ => true) true n 36 [v] = some y) :
    ∃ (A : Option Addr) (cap : Nat) (rs : List (List Int)), v = .slice A rs.length cap ∧ rs.length ≤ maxLen ∧ RowsD w 0 w.heap.size A rs ∧ ∀ k, k < rs.length → (rs.getD k []).length ≤ maxLen ∧ WfZ (rs.getD k []) := by
  rcases open_slice1 Try.underlying36 (by kernel_rfl) h with ⟨hv, _⟩ | ⟨a, len, cap, m, n, V, D, Pl, hv, _, hlc, hcm, hm, _, hi⟩
  · refine ⟨none, 0, [], ?_, by simp, ⟨Nat.le_refl _, fun h => absurd h (by simp)⟩, fun k hk => absurd hk (by simp)⟩
    simpa using hv
  · have hm' : m = cap := by simpa using hm
    have each : ∀ i, i < m → ∃ q : (Option Addr × Nat) × List Int, w.cell? (a.add i) = some (.slice q.1.1 q.2.length q.1.2) ∧ IntsD w 0 w.heap.size q.1.1 q.2 ∧ q.2.length ≤ maxLen ∧ WfZ q.2 := by
      intro i hi0
      obtain ⟨h1, h2⟩ := hi i hi0
      rcases open_ints Try.underlying25 Try.underlying3 (by kernel_rfl) h2 with ⟨hc, _⟩ | ⟨x, l, c, zs, hc, _, hl, hm, hz, _, hcell, hwz⟩
      · simp only [List.cons.injEq, and_true] at hc
        exact ⟨((none, 0), []), by rw [h1, hc]; rfl, ⟨Nat.le_refl _, fun h => absurd h (by simp)⟩, by simp, fun n hn => by simp at hn⟩
      · simp only [List.cons.injEq, and_true] at hc
        have hz' : zs.length = c := by simpa using hz
        have hlen : (zs.take l).length = l := by simp; omega
        refine ⟨((some x, c), zs.take l), by rw [h1, hc, hlen], ⟨Nat.le_refl _, fun hlt => ?_⟩, by rw [hlen]; omega, fun n hn => hwz n (List.mem_of_mem_take hn)⟩
        have hl' : 0 < zs.length := by rw [hlen] at hlt; omega
        obtain ⟨b, off, spot⟩ := x
        have hs : spot = none := by simpa [Addr.add] using World.cell?_spot (hcell 0 hl')
        subst hs
        have hadd : ∀ k, (⟨b, off, none⟩ : Addr).add k = ⟨b, off + k, none⟩ := fun k => by unfold Addr.add; split <;> simp_all
        have h0 := hcell 0 hl'
        rw [hadd] at h0
        refine ⟨b, off, rfl, Nat.zero_le _, World.block_lt_of_cell? w _ h0, fun k hk => ?_⟩
        have hk' : k < l ∧ k < zs.length := by rw [hlen] at hk; omega
        have := hcell k hk'.2
        rw [hadd] at this
        rw [this]
        simp [List.getD, hk'.1]
    obtain ⟨q, hq⟩ := choose_lt each
    refine ⟨some a, cap, (List.range len).map fun i => (q i).2, by simpa using hv, by simp; omega, ⟨Nat.le_refl _, fun hl => ?_⟩, fun k hk => ?_⟩
    · have hl' : 0 < len := by simpa using hl
      obtain ⟨b, off, spot⟩ := a
      have hs : spot = none := by simpa [Addr.add] using World.cell?_spot (hq 0 (by omega)).1
      subst hs
      have hadd : ∀ k, (⟨b, off, none⟩ : Addr).add k = ⟨b, off + k, none⟩ := fun k => by unfold Addr.add; split <;> simp_all
      have h0 := (hq 0 (by omega)).1
      rw [hadd] at h0
      refine ⟨b, off, rfl, Nat.zero_le _, World.block_lt_of_cell? w _ h0, fun k hk => ?_⟩
      have hk' : k < len := by simpa using hk
      have hg : ((List.range len).map fun i => (q i).2).getD k [] = (q k).2 := by simp [List.getD, hk']
      obtain ⟨c0, c1, _⟩ := hq k (by omega)
      rw [hadd] at c0
      rw [hg]
      exact ⟨(q k).1.1, (q k).1.2, c0, c1⟩
    · have hk' : k < len := by simpa using hk
      have hg : ((List.range len).map fun i => (q i).2).getD k [] = (q k).2 := by simp [List.getD, hk']
      rw [hg]
      exact (hq k (by omega)).2.2
end

/-- The number of ints in the first n rows. -/
def totD (rs : List (List Int)) : Nat → Nat
  | 0 => 0
  | n + 1 => totD rs n + (rs.getD n []).length
theorem totD_le (rs : List (List Int)) {j n : Nat} (h : j ≤ n) : totD rs j ≤ totD rs n := by
  induction n with
  | zero =>
    obtain rfl : j = 0 := by omega
    exact Nat.le_refl _
  | succ n ih =>
    by_cases e : j = n + 1
    · subst e; exact Nat.le_refl _
    · have := ih (by omega)
      rw [totD]; omega

set_option maxHeartbeats 2000000 in
set_option maxRecDepth 100000 in
theorem szRows_c (rs : List (List Int)) (A : Option Addr) (cap lo hi : Nat) (left : Int) (w : World) (hl : RowsD w lo hi A rs) (h0 : (rs.length : Int) + (totD rs rs.length : Int) ≤ left) (h1 : left ≤ 1048576) :
    Calls Try.prog 26 #[.slice A rs.length cap, .int .i64 left] w fun e w' => e = .returned (.int .i64 (left - rs.length - totD rs rs.length)) ∧ w = w' := by
  have HL := Lib.hid hl
  clear hl
  have hnn : ¬ left - (rs.length : Int) < 0 := by omega
  go_enter Try.func26, Try.ntmps26
  go_wp2_with fail
  go_loopw [1, 5] (fun m i wr => ∃ j : Nat, j ≤ rs.length ∧ i = .int .i64 j ∧ m = .int .i64 (left - rs.length - totD rs j) ∧ w = wr) (fun _ i _ => rs.length - (intOf i).toNat)
  case atStart => exact ⟨0, by omega, rfl, by simp [totD], rfl⟩
  case round =>
    obtain ⟨j, hj, rfl, rfl, rfl⟩ := hrel
    by_cases hlt : j < rs.length
    · have hij : (j : Int) < (rs.length : Int) := by omega
      obtain ⟨b, off, rfl, _, _, hcell⟩ := HL.out.2 (by omega)
      obtain ⟨A1, c1, hc1, _⟩ := hcell j hlt
      have ht := totD_le rs (j := j + 1) (n := rs.length) (by omega)
      have hs : totD rs (j + 1) = totD rs j + (rs.getD j []).length := rfl
      obtain ⟨m, hm⟩ : ∃ m, (rs.getD j []).length = m := ⟨_, rfl⟩
      rw [hm] at hc1 hs
      have HS := Lib.hid hs
      clear hcell hm hs
      go_wp2_with fail
      refine (szIntsD_c A1 m c1 (left - rs.length - totD rs j) _ (by have := HS.out; omega) (by omega)).mono ?_
      rintro e w3 ⟨rfl, rfl⟩
      have hnx : left - (rs.length : Int) - (totD rs j : Int) - (m : Int) = left - (rs.length : Int) - (totD rs (j + 1) : Int) := by rw [HS.out]; omega
      rw [hnx]
      have hnk : ¬ left - (rs.length : Int) - (totD rs (j + 1) : Int) < 0 := by omega
      go_wp2_with fail
      go_roundw
      case rel => exact ⟨j + 1, by omega, by go_num, rfl, trivial⟩
      case measure => simp [intOf]; omega
    · obtain rfl : j = rs.length := by omega
      go_wp2_with fail
      go_ret
      exact ⟨rfl, rfl⟩

set_option maxHeartbeats 2000000 in
set_option maxRecDepth 100000 in
theorem szRows_no (rs : List (List Int)) (A : Option Addr) (cap lo hi : Nat) (left : Int) (w : World) (hl : RowsD w lo hi A rs) (hr : ∀ k, k < rs.length → (rs.getD k []).length ≤ 9223372036854775807) (hn : rs.length ≤ 9223372036854775807) (h0 : left < (rs.length : Int) + (totD rs rs.length : Int)) (h1 : 0 ≤ left ∧ left ≤ 1048576) :
    Calls Try.prog 26 #[.slice A rs.length cap, .int .i64 left] w fun e w' => e = .returned (.int .i64 (-1)) ∧ w = w' := by
  have HL := Lib.hid hl
  have HR := Lib.hid hr
  clear hl hr
  by_cases hf : left < (rs.length : Int)
  · have hnn : left - (rs.length : Int) < 0 := by omega
    go_enter Try.func26, Try.ntmps26
    go_wp2_with fail
    go_ret
    exact ⟨rfl, rfl⟩
  · have hnn : ¬ left - (rs.length : Int) < 0 := by omega
    go_enter Try.func26, Try.ntmps26
    go_wp2_with fail
    go_loopw [1, 5] (fun m i wr => ∃ j : Nat, j ≤ rs.length ∧ i = .int .i64 j ∧ m = .int .i64 (left - rs.length - totD rs j) ∧ 0 ≤ left - (rs.length : Int) - (totD rs j : Int) ∧ w = wr) (fun _ i _ => rs.length - (intOf i).toNat)
    case atStart => exact ⟨0, by omega, rfl, by simp [totD], by simp [totD]; omega, rfl⟩
    case round =>
      obtain ⟨j, hj, rfl, rfl, hge, rfl⟩ := hrel
      by_cases hlt : j < rs.length
      · have hij : (j : Int) < (rs.length : Int) := by omega
        obtain ⟨b, off, rfl, _, _, hcell⟩ := HL.out.2 (by omega)
        obtain ⟨A1, c1, hc1, _⟩ := hcell j hlt
        have hz := HR.out j hlt
        have hs : totD rs (j + 1) = totD rs j + (rs.getD j []).length := rfl
        obtain ⟨m, hm⟩ : ∃ m, (rs.getD j []).length = m := ⟨_, rfl⟩
        rw [hm] at hc1 hs hz
        have HS := Lib.hid hs
        clear hcell hm hs
        by_cases hk : (m : Int) ≤ left - (rs.length : Int) - (totD rs j : Int)
        · go_wp2_with fail
          refine (szIntsD_c A1 m c1 (left - rs.length - totD rs j) _ hk (by omega)).mono ?_
          rintro e w3 ⟨rfl, rfl⟩
          have hnx : left - (rs.length : Int) - (totD rs j : Int) - (m : Int) = left - (rs.length : Int) - (totD rs (j + 1) : Int) := by rw [HS.out]; omega
          rw [hnx]
          have hnk : ¬ left - (rs.length : Int) - (totD rs (j + 1) : Int) < 0 := by have := HS.out; omega
          go_wp2_with fail
          go_roundw
          case rel => exact ⟨j + 1, by omega, by go_num, rfl, by omega, trivial⟩
          case measure => simp [intOf]; omega
        · go_wp2_with fail
          refine (szIntsD_no A1 m c1 (left - rs.length - totD rs j) _ hz (by omega) hge).mono ?_
          rintro e w3 ⟨rfl, rfl⟩
          go_wp2_with fail
          go_ret
          exact ⟨rfl, rfl⟩
      · obtain rfl : j = rs.length := by omega
        omega
end Go.Proofs.Ytedjhnedkghhoaa
/- The laws' copy of a row of rows, and their comparison of two (laws.toIntSS, eqIntSS). No condition. -/
namespace Go.Proofs.Ytedjhnedkghhoaa
open Go.RowKit

theorem infoIntsD : (Try.prog.info? 25).map (fun i => (i.zero, i.size, i.bytes)) = some (some (.slice none 0 0), 1, 24) := by kernel_rfl
/-- The values zs are the rows rs, each in a block from lo to hi. -/
def RowsV (W : World) (lo hi : Nat) (zs : List Value) (rs : List (List Int)) : Prop :=
  ∀ k, k < rs.length → k < zs.length → ∃ A' c', zs.getD k (.slice none 0 0) = .slice A' (rs.getD k []).length c' ∧ IntsD W lo hi A' (rs.getD k [])

set_option maxHeartbeats 2000000 in
set_option maxRecDepth 100000 in
theorem toRows_c (rs : List (List Int)) (A : Option Addr) (cap lo hi : Nat) (w : World) (hl : RowsD w lo hi A rs) (hn : rs.length ≤ 1048576) (hr : ∀ k, k < rs.length → (rs.getD k []).length ≤ 1048576) :
    Calls Try.prog 28 #[.slice A rs.length cap] w fun e w' => ∃ g, e = .returned (.slice (some ⟨g, 0, none⟩) rs.length rs.length) ∧ RowsD w' w.heap.size w'.heap.size (some ⟨g, 0, none⟩) rs ∧ Below w.heap.size w w' := by
  have HL := Lib.hid hl
  have HR := Lib.hid hr
  clear hl hr
  go_enter Try.func28, Try.ntmps28
  go_wp2_with (at_make; refine wpList_mkn _ rfl _ _ 36 rfl w.heap.size 25 (.slice none 0 0) 24 Try.underlying36 infoIntsD rfl _ _ _ _ rs.length rfl rfl rfl rfl (by omega) (by unfold maxLen; omega) (Nat.le_refl _) ?_; intro w0 hown0 hb0)
  go_loopw [4] (fun i wr => ∃ (k : Nat) (zs : List Value), k ≤ rs.length ∧ i = .int .i64 k ∧ zs.length = k ∧ wr.ownsRow w.heap.size 25 1 (.slice (some ⟨w.heap.size, 0, none⟩) rs.length rs.length) rs.length (zs ++ List.replicate (rs.length - k) (.slice none 0 0)) ∧ RowsV wr (w.heap.size + 1) wr.heap.size zs rs ∧ Below w.heap.size w wr) (fun i _ => rs.length - (intOf i).toNat)
  case atStart => exact ⟨0, [], by omega, rfl, rfl, by rw [List.nil_append, Nat.sub_zero]; exact hown0, fun k _ hk => absurd hk (by simp), hb0⟩
  case round =>
    obtain ⟨k, zs, hk, rfl, hz, hown, hv, hb⟩ := hrel
    have HB := Lib.hid hb
    have hbs := hb.size
    have HV := Lib.hid hv
    have HZ := Lib.hid hz
    clear hb hown0 hb0 hv
    by_cases hlt : k < rs.length
    · have hi0 : (k : Int) < (rs.length : Int) := by omega
      obtain ⟨b, off, rfl, _, hbh, hcell⟩ := HL.out.2 (by omega)
      obtain ⟨A1, c1, hc, hi1⟩ := hcell k hlt
      have hbw : b < w.heap.size := Nat.lt_of_lt_of_le hbh HL.out.1
      have hcc := (HB.out.cell (p := ⟨b, off + k, none⟩) hbw).trans hc
      have hzl := HR.out k hlt
      have hi2 := hi1.kept HB.out.size fun b' _ h2 => HB.out.block b' (Nat.lt_of_lt_of_le h2 HL.out.1)
      obtain ⟨xs, hxs⟩ : ∃ xs, rs.getD k [] = xs := ⟨_, rfl⟩
      rw [hxs] at hcc hi2 hzl
      have HXS := Lib.hid hxs
      have HI2 := Lib.hid hi2
      have HOWN := Lib.hid hown
      clear hcell hc hi1 hi2 hxs hown
      go_wp2_with fail
      refine (toIntsD_c xs A1 c1 _ _ _ HI2.out hzl).mono ?_
      rintro e w3 ⟨g, rfl, ho3, hb3⟩
      have hown3 := own_below HOWN.out hb3
      have hlen : (zs ++ List.replicate (rs.length - k) (Value.slice none 0 0)).length = rs.length := by simp [HZ.out]; omega
      have hgs := (World.ownsRow.lt HOWN.out w.heap.size rfl).2
      have hd := (hown3.cellAt k (by omega)).trans (show (zs ++ List.replicate (rs.length - k) (Value.slice none 0 0))[k]? = some (Value.slice none 0 0) by
        rw [List.getElem?_append_right (by rw [HZ.out]; exact Nat.le_refl _), HZ.out, Nat.sub_self, List.getElem?_replicate, if_pos (by omega)])
      have hf := hown3.frozenAt k
      have hst := hown3.stored k (.slice (some ⟨g, 0, none⟩) xs.length xs.length)
      have hstep : (zs ++ List.replicate (rs.length - k) (Value.slice none 0 0)).set k (.slice (some ⟨g, 0, none⟩) xs.length xs.length) = (zs ++ [.slice (some ⟨g, 0, none⟩) xs.length xs.length]) ++ List.replicate (rs.length - (k + 1)) (.slice none 0 0) := by
        obtain ⟨r, hr⟩ : ∃ r, rs.length - k = r + 1 := ⟨rs.length - k - 1, by omega⟩
        rw [List.set_append_right _ _ (by rw [HZ.out]; exact Nat.le_refl _), HZ.out, Nat.sub_self, hr, List.replicate_succ, List.set_cons_zero, show rs.length - (k + 1) = r by omega, List.append_assoc]
        rfl
      rw [hstep] at hst
      have HST := Lib.hid hst.1
      have HBF := Lib.hid ((HB.out.trans (hb3.mono hbs)).grown hst.2 (Nat.le_trans hbs hb3.size) fun g' e => by cases e; exact Nat.le_refl _)
      have hi3 := own_intsD ho3
      have hs2 := hst.2.size
      have HVN := Lib.hid (show RowsV (w3.setCell ⟨w.heap.size, k, none⟩ (.slice (some ⟨g, 0, none⟩) xs.length xs.length)) (w.heap.size + 1) (w3.setCell ⟨w.heap.size, k, none⟩ (.slice (some ⟨g, 0, none⟩) xs.length xs.length)).heap.size (zs ++ [.slice (some ⟨g, 0, none⟩) xs.length xs.length]) rs from fun j hj hj2 => by
        have hzz := HZ.out
        by_cases e : j < zs.length
        · obtain ⟨A', c', q1, q2⟩ := HV.out j hj e
          refine ⟨A', c', by rw [← q1]; simp [List.getD, List.getElem?_append_left e], ?_⟩
          refine ((q2.below hb3).kept hs2 fun b' h1 h2 => hst.2.block b' (Nat.lt_of_lt_of_le h2 hb3.size) (by simp; omega)).widen (Nat.le_refl _) (Nat.le_trans hb3.size hs2) (Nat.le_refl _)
        · have hj3 : j = zs.length := by simp at hj2; omega
          subst hj3
          rw [HZ.out, HXS.out]
          refine ⟨some ⟨g, 0, none⟩, xs.length, by rw [← HZ.out]; simp [List.getD], ?_⟩
          refine (hi3.kept hs2 fun b' h1 h2 => hst.2.block b' h2 (by simp; omega)).widen (by omega) hs2 (Nat.le_refl _))
      clear hst hstep hown3 hi3 hs2 hlen hb3 ho3
      go_wp2_with fail
      go_roundw
      case rel => exact ⟨k + 1, _, by omega, by go_num, by simp [HZ.out], HST.out, HVN.out, HBF.out⟩
      case measure => simp [intOf]; omega
    · obtain rfl : k = rs.length := by omega
      rw [Nat.sub_self, List.replicate_zero, List.append_nil] at hown
      have HOWN := Lib.hid hown
      clear hown
      go_wp2_with fail
      go_ret
      have hlt' := World.ownsRow.lt HOWN.out w.heap.size rfl
      refine ⟨_, rfl, ⟨Nat.le_refl _, fun hl => ⟨w.heap.size, 0, rfl, Nat.le_refl _, hlt'.2, fun k hk => ?_⟩⟩, HB.out⟩
      obtain ⟨A', c', q1, q2⟩ := HV.out k hk (by have := HZ.out; omega)
      refine ⟨A', c', ?_, q2.widen (by omega) (Nat.le_refl _) (Nat.le_refl _)⟩
      rw [Nat.zero_add, ← q1, World.ownsRow.cellAt HOWN.out k (by have := HZ.out; omega)]
      simp [List.getD, List.getElem?_eq_getElem (show k < zs.length by have := HZ.out; omega)]
end Go.Proofs.Ytedjhnedkghhoaa
/- The law FnExactArePackedTrees returns true at every input. No condition. -/
namespace Go.Proofs.Ytedjhnedkghhoaa
open Go.RowKit

theorem flat_tot (T : List (List Int)) : T.flatten.length = totD T T.length := by
  have key : ∀ j, j ≤ T.length → (flatJ T j).length = totD T j := by
    intro j
    induction j with
    | zero => intro _; rfl
    | succ j ih =>
      intro h
      rw [flatJ_succ T j (by omega), List.length_append, ih (by omega)]
      rfl
  rw [← flatJ_all]
  exact key _ (Nat.le_refl _)

set_option maxHeartbeats 2000000 in
set_option maxRecDepth 100000 in
theorem lawArePackedTrees (q : Int) (A : Option Addr) (cap : Nat) (l : List (Int × Int)) (a1 : Int) (AT : Option Addr) (ct : Nat) (T : List (List Int)) (w : World) (hl : l.length ≤ maxLen) (hb : BarsAt w w.heap.size A l) (_w1 : (Lit.int .i64 a1).wf = true) (ht : T.length ≤ maxLen) (hT : RowsD w 0 w.heap.size AT T) (hw : ∀ k, k < T.length → (T.getD k []).length ≤ maxLen ∧ WfZ (T.getD k [])) :
    Calls Try.prog 6 #[.agg #[.int .i64 q, .slice A l.length cap], .int .i64 a1, .slice AT T.length ct] w fun e w' => e = .returned (.bool true) ∧ Below w.heap.size w w' := by
  have HB_0 := Lib.hid (bars_in hb)
  have HT_0 := Lib.hid (show RowsIn w 0 w.heap.size AT T from hT)
  have HM := Lib.hid (show ∀ k, k < T.length → (T.getD k []).length ≤ 9223372036854775807 from fun k hk => by
    have := (hw k hk).1
    unfold maxLen at this
    omega)
  clear hb hT hw
  by_cases hn : l.length ≤ 1048576
  · by_cases hnT : T.length + totD T T.length ≤ 1048576 - l.length
    · have W0 := Lib.hid (Below.refl w.heap.size w)
      have hn1 : T.length ≤ 1048576 := by omega
      have HRW := Lib.hid (show ∀ k, k < T.length → (T.getD k []).length ≤ 1048576 from fun k hk => by
        have := totD_le T (j := k + 1) (n := T.length) (by omega)
        have h2 : totD T (k + 1) = totD T k + (T.getD k []).length := rfl
        omega)
      have HFT := Lib.hid (show T.flatten.length ≤ 1048576 by rw [flat_tot]; omega)
      have hal := new_below w (.cells #[.int .i64 q, .slice A l.length cap] 24)
      have Z1 := Lib.hid (within_of hal).size
      have W1 := Lib.hid (within_on W0.out (within_of hal) W0.out.size (.inr (Nat.le_refl _)))
      have HB_1 := Lib.hid (HB_0.out.within (within_of hal) (by omega))
      have HT_1 := Lib.hid (HT_0.out.within (within_of hal) (by omega))
      clear hal
      have hsz : (w.alloc (.cells #[.int .i64 q, .slice A l.length cap] 24)).heap.size = w.heap.size + 1 := by simp
      have Y1 := Lib.hid hsz
      clear hsz
      have BX_1 := Lib.hid (box_new w q (.slice A l.length cap) 24)
      go_enter Try.func6, Try.ntmps6
      go_wp2_with fail
      generalize (w.alloc (.cells #[.int .i64 q, .slice A l.length cap] 24)) = w1 at *
      refine (szGraph_c q A l.length cap 1048576 _ (by omega) (by omega)).mono ?_
      rintro e w2 ⟨rfl, hb⟩
      have Z2 := Lib.hid (within_of hb).size
      have W2 := Lib.hid (within_on W1.out (within_of hb) W1.out.size (.inr (Nat.le_refl _)))
      have HB_2 := Lib.hid (HB_1.out.within (within_of hb) (by omega))
      have HT_2 := Lib.hid (HT_1.out.within (within_of hb) (by omega))
      have BX_2 := Lib.hid (BX_1.out.within (within_of hb) (by omega))
      clear hb
      have hnn : ¬ (1048576 : Int) - (l.length : Int) < 0 := by omega
      go_wp2_with fail
      refine (szRows_c T AT ct 0 w.heap.size (1048576 - (l.length : Int)) _ (show RowsD _ 0 w.heap.size AT T from HT_2.out) (by omega) (by omega)).mono ?_
      rintro e w9 ⟨rfl, rfl⟩
      have hnn2 : ¬ (1048576 : Int) - (l.length : Int) - (T.length : Int) - (totD T T.length : Int) < 0 := by omega
      obtain ⟨g01, g02, g03⟩ := BX_2.out
      go_wp2_with fail
      clear g01 g02 g03
      refine (toGraph_c q l A cap _ HB_2.out.at hn).mono ?_
      rintro e w3 ⟨g0, rfl, ho, hb⟩
      have Z3 := Lib.hid (within_of hb).size
      have W3 := Lib.hid (within_on W2.out (within_of hb) W2.out.size (.inr (Nat.le_refl _)))
      have HB_3 := Lib.hid (HB_2.out.within (within_of hb) (by omega))
      have HT_3 := Lib.hid (HT_2.out.within (within_of hb) (by omega))
      have BX_3 := Lib.hid (BX_2.out.within (within_of hb) (by omega))
      have SG_3 := Lib.hid ((own_in ho).bars)
      clear ho hb
      go_wp2_with fail
      refine (toRows_c T AT ct 0 w.heap.size _ (show RowsD _ 0 w.heap.size AT T from HT_3.out) hn1 HRW.out).mono ?_
      rintro e w4 ⟨g1, rfl, ho, hb⟩
      have Z4 := Lib.hid (within_of hb).size
      have W4 := Lib.hid (within_on W3.out (within_of hb) W3.out.size (.inr (Nat.le_refl _)))
      have HB_4 := Lib.hid (HB_3.out.within (within_of hb) (by omega))
      have HT_4 := Lib.hid (HT_3.out.within (within_of hb) (by omega))
      have BX_4 := Lib.hid (BX_3.out.within (within_of hb) (by omega))
      have SG_4 := Lib.hid (SG_3.out.within (within_of hb) (by omega))
      have SI_4 := Lib.hid ((show RowsIn _ _ _ (some ⟨g1, 0, none⟩) T from ho))
      clear ho hb
      go_wp2_with fail
      refine (specArp q a1 l T (some ⟨g0, 0, none⟩) (some ⟨g1, 0, none⟩) l.length T.length _ _ _ SG_4.out.at SI_4.out hn hn1 HFT.out).mono ?_
      rintro e w5 ⟨rfl, hb⟩
      have Z5 := Lib.hid (within_of hb).size
      have W5 := Lib.hid (within_on W4.out (within_of hb) W4.out.size (.inr (Nat.le_refl _)))
      have HB_5 := Lib.hid (HB_4.out.within (within_of hb) (by omega))
      have HT_5 := Lib.hid (HT_4.out.within (within_of hb) (by omega))
      have BX_5 := Lib.hid (BX_4.out.within (within_of hb) (by omega))
      have SG_5 := Lib.hid (SG_4.out.within (within_of hb) (by omega))
      have SI_5 := Lib.hid (SI_4.out.within (within_of hb) (by omega))
      clear hb
      obtain ⟨g01, g02, g03⟩ := BX_5.out
      go_wp2_with fail
      clear g01 g02 g03
      refine (toGraph_c q l A cap _ HB_5.out.at hn).mono ?_
      rintro e w6 ⟨x0, rfl, ho, hb⟩
      have Z6 := Lib.hid (within_of hb).size
      have W6 := Lib.hid (within_on W5.out (within_of hb) W5.out.size (.inr (Nat.le_refl _)))
      have HB_6 := Lib.hid (HB_5.out.within (within_of hb) (by omega))
      have HT_6 := Lib.hid (HT_5.out.within (within_of hb) (by omega))
      have BX_6 := Lib.hid (BX_5.out.within (within_of hb) (by omega))
      have SG_6 := Lib.hid (SG_5.out.within (within_of hb) (by omega))
      have SI_6 := Lib.hid (SI_5.out.within (within_of hb) (by omega))
      have SX_6 := Lib.hid (own_in ho)
      clear ho hb
      go_wp2_with fail
      have hal := new_below w6 (.cells #[.int .i64 q, .slice (some ⟨x0, 0, none⟩) l.length l.length] 30)
      have Z7 := Lib.hid (within_of hal).size
      have W7 := Lib.hid (within_on W6.out (within_of hal) W6.out.size (.inr (Nat.le_refl _)))
      have HB_7 := Lib.hid (HB_6.out.within (within_of hal) (by omega))
      have HT_7 := Lib.hid (HT_6.out.within (within_of hal) (by omega))
      have BX_7 := Lib.hid (BX_6.out.within (within_of hal) (by omega))
      have SG_7 := Lib.hid (SG_6.out.within (within_of hal) (by omega))
      have SI_7 := Lib.hid (SI_6.out.within (within_of hal) (by omega))
      have SX_7 := Lib.hid (SX_6.out.within (within_of hal) (by omega))
      clear hal
      have hsz : (w6.alloc (.cells #[.int .i64 q, .slice (some ⟨x0, 0, none⟩) l.length l.length] 30)).heap.size = w6.heap.size + 1 := by simp
      have Y7 := Lib.hid hsz
      clear hsz
      have XX_7 := Lib.hid (box_new w6 q (.slice (some ⟨x0, 0, none⟩) l.length l.length) 30)
      generalize (w6.alloc (.cells #[.int .i64 q, .slice (some ⟨x0, 0, none⟩) l.length l.length] 30)) = w7 at *
      refine (toRows_c T AT ct 0 w.heap.size _ (show RowsD _ 0 w.heap.size AT T from HT_7.out) hn1 HRW.out).mono ?_
      rintro e w8 ⟨x2, rfl, ho, hb⟩
      have Z8 := Lib.hid (within_of hb).size
      have W8 := Lib.hid (within_on W7.out (within_of hb) W7.out.size (.inr (Nat.le_refl _)))
      have HB_8 := Lib.hid (HB_7.out.within (within_of hb) (by omega))
      have HT_8 := Lib.hid (HT_7.out.within (within_of hb) (by omega))
      have BX_8 := Lib.hid (BX_7.out.within (within_of hb) (by omega))
      have SG_8 := Lib.hid (SG_7.out.within (within_of hb) (by omega))
      have SI_8 := Lib.hid (SI_7.out.within (within_of hb) (by omega))
      have SX_8 := Lib.hid (SX_7.out.within (within_of hb) (by omega))
      have XX_8 := Lib.hid (XX_7.out.within (within_of hb) (by omega))
      have SY_8 := Lib.hid ((show RowsIn _ _ _ (some ⟨x2, 0, none⟩) T from ho))
      clear ho hb
      obtain ⟨g01, g02, g03⟩ := XX_8.out
      go_wp2_with fail
      clear g01 g02 g03
      refine (implArp q a1 l T (some ⟨x0, 0, none⟩) (some ⟨x2, 0, none⟩) l.length T.length _ _ _ SX_8.out.bars.at SY_8.out hn hn1 HFT.out).mono ?_
      rintro e w9 ⟨rfl, hb⟩
      have Z9 := Lib.hid (within_of hb).size
      have W9 := Lib.hid (within_on W8.out (within_of hb) W8.out.size (.inr (Nat.le_refl _)))
      have HB_9 := Lib.hid (HB_8.out.within (within_of hb) (by omega))
      have HT_9 := Lib.hid (HT_8.out.within (within_of hb) (by omega))
      have BX_9 := Lib.hid (BX_8.out.within (within_of hb) (by omega))
      have SG_9 := Lib.hid (SG_8.out.within (within_of hb) (by omega))
      have SI_9 := Lib.hid (SI_8.out.within (within_of hb) (by omega))
      have SX_9 := Lib.hid (SX_8.out.within (within_of hb) (by omega))
      have XX_9 := Lib.hid (XX_8.out.within (within_of hb) (by omega))
      have SY_9 := Lib.hid (SY_8.out.within (within_of hb) (by omega))
      clear hb
      have kk0 := box2 BX_9.out XX_9.out
      have kk := box2 BX_9.out XX_9.out
      have hdr : Below w9.heap.size w9 w9.drew := (Below.refl _ _).drew
      have Z10 := Lib.hid (within_of hdr).size
      have W10 := Lib.hid (within_on W9.out (within_of hdr) W9.out.size (.inr (Nat.le_refl _)))
      have HB_10 := Lib.hid (HB_9.out.within (within_of hdr) (by omega))
      have HT_10 := Lib.hid (HT_9.out.within (within_of hdr) (by omega))
      have BX_10 := Lib.hid (BX_9.out.within (within_of hdr) (by omega))
      have SG_10 := Lib.hid (SG_9.out.within (within_of hdr) (by omega))
      have SI_10 := Lib.hid (SI_9.out.within (within_of hdr) (by omega))
      have SX_10 := Lib.hid (SX_9.out.within (within_of hdr) (by omega))
      have XX_10 := Lib.hid (XX_9.out.within (within_of hdr) (by omega))
      have SY_10 := Lib.hid (SY_9.out.within (within_of hdr) (by omega))
      clear hdr
      go_wp2_with fail
      go_region_held3 (fun W' => W'.cell? ⟨w.heap.size, 0, none⟩ = some (.int .i64 q) ∧ W'.cell? ⟨w.heap.size, 1, none⟩ = some ((.slice A l.length cap)) ∧ W'.cell? ⟨w6.heap.size, 0, none⟩ = some (.int .i64 q) ∧ W'.cell? ⟨w6.heap.size, 1, none⟩ = some ((.slice (some ⟨x0, 0, none⟩) l.length l.length)))
        (first | exact kk | exact box2 BX_11.out XX_11.out | exact box2 BX_12.out XX_12.out | fail)
        (first
          | (go_at_call 13; refine (toGraph_c q l A cap _ ?_ hn).mono ?_; (exact HB_10.out.at); rintro e w11 ⟨y0, rfl, ho, hb⟩; have Z11 := Lib.hid (within_of hb).size; have W11 := Lib.hid (within_on W10.out (within_of hb) W10.out.size (.inr (Nat.le_refl _))); have HB_11 := Lib.hid (HB_10.out.within (within_of hb) (by omega)); have HT_11 := Lib.hid (HT_10.out.within (within_of hb) (by omega)); have BX_11 := Lib.hid (BX_10.out.within (within_of hb) (by omega)); have SG_11 := Lib.hid (SG_10.out.within (within_of hb) (by omega)); have SI_11 := Lib.hid (SI_10.out.within (within_of hb) (by omega)); have SX_11 := Lib.hid (SX_10.out.within (within_of hb) (by omega)); have XX_11 := Lib.hid (XX_10.out.within (within_of hb) (by omega)); have SY_11 := Lib.hid (SY_10.out.within (within_of hb) (by omega)); have YY := Lib.hid (own_bars ho); clear ho hb)
          | (go_at_call 16; refine (eqGraph_c q l _ _ l.length l.length _ ?_ ?_ hn).mono ?_; (exact SX_11.out.bars.at); (exact YY.out); rintro e w12 ⟨rfl, hb⟩; have Z12 := Lib.hid (within_of hb).size; have W12 := Lib.hid (within_on W11.out (within_of hb) W11.out.size (.inr (Nat.le_refl _))); have HB_12 := Lib.hid (HB_11.out.within (within_of hb) (by omega)); have HT_12 := Lib.hid (HT_11.out.within (within_of hb) (by omega)); have BX_12 := Lib.hid (BX_11.out.within (within_of hb) (by omega)); have SG_12 := Lib.hid (SG_11.out.within (within_of hb) (by omega)); have SI_12 := Lib.hid (SI_11.out.within (within_of hb) (by omega)); have SX_12 := Lib.hid (SX_11.out.within (within_of hb) (by omega)); have XX_12 := Lib.hid (XX_11.out.within (within_of hb) (by omega)); have SY_12 := Lib.hid (SY_11.out.within (within_of hb) (by omega)); clear hb))
      go_wp2_with fail
      refine (toRows_c T AT ct 0 w.heap.size _ (show RowsD _ 0 w.heap.size AT T from HT_12.out) hn1 HRW.out).mono ?_
      rintro e w13 ⟨y1, rfl, ho, hb⟩
      have Z13 := Lib.hid (within_of hb).size
      have W13 := Lib.hid (within_on W12.out (within_of hb) W12.out.size (.inr (Nat.le_refl _)))
      have HB_13 := Lib.hid (HB_12.out.within (within_of hb) (by omega))
      have HT_13 := Lib.hid (HT_12.out.within (within_of hb) (by omega))
      have BX_13 := Lib.hid (BX_12.out.within (within_of hb) (by omega))
      have SG_13 := Lib.hid (SG_12.out.within (within_of hb) (by omega))
      have SI_13 := Lib.hid (SI_12.out.within (within_of hb) (by omega))
      have SX_13 := Lib.hid (SX_12.out.within (within_of hb) (by omega))
      have XX_13 := Lib.hid (XX_12.out.within (within_of hb) (by omega))
      have SY_13 := Lib.hid (SY_12.out.within (within_of hb) (by omega))
      have SZ_13 := Lib.hid ((show RowsIn _ _ _ (some ⟨y1, 0, none⟩) T from ho))
      clear ho hb
      go_wp2_with fail
      refine (eqRows_c T (some ⟨x2, 0, none⟩) (some ⟨y1, 0, none⟩) T.length T.length _ _ _ _ _ SY_13.out SZ_13.out hn1 HRW.out).mono ?_
      rintro e w14 ⟨rfl, hb⟩
      have Z14 := Lib.hid (within_of hb).size
      have W14 := Lib.hid (within_on W13.out (within_of hb) W13.out.size (.inr (Nat.le_refl _)))
      have HB_14 := Lib.hid (HB_13.out.within (within_of hb) (by omega))
      have HT_14 := Lib.hid (HT_13.out.within (within_of hb) (by omega))
      have BX_14 := Lib.hid (BX_13.out.within (within_of hb) (by omega))
      have SG_14 := Lib.hid (SG_13.out.within (within_of hb) (by omega))
      have SI_14 := Lib.hid (SI_13.out.within (within_of hb) (by omega))
      have SX_14 := Lib.hid (SX_13.out.within (within_of hb) (by omega))
      have XX_14 := Lib.hid (XX_13.out.within (within_of hb) (by omega))
      have SY_14 := Lib.hid (SY_13.out.within (within_of hb) (by omega))
      have SZ_14 := Lib.hid (SZ_13.out.within (within_of hb) (by omega))
      clear hb
      go_wp2_with fail
      go_ret
      exact ⟨rfl, W14.out⟩
    · have W0 := Lib.hid (Below.refl w.heap.size w)
      have h63 : T.length ≤ 9223372036854775807 := by unfold maxLen at ht; omega
      have hal := new_below w (.cells #[.int .i64 q, .slice A l.length cap] 24)
      have Z1 := Lib.hid (within_of hal).size
      have W1 := Lib.hid (within_on W0.out (within_of hal) W0.out.size (.inr (Nat.le_refl _)))
      have HB_1 := Lib.hid (HB_0.out.within (within_of hal) (by omega))
      have HT_1 := Lib.hid (HT_0.out.within (within_of hal) (by omega))
      clear hal
      have hsz : (w.alloc (.cells #[.int .i64 q, .slice A l.length cap] 24)).heap.size = w.heap.size + 1 := by simp
      have Y1 := Lib.hid hsz
      clear hsz
      have BX_1 := Lib.hid (box_new w q (.slice A l.length cap) 24)
      go_enter Try.func6, Try.ntmps6
      go_wp2_with fail
      generalize (w.alloc (.cells #[.int .i64 q, .slice A l.length cap] 24)) = w1 at *
      refine (szGraph_c q A l.length cap 1048576 _ (by omega) (by omega)).mono ?_
      rintro e w2 ⟨rfl, hb⟩
      have Z2 := Lib.hid (within_of hb).size
      have W2 := Lib.hid (within_on W1.out (within_of hb) W1.out.size (.inr (Nat.le_refl _)))
      have HB_2 := Lib.hid (HB_1.out.within (within_of hb) (by omega))
      have HT_2 := Lib.hid (HT_1.out.within (within_of hb) (by omega))
      have BX_2 := Lib.hid (BX_1.out.within (within_of hb) (by omega))
      clear hb
      have hnn : ¬ (1048576 : Int) - (l.length : Int) < 0 := by omega
      go_wp2_with fail
      refine (szRows_no T AT ct 0 w.heap.size (1048576 - (l.length : Int)) _ (show RowsD _ 0 w.heap.size AT T from HT_2.out) HM.out h63 (by omega) (by omega)).mono ?_
      rintro e w9 ⟨rfl, rfl⟩
      go_wp2_with fail
      go_ret
      exact ⟨rfl, W2.out⟩
  · have hx : (1048576 : Int) < (l.length : Int) := by omega
    have h63 : l.length ≤ 9223372036854775807 := by unfold maxLen at hl; omega
    have HA := Lib.hid (new_below w (.cells #[.int .i64 q, .slice A l.length cap] 24))
    go_enter Try.func6, Try.ntmps6
    go_wp2_with fail
    refine (szGraph_no q A l.length cap 1048576 _ h63 hx (by omega)).mono ?_
    rintro e w1 ⟨rfl, hb1⟩
    have W1 := Lib.hid (below_on HA.out hb1 HA.out.size)
    clear hb1
    go_wp2_with fail
    go_ret
    exact ⟨rfl, W1.out⟩
end Go.Proofs.Ytedjhnedkghhoaa
