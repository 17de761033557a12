/- Several texts in one, in the order in which they build on each other: what stands on the way to the law; each names its own matter. No condition. -/
import Derived.Test.YtedjhnedkghhoaaPk3
import Derived.OrdersHeld
import Derived.Deep.RegionHeld3
import Derived.Laws.OwnMore
import Derived.Deep.RegionWith
import Derived.BigQuiet
import Derived.RangeFuncFrom
import Derived.RangeFuncBound
import Derived.RangeFuncCalls
import Derived.RangeFuncLeaves
import Derived.RangeFuncNested
import Derived.Shelf.Abstract
import Derived.Shelf.RegionOpen
import Derived.OwnWalkIn
import Derived.TacticsInMore
import Derived.LoopNIn
import Derived.LoopIn
import Derived.Laws.EntriesVeiled
/- What PackTrees answers: bars are given to trees one by one, each to a tree as early as possible; a second empty tree need not be tried. No program's walk. No condition. -/
namespace Go.Proofs.Ytedjhnedkghhoaa
open Go.RowKit

/-- The first of k tries that succeeds. -/
def firstK {α : Type} (f : Nat → Option α) : Nat → Option α
  | 0 => none
  | k + 1 => match firstK f k with | some x => some x | none => f k
theorem firstK_none {α : Type} {f : Nat → Option α} : ∀ k, firstK f k = none ↔ ∀ i, i < k → f i = none := by
  intro k
  induction k with
  | zero => exact ⟨fun _ i hi => absurd hi (by omega), fun _ => rfl⟩
  | succ k ih =>
    unfold firstK
    cases e : firstK f k with
    | some x =>
      refine ⟨fun h => (by cases h), fun h => ?_⟩
      have := ih.2 fun i hi => h i (by omega)
      rw [e] at this
      cases this
    | none =>
      have h1 := ih.1 e
      refine ⟨fun h i hi => ?_, fun h => h k (by omega)⟩
      by_cases c : i = k
      · subst c; exact h
      · exact h1 i (by omega)
theorem firstK_at {α : Type} {f : Nat → Option α} {j : Nat} {x : α} : ∀ k, j < k → (∀ i, i < j → f i = none) → f j = some x → firstK f k = some x := by
  intro k
  induction k with
  | zero => intro h; omega
  | succ k ih =>
    intro hj h hx
    unfold firstK
    by_cases c : j = k
    · subst c
      rw [(firstK_none j).2 h]
      exact hx
    · rw [ih (by omega) h hx]
/-- Bar goes to tree i. -/
def putT (T : List (List Int)) (i : Nat) (bar : Int) : List (List Int) := T.set i (T.getD i [] ++ [bar])
theorem putT_len (T : List (List Int)) (i : Nat) (bar : Int) : (putT T i bar).length = T.length := by simp [putT]
theorem putT_get {T : List (List Int)} {i j : Nat} {bar : Int} (hj : j < T.length) : (putT T i bar).getD j [] = if j = i then T.getD i [] ++ [bar] else T.getD j [] := by
  unfold putT
  simp only [List.getD]
  rw [List.getElem?_set]
  by_cases e : i = j
  · subst e
    rw [if_pos rfl, if_pos hj, if_pos rfl]
    rfl
  · rw [if_neg e, if_neg (fun h => e h.symm)]
/-- The last r of n bars are given to the trees. -/
def giveI (fo : List Int → Bool) (k n : Nat) : Nat → List (List Int) → Option (List (List Int))
  | 0, T => some T
  | r + 1, T => firstK (fun i => if fo (T.getD i [] ++ [((n - (r + 1) : Nat) : Int)]) = true then giveI fo k n r (putT T i ((n - (r + 1) : Nat) : Int)) else none) k
/-- One try. -/
def tryI (fo : List Int → Bool) (k n r : Nat) (T : List (List Int)) (i : Nat) : Option (List (List Int)) := if fo (T.getD i [] ++ [((n - (r + 1) : Nat) : Int)]) = true then giveI fo k n r (putT T i ((n - (r + 1) : Nat) : Int)) else none
theorem giveI_succ (fo : List Int → Bool) (k n r : Nat) (T : List (List Int)) : giveI fo k n (r + 1) T = firstK (tryI fo k n r T) k := rfl
theorem set_perm {α : Type} (T : List α) (i : Nat) (x : α) (h : i < T.length) : (T.set i x).Perm (x :: T.eraseIdx i) := by
  rw [List.set_eq_take_append_cons_drop, if_pos h, List.eraseIdx_eq_take_drop_succ]
  exact List.perm_middle
theorem get_perm {α : Type} (T : List α) (i : Nat) (h : i < T.length) : T.Perm (T[i] :: T.eraseIdx i) := by
  have := set_perm T i T[i] h
  rwa [List.set_getElem_self] at this
/-- Whether all bars find a tree does not depend on the order of the trees. -/
theorem give_perm (fo : List Int → Bool) (k n : Nat) : ∀ r T T', T.length = k → T.Perm T' → (giveI fo k n r T).isSome = true → (giveI fo k n r T').isSome = true := by
  intro r
  induction r with
  | zero => intro T T' _ _ _; rfl
  | succ r ih =>
    intro T T' hk hp hs
    rw [giveI_succ] at hs ⊢
    cases e : firstK (tryI fo k n r T') k with
    | some x => rfl
    | none =>
      exfalso
      have h0 := (firstK_none k).1 e
      have h1 : firstK (tryI fo k n r T) k = none := by
        refine (firstK_none k).2 fun i hi => ?_
        have hiT : i < T.length := by omega
        have hm : T[i] ∈ T' := hp.mem_iff.1 (List.getElem_mem hiT)
        obtain ⟨j, hj, ej⟩ := List.getElem_of_mem hm
        have hk' : T'.length = k := by rw [← hp.length_eq]; exact hk
        have hj0 := h0 j (by omega)
        have gi : T.getD i [] = T[i] := by simp [List.getD, List.getElem?_eq_getElem hiT]
        have gj : T'.getD j [] = T[i] := by rw [← ej]; simp [List.getD, List.getElem?_eq_getElem hj]
        unfold tryI putT at hj0 ⊢
        rw [gj] at hj0
        rw [gi]
        by_cases c : fo (T[i] ++ [((n - (r + 1) : Nat) : Int)]) = true
        · rw [if_pos c] at hj0 ⊢
          have p1 := set_perm T i (T[i] ++ [((n - (r + 1) : Nat) : Int)]) hiT
          have p2 := set_perm T' j (T[i] ++ [((n - (r + 1) : Nat) : Int)]) hj
          have q1 := get_perm T i hiT
          have q2 := get_perm T' j hj
          rw [ej] at q2
          have q3 : (T.eraseIdx i).Perm (T'.eraseIdx j) := (List.perm_cons T[i]).1 (q1.symm.trans (hp.trans q2))
          have q4 := p1.trans ((q3.cons _).trans p2.symm)
          cases e3 : giveI fo k n r (T.set i (T[i] ++ [((n - (r + 1) : Nat) : Int)])) with
          | none => rfl
          | some x =>
            have := ih _ _ (by rw [List.length_set]; exact hk) q4 (by rw [e3]; rfl)
            rw [hj0] at this
            cases this
        · rw [if_neg c]
      rw [h1] at hs
      cases hs
/-- Behind an empty tree all are empty. -/
def PreT (T : List (List Int)) : Prop := ∀ i j, i < j → j < T.length → T.getD i [] = [] → T.getD j [] = []
theorem preT_put {T : List (List Int)} (h : PreT T) {i : Nat} {bar : Int} (hb : ∀ j, j < i → T.getD j [] ≠ []) : PreT (putT T i bar) := by
  intro a b hab hbl ha
  rw [putT_len] at hbl
  rw [putT_get (by omega)] at ha
  rw [putT_get hbl]
  by_cases e : a = i
  · rw [if_pos e] at ha
    exact absurd ha (by simp)
  · rw [if_neg e] at ha
    by_cases c : a < i
    · exact absurd ha (hb a c)
    · rw [if_neg (by omega)]
      exact h a b hab hbl ha
/-- The first empty tree did not do: no tree does. -/
theorem give_empty {fo : List Int → Bool} {k n r : Nat} {T : List (List Int)} (hk : T.length = k) (hp : PreT T) {i : Nat} (hi : i < k) (he : T.getD i [] = []) (h : ∀ j, j < i + 1 → tryI fo k n r T j = none) : giveI fo k n (r + 1) T = none := by
  rw [giveI_succ, firstK_none]
  intro j hj
  by_cases c : j < i + 1
  · exact h j c
  · have hje := hp i j (by omega) (by omega) he
    have h0 := h i (by omega)
    unfold tryI at h0 ⊢
    rw [he] at h0
    rw [hje]
    by_cases d : fo ([] ++ [((n - (r + 1) : Nat) : Int)]) = true
    · rw [if_pos d] at h0 ⊢
      unfold putT at h0 ⊢
      rw [he] at h0
      rw [hje]
      have hi' : i < T.length := by omega
      have hj' : j < T.length := by omega
      have p1 := set_perm T i ([] ++ [((n - (r + 1) : Nat) : Int)]) hi'
      have p2 := set_perm T j ([] ++ [((n - (r + 1) : Nat) : Int)]) hj'
      have q1 := get_perm T i hi'
      have q2 := get_perm T j hj'
      rw [show T[i] = [] by rw [← he]; simp [List.getD, List.getElem?_eq_getElem hi']] at q1
      rw [show T[j] = [] by rw [← hje]; simp [List.getD, List.getElem?_eq_getElem hj']] at q2
      have q3 : (T.eraseIdx j).Perm (T.eraseIdx i) := (List.perm_cons []).1 (q2.symm.trans q1)
      have q4 := p2.trans ((q3.cons _).trans p1.symm)
      cases e3 : giveI fo k n r (T.set j ([] ++ [((n - (r + 1) : Nat) : Int)])) with
      | none => rfl
      | some x =>
        have := give_perm fo k n r _ _ (by rw [List.length_set]; exact hk) q4 (by rw [e3]; rfl)
        rw [h0] at this
        cases this
    · rw [if_neg d]
theorem give_at {fo : List Int → Bool} {k n r : Nat} {T : List (List Int)} {i : Nat} (hi : i < k) (h : ∀ j, j < i → tryI fo k n r T j = none) (hf : fo (T.getD i [] ++ [((n - (r + 1) : Nat) : Int)]) = true) {R : List (List Int)} (hr : giveI fo k n r (putT T i ((n - (r + 1) : Nat) : Int)) = some R) : giveI fo k n (r + 1) T = some R := by
  rw [giveI_succ]
  refine firstK_at k hi h ?_
  unfold tryI
  rw [if_pos hf, hr]
theorem try_no {fo : List Int → Bool} {k n r : Nat} {T : List (List Int)} {i : Nat} (hf : fo (T.getD i [] ++ [((n - (r + 1) : Nat) : Int)]) = false) : tryI fo k n r T i = none := by
  unfold tryI
  rw [hf]
  rfl
theorem try_fell {fo : List Int → Bool} {k n r : Nat} {T : List (List Int)} {i : Nat} (hr : giveI fo k n r (putT T i ((n - (r + 1) : Nat) : Int)) = none) : tryI fo k n r T i = none := by
  unfold tryI
  rw [hr]
  split <;> rfl
theorem try_next {P : Nat → Prop} {i : Nat} (h : ∀ j, j < i → P j) (hi : P i) : ∀ j, j < i + 1 → P j := fun j hj => by
  by_cases e : j = i
  · subst e; exact hi
  · exact h j (by omega)
/-- As many bars as are given more. -/
theorem give_tot {fo : List Int → Bool} {k n : Nat} : ∀ r T R, T.length = k → giveI fo k n r T = some R → R.length = k ∧ ∀ i, i < k → (R.getD i []).length ≤ (T.getD i []).length + r := by
  intro r
  induction r with
  | zero =>
    intro T R hk h
    injection h with h
    subst h
    exact ⟨hk, fun i _ => Nat.le_refl _⟩
  | succ r ih =>
    intro T R hk h
    rw [giveI_succ] at h
    have : ∃ i, i < k ∧ tryI fo k n r T i = some R := by
      refine Classical.byContradiction fun q => ?_
      cases e : firstK (tryI fo k n r T) k with
      | none => rw [e] at h; cases h
      | some x =>
        rw [e] at h
        injection h with h
        subst h
        have key : ∀ m, firstK (tryI fo k n r T) m = some x → ∃ i, i < m ∧ tryI fo k n r T i = some x := by
          intro m
          induction m with
          | zero => intro h; cases h
          | succ m ihm =>
            intro h
            unfold firstK at h
            cases e2 : firstK (tryI fo k n r T) m with
            | some y =>
              rw [e2] at h
              injection h with h
              subst h
              obtain ⟨i, hi, h2⟩ := ihm e2
              exact ⟨i, by omega, h2⟩
            | none =>
              rw [e2] at h
              exact ⟨m, by omega, h⟩
        exact q (key k e)
    obtain ⟨i, hi, h2⟩ := this
    unfold tryI at h2
    by_cases c : fo (T.getD i [] ++ [((n - (r + 1) : Nat) : Int)]) = true
    · rw [if_pos c] at h2
      obtain ⟨r1, r2⟩ := ih _ _ (by rw [putT_len]; exact hk) h2
      refine ⟨r1, fun j hj => ?_⟩
      have := r2 j hj
      rw [putT_get (by omega)] at this
      by_cases e : j = i
      · subst e
        rw [if_pos rfl, List.length_append, List.length_cons, List.length_nil] at this
        omega
      · rw [if_neg e] at this
        omega
    · rw [if_neg c] at h2
      cases h2
end Go.Proofs.Ytedjhnedkghhoaa
/- Rows of rows of ints: how they are read and compared. No condition. -/
namespace Go.Proofs.Ytedjhnedkghhoaa
open Go.RowKit

/-- The slice at A reads as the rows rs; it and its rows lie in blocks from lo to hi. -/
def RowsIn (W : World) (lo hi : Nat) (A : Option Addr) (rs : List (List Int)) : Prop :=
  hi ≤ W.heap.size ∧ (0 < rs.length → ∃ b off, A = some ⟨b, off, none⟩ ∧ lo ≤ b ∧ b < hi ∧ ∀ k, k < rs.length → ∃ A' c', W.cell? ⟨b, off + k, none⟩ = some (.slice A' (rs.getD k []).length c') ∧ IntsIn W lo hi A' (rs.getD k []))
theorem RowsIn.within {W W' : World} {lo hi lo' hi' : Nat} {A : Option Addr} {rs : List (List Int)} (h : RowsIn W lo hi A rs) (hw : Within lo' hi' W W') (hd : hi ≤ lo' ∨ hi' ≤ lo) : RowsIn W' lo hi A rs :=
  ⟨Nat.le_trans h.1 hw.size, fun hl => by
    obtain ⟨b, off, e, h1, h2, hc⟩ := h.2 hl
    have hk := hw.block b (Nat.lt_of_lt_of_le h2 h.1) (by omega)
    refine ⟨b, off, e, h1, h2, fun k hk' => ?_⟩
    obtain ⟨A', c', h3, h4⟩ := hc k hk'
    exact ⟨A', c', (World.cell?_of_block (a := ⟨b, off + k, none⟩) hk).trans h3, h4.within hw hd⟩⟩

set_option maxHeartbeats 2000000 in
set_option maxRecDepth 100000 in
theorem eqRows_c (rs : List (List Int)) (A A' : Option Addr) (cap cap' lo hi lo' hi' : Nat) (w : World) (hl : RowsIn w lo hi A rs) (hl' : RowsIn w lo' hi' A' rs) (hn : rs.length ≤ 1048576) (hr : ∀ k, k < rs.length → (rs.getD k []).length ≤ 1048576) :
    Calls Try.prog 22 #[.slice A rs.length cap, .slice A' rs.length cap'] w fun e w' => e = .returned (.bool true) ∧ Below w.heap.size w w' := by
  have HL := Lib.hid hl
  have HL' := Lib.hid hl'
  have HR := Lib.hid hr
  clear hl hl' hr
  go_enter Try.func22, Try.ntmps22
  go_wp2_with fail
  go_loopw [5] (fun i wr => ∃ k : Nat, k ≤ rs.length ∧ i = .int .i64 k ∧ Below w.heap.size w wr) (fun i _ => rs.length - (intOf i).toNat)
  case atStart => exact ⟨0, by omega, rfl, Below.refl _ _⟩
  case round =>
    obtain ⟨k, hk, rfl, hb⟩ := hrel
    have HB := Lib.hid hb
    have HQ := Lib.hid (HL.out.within (within_low hb) (.inl HL.out.1))
    have HQ' := Lib.hid (HL'.out.within (within_low hb) (.inl HL'.out.1))
    have HWS := Lib.hid hb.size
    clear hb
    by_cases hlt : k < rs.length
    · have hi : (k : Int) < (rs.length : Int) := by omega
      obtain ⟨b, off, rfl, _, _, hcell⟩ := HQ.out.2 (by omega)
      obtain ⟨b', off', rfl, _, _, hcell'⟩ := HQ'.out.2 (by omega)
      obtain ⟨A1, c1, hc1, hi1⟩ := hcell k hlt
      obtain ⟨A2, c2, hc2, hi2⟩ := hcell' k hlt
      have hz := HR.out k hlt
      clear hcell hcell'
      obtain ⟨zs, hzs⟩ : ∃ zs, rs.getD k [] = zs := ⟨_, rfl⟩
      rw [hzs] at hc1 hc2 hi1 hi2 hz
      clear hzs
      have HI1 := Lib.hid hi1
      have HI2 := Lib.hid hi2
      clear hi1 hi2
      go_wp2_with fail
      refine wp_region_held_drew (S := (fun W' : World => W'.cell? ⟨b, off + k, none⟩ = some (.slice A1 zs.length c1) ∧ W'.cell? ⟨b', off' + k, none⟩ = some (.slice A2 zs.length c2))) (by kernel_rfl) ?_ (fun hHeld => ?_)
      · exact ⟨hc1, hc2⟩
      have HD := Lib.hid (show Below wr.heap.size wr wr.drew from (Below.refl _ _).drew)
      have HDS := Lib.hid HD.out.size
      generalize wr.drew = WD at *
      refine wpAnyH_take (i := 0) (v := .slice (some ⟨b, off, none⟩) rs.length cap) rfl (by kernel_rfl) (by kernel_rfl) (by kernel_rfl) (fun _ _ _ h => h) (Or.inl ⟨by kernel_rfl, fun w hSw => by (try dsimp only at hSw); go_simp; all_goals first | omega | exact IntWalk.i64_in _ (by omega)⟩) (by assumption) ?_
      refine wpAnyH_take (i := 1) (v := .int .i64 (k : Int)) rfl (by kernel_rfl) (by kernel_rfl) (by kernel_rfl) (fun _ _ _ h => h) (Or.inl ⟨by kernel_rfl, fun w hSw => by (try dsimp only at hSw); go_simp; all_goals first | omega | exact IntWalk.i64_in _ (by omega)⟩) (by assumption) ?_
      refine wpAnyH_take (i := 2) (v := .pointer (some ⟨b, off + k, none⟩)) rfl (by kernel_rfl) (by kernel_rfl) (by kernel_rfl) (fun _ _ _ h => h) (Or.inl ⟨by kernel_rfl, fun w hSw => by (try dsimp only at hSw); go_simp; all_goals first | omega | exact IntWalk.i64_in _ (by omega)⟩) (by assumption) ?_
      refine wpAnyH_take (i := 3) (v := .slice A1 zs.length c1) rfl (by kernel_rfl) (by kernel_rfl) (by kernel_rfl) (fun _ _ _ h => h) (Or.inl ⟨by kernel_rfl, fun w hSw => by (try dsimp only at hSw); go_simp; all_goals first | omega | exact IntWalk.i64_in _ (by omega)⟩) (by assumption) ?_
      refine wpAnyH_take (i := 4) (v := .slice (some ⟨b', off', none⟩) rs.length cap') rfl (by kernel_rfl) (by kernel_rfl) (by kernel_rfl) (fun _ _ _ h => h) (Or.inl ⟨by kernel_rfl, fun w hSw => by (try dsimp only at hSw); go_simp; all_goals first | omega | exact IntWalk.i64_in _ (by omega)⟩) (by assumption) ?_
      refine wpAnyH_take (i := 5) (v := .int .i64 (k : Int)) rfl (by kernel_rfl) (by kernel_rfl) (by kernel_rfl) (fun _ _ _ h => h) (Or.inl ⟨by kernel_rfl, fun w hSw => by (try dsimp only at hSw); go_simp; all_goals first | omega | exact IntWalk.i64_in _ (by omega)⟩) (by assumption) ?_
      refine wpAnyH_take (i := 6) (v := .pointer (some ⟨b', off' + k, none⟩)) rfl (by kernel_rfl) (by kernel_rfl) (by kernel_rfl) (fun _ _ _ h => h) (Or.inl ⟨by kernel_rfl, fun w hSw => by (try dsimp only at hSw); go_simp; all_goals first | omega | exact IntWalk.i64_in _ (by omega)⟩) (by assumption) ?_
      refine wpAnyH_take (i := 7) (v := .slice A2 zs.length c2) rfl (by kernel_rfl) (by kernel_rfl) (by kernel_rfl) (fun _ _ _ h => h) (Or.inl ⟨by kernel_rfl, fun w hSw => by (try dsimp only at hSw); go_simp; all_goals first | omega | exact IntWalk.i64_in _ (by omega)⟩) (by assumption) ?_
      refine wpAnyH_ready (rs := [8]) (by kernel_rfl) (by simp) (AllReadyH.cons rfl (fun K hK => ?_) AllReadyH.nil)
      go_simp
      go_at_call 17
      refine (eqInts_c zs A1 A2 c1 c2 _ _ _ _ _ (HI1.out.within (within_of HD.out) (.inr (Nat.zero_le _))) (HI2.out.within (within_of HD.out) (.inr (Nat.zero_le _))) hz).mono ?_
      rintro e w9 ⟨rfl, hb9⟩
      have HB9 := Lib.hid hb9
      refine hK.out _ _ ⟨(World.cell?_of_block (hb9.block b (by have := HQ.out.1; have := HDS.out; omega))).trans hHeld.1, (World.cell?_of_block (hb9.block b' (by have := HQ'.out.1; have := HDS.out; omega))).trans hHeld.2⟩ (fun hHeld => ?_)
      clear hK K hb9
      refine wpAnyH_take (i := 9) (v := .bool false) rfl (by kernel_rfl) (by kernel_rfl) (by kernel_rfl) (fun _ _ _ h => h) (Or.inl ⟨by kernel_rfl, fun w hSw => by (try dsimp only at hSw); go_simp; all_goals first | omega | exact IntWalk.i64_in _ (by omega)⟩) (by assumption) ?_
      refine wpAnyH_done (by kernel_rfl) ?_ _
      go_wp2_with fail
      go_roundw
      case rel => exact ⟨k + 1, by omega, by go_num, below_on HB.out (below_on HD.out HB9.out HDS.out) HWS.out⟩
      case measure => simp [intOf]; omega
    · go_wp2_with fail
      go_ret
      exact ⟨rfl, HB.out⟩
end Go.Proofs.Ytedjhnedkghhoaa
/- Rows of rows of the call's own: the laws' marks in them (laws.markIntSS, heldIntSS). No condition. -/
namespace Go.Proofs.Ytedjhnedkghhoaa
open Go.RowKit

/-- The rows rs of the call's own: their row lies in a block from lo to hi, each of them in a range of its own. -/
def RowsOwn (W : World) (lo hi : Nat) (A : Option Addr) (rs : List (List Int)) : Prop :=
  hi ≤ W.heap.size ∧ (0 < rs.length → ∃ (g : Nat) (r : Nat → Nat × Nat) (S : Nat → Option Addr × Nat), A = some ⟨g, 0, none⟩ ∧ lo ≤ g ∧ g < hi ∧ (∀ j k, j < k → k < rs.length → Dis (r j) (r k)) ∧
    ∀ k, k < rs.length → W.cell? ⟨g, k, none⟩ = some (.slice (S k).1 (rs.getD k []).length (S k).2) ∧ OwnInts W (r k).1 (r k).2 (S k).1 (S k).2 (rs.getD k []) ∧ lo ≤ (r k).1 ∧ (r k).2 ≤ hi ∧ (g < (r k).1 ∨ (r k).2 ≤ g))
theorem RowsOwn.within {W W' : World} {lo hi lo' hi' : Nat} {A : Option Addr} {rs : List (List Int)} (h : RowsOwn W lo hi A rs) (hw : Within lo' hi' W W') (hd : hi ≤ lo' ∨ hi' ≤ lo) : RowsOwn W' lo hi A rs :=
  ⟨Nat.le_trans h.1 hw.size, fun hl => by
    obtain ⟨g, r, S, e, h1, h2, hdis, hc⟩ := h.2 hl
    have hk := hw.block g (Nat.lt_of_lt_of_le h2 h.1) (by omega)
    refine ⟨g, r, S, e, h1, h2, hdis, fun k hk' => ?_⟩
    obtain ⟨c1, c2, c3, c4, c5⟩ := hc k hk'
    exact ⟨(World.cell?_of_block (a := ⟨g, k, none⟩) hk).trans c1, c2.within hw (by omega), c3, c4, c5⟩⟩
theorem RowsOwn.reads {W : World} {lo hi : Nat} {A : Option Addr} {rs : List (List Int)} (h : RowsOwn W lo hi A rs) : RowsIn W lo hi A rs :=
  ⟨h.1, fun hl => by
    obtain ⟨g, r, S, e, h1, h2, _, hc⟩ := h.2 hl
    refine ⟨g, 0, e, h1, h2, fun k hk => ?_⟩
    obtain ⟨c1, c2, c3, c4, _⟩ := hc k hk
    exact ⟨(S k).1, (S k).2, by rw [Nat.zero_add]; exact c1, c2.reads.widen c3 c4 h.1⟩⟩

/-- The number of ints in the first n rows. -/
def tot (rs : List (List Int)) : Nat → Nat
  | 0 => 0
  | n + 1 => tot rs n + (rs.getD n []).length
theorem tot_le (rs : List (List Int)) {j n : Nat} (h : j ≤ n) : tot rs j ≤ tot rs n := by
  induction n with
  | zero =>
    obtain rfl : j = 0 := by omega
    exact Nat.le_refl _
  | succ n ih =>
    by_cases e : j = n + 1
    · subst e; exact Nat.le_refl _
    · have := ih (by omega)
      rw [tot]; omega
theorem tot_bound (rs : List (List Int)) (m n : Nat) (h : ∀ k, k < n → (rs.getD k []).length ≤ m) : tot rs n ≤ n * m := by
  induction n with
  | zero => simp [tot]
  | succ n ih =>
    have h1 := ih fun k hk => h k (by omega)
    have h2 := h n (by omega)
    rw [tot, Nat.add_mul]
    omega
/-- The rows that the marks from k on make. -/
def marksR (k : Int) (rs : List (List Int)) : List (List Int) := (List.range rs.length).map fun j => marksI (k + (tot rs j : Int)) (rs.getD j []).length
theorem marksR_len (k : Int) (rs : List (List Int)) : (marksR k rs).length = rs.length := by simp [marksR]
theorem marksR_get (k : Int) (rs : List (List Int)) (j : Nat) (h : j < rs.length) : (marksR k rs).getD j [] = marksI (k + (tot rs j : Int)) (rs.getD j []).length := by simp [marksR, List.getD, h]
/-- The row j while the first n rows are marked. -/
def stg (k : Int) (rs : List (List Int)) (n j : Nat) : List Int := if j < n then marksI (k + (tot rs j : Int)) (rs.getD j []).length else rs.getD j []
theorem stg_len (k : Int) (rs : List (List Int)) (n j : Nat) : (stg k rs n j).length = (rs.getD j []).length := by
  unfold stg
  split
  · rw [marksI_len]
  · rfl
theorem stg_now (k : Int) (rs : List (List Int)) (n : Nat) : stg k rs n n = rs.getD n [] := by unfold stg; rw [if_neg (by omega)]
theorem stg_next (k : Int) (rs : List (List Int)) (n : Nat) : stg k rs (n + 1) n = marksI (k + (tot rs n : Int)) (rs.getD n []).length := by unfold stg; rw [if_pos (by omega)]
theorem stg_else (k : Int) (rs : List (List Int)) (n j : Nat) (h : j ≠ n) : stg k rs (n + 1) j = stg k rs n j := by
  unfold stg
  by_cases e : j < n
  · rw [if_pos e, if_pos (by omega)]
  · rw [if_neg e, if_neg (by omega)]
/-- The rows while the first n of them are marked. -/
def MarkSt (W : World) (lo hi g : Nat) (r : Nat → Nat × Nat) (S : Nat → Option Addr × Nat) (k0 : Int) (rs : List (List Int)) (n : Nat) : Prop :=
  hi ≤ W.heap.size ∧ ∀ k, k < rs.length → W.cell? ⟨g, k, none⟩ = some (.slice (S k).1 (rs.getD k []).length (S k).2) ∧ OwnInts W (r k).1 (r k).2 (S k).1 (S k).2 (stg k0 rs n k) ∧ lo ≤ (r k).1 ∧ (r k).2 ≤ hi ∧ (g < (r k).1 ∨ (r k).2 ≤ g)
theorem MarkSt.below {W W' : World} {lo hi g : Nat} {r : Nat → Nat × Nat} {S : Nat → Option Addr × Nat} {k0 : Int} {rs : List (List Int)} {n : Nat} (h : MarkSt W lo hi g r S k0 rs n) (hg : g < hi) (hb : Below W.heap.size W W') : MarkSt W' lo hi g r S k0 rs n :=
  ⟨Nat.le_trans h.1 hb.size, fun k hk => by
    obtain ⟨c1, c2, c3, c4, c5⟩ := h.2 k hk
    have := h.1
    exact ⟨(hb.cell (p := ⟨g, k, none⟩) (show g < W.heap.size by omega)).trans c1, c2.within (within_of hb) (.inr (Nat.zero_le _)), c3, c4, c5⟩⟩
theorem MarkSt.next {W W' : World} {lo hi g : Nat} {r : Nat → Nat × Nat} {S : Nat → Option Addr × Nat} {k0 : Int} {rs : List (List Int)} {n : Nat} (h : MarkSt W lo hi g r S k0 rs n) (hg : g < hi) (hn : n < rs.length) (hd : ∀ j k, j < k → k < rs.length → Dis (r j) (r k))
    (hw : Within (r n).1 (r n).2 W W') (ho : OwnInts W' (r n).1 (r n).2 (S n).1 (S n).2 (marksI (k0 + (tot rs n : Int)) (rs.getD n []).length)) : MarkSt W' lo hi g r S k0 rs (n + 1) :=
  ⟨Nat.le_trans h.1 hw.size, fun k hk => by
    obtain ⟨c1, c2, c3, c4, c5⟩ := h.2 k hk
    obtain ⟨_, _, _, _, d5⟩ := h.2 n hn
    have := h.1
    refine ⟨(World.cell?_of_block (a := ⟨g, k, none⟩) (hw.block g (by omega) (by omega))).trans c1, ?_, c3, c4, c5⟩
    by_cases e : k = n
    · subst e
      rw [stg_next]
      exact ho
    · rw [stg_else _ _ _ _ e]
      refine c2.within hw ?_
      rcases Nat.lt_or_gt_of_ne e with e1 | e1
      · exact hd k n e1 hn
      · exact (hd n k e1 hk).symm⟩

set_option maxHeartbeats 2000000 in
set_option maxRecDepth 100000 in
theorem markRows_c (rs : List (List Int)) (A : Option Addr) (cap lo hi : Nat) (k0 : Int) (w : World) (h : RowsOwn w lo hi A rs) (hn : rs.length ≤ 1048576) (hr : ∀ k, k < rs.length → (rs.getD k []).length ≤ 1048576) (hk0 : 0 ≤ k0) (hk1 : k0 + (tot rs rs.length : Int) ≤ 10000000) :
    Calls Try.prog 24 #[.slice A rs.length cap, .int .i64 k0] w fun e w' => e = .returned (.int .i64 (k0 + (tot rs rs.length : Int))) ∧ Within lo hi w w' ∧ RowsOwn w' lo hi A (marksR k0 rs) := by
  by_cases h0 : rs.length = 0
  · have hs := h.1
    have ht : tot rs rs.length = 0 := by rw [h0]; rfl
    rw [ht]
    rw [h0]
    go_enter Try.func24, Try.ntmps24
    go_wp2_with fail
    refine wp_loop_rounds 1 ?_
    rw [rounds_succ]
    go_wp2_with fail
    go_ret
    exact ⟨by simp, Within.refl _ _ _, hs, fun hl => by rw [marksR_len] at hl; omega⟩
  · obtain ⟨g, r, S, rfl, h1, h2, hd, hc⟩ := h.2 (by omega)
    have HD := Lib.hid hd
    have HR := Lib.hid hr
    have HM := Lib.hid (show MarkSt w lo hi g r S k0 rs 0 from ⟨h.1, fun k hk => by
      have := hc k hk
      unfold stg
      rw [if_neg (by omega)]
      exact this⟩)
    clear hd hr hc h
    go_enter Try.func24, Try.ntmps24
    go_wp2_with fail
    go_loopw [1, 5] (fun m i wr => ∃ j : Nat, j ≤ rs.length ∧ i = .int .i64 j ∧ m = .int .i64 (k0 + (tot rs j : Int)) ∧ MarkSt wr lo hi g r S k0 rs j ∧ Within lo hi w wr) (fun _ i _ => rs.length - (intOf i).toNat)
    case atStart => exact ⟨0, by omega, rfl, by simp [tot], HM.out, Within.refl _ _ _⟩
    case round =>
      obtain ⟨j, hj, rfl, rfl, hm, hw⟩ := hrel
      have HW := Lib.hid hw
      have HM := Lib.hid hm
      clear hm hw
      by_cases hlt : j < rs.length
      · have hij : (j : Int) < (rs.length : Int) := by omega
        obtain ⟨c1, c2, c3, c4, c5⟩ := HM.out.2 j hlt
        rw [stg_now] at c2
        have hz := HR.out j hlt
        have ht := tot_le rs (j := j + 1) (n := rs.length) (by omega)
        have hs : tot rs (j + 1) = tot rs j + (rs.getD j []).length := rfl
        obtain ⟨zs, hzs⟩ : ∃ zs, rs.getD j [] = zs := ⟨_, rfl⟩
        rw [hzs] at c1 c2 hz hs
        have HZS := Lib.hid hzs
        have HO := Lib.hid c2
        have HS := Lib.hid hs
        have HQ := Lib.hid (And.intro c3 c4)
        clear c2 hzs hs c3 c4 c5
        obtain ⟨⟨A', cp⟩, hS⟩ : ∃ s, S j = s := ⟨_, rfl⟩
        rw [hS] at c1 HO
        have HSJ := Lib.hid hS
        clear hS
        go_wp2_with fail
        refine (markInts_o A' cp zs (k0 + (tot rs j : Int)) (r j).1 (r j).2 _ HO.out hz (by omega) (by have := HS.out; omega)).mono ?_
        rintro e w3 ⟨rfl, hw3, ho3⟩
        have HM3 := Lib.hid (HM.out.next h2 hlt HD.out hw3 (by rw [HZS.out, HSJ.out]; exact ho3))
        have HW3 := Lib.hid (show Within lo hi w w3 from ⟨hw3.os.trans HW.out.os, hw3.tape.trans HW.out.tape, hw3.output.trans HW.out.output, Nat.le_trans HW.out.size hw3.size, fun i hi' hd' => (hw3.block i (Nat.lt_of_lt_of_le hi' HW.out.size) (by have := HQ.out; omega)).trans (HW.out.block i hi' hd')⟩)
        have hnx : k0 + (tot rs j : Int) + (zs.length : Int) = k0 + (tot rs (j + 1) : Int) := by rw [HS.out]; omega
        clear hw3 ho3
        rw [hnx]
        go_wp2_with fail
        go_roundw
        case rel => exact ⟨j + 1, by omega, by go_num, rfl, HM3.out, HW3.out⟩
        case measure => simp [intOf]; omega
      · obtain rfl : j = rs.length := by omega
        go_wp2_with fail
        go_ret
        refine ⟨rfl, HW.out, HM.out.1, fun _ => ⟨g, r, S, rfl, h1, h2, fun j k hjk hk => HD.out j k hjk (by rw [marksR_len] at hk; exact hk), fun k hk => ?_⟩⟩
        rw [marksR_len] at hk
        obtain ⟨c1, c2, c3, c4, c5⟩ := HM.out.2 k hk
        rw [marksR_get _ _ _ hk, marksI_len]
        unfold stg at c2
        rw [if_pos hk] at c2
        exact ⟨c1, c2, c3, c4, c5⟩

set_option maxHeartbeats 2000000 in
set_option maxRecDepth 100000 in
theorem heldRows_c (rs : List (List Int)) (A : Option Addr) (cap lo hi : Nat) (k0 : Int) (w : World) (h : RowsIn w lo hi A (marksR k0 rs)) (hn : rs.length ≤ 1048576) (hr : ∀ k, k < rs.length → (rs.getD k []).length ≤ 1048576) (hk0 : 0 ≤ k0) (hk1 : k0 + (tot rs rs.length : Int) ≤ 10000000) :
    Calls Try.prog 25 #[.slice A rs.length cap, .int .i64 k0] w fun e w' => e = .returned (.int .i64 (k0 + (tot rs rs.length : Int))) ∧ Below w.heap.size w w' := by
  have HL := Lib.hid h
  have HR := Lib.hid hr
  clear h hr
  go_enter Try.func25, Try.ntmps25
  go_wp2_with fail
  go_loopw [1, 5] (fun m i wr => ∃ j : Nat, j ≤ rs.length ∧ i = .int .i64 j ∧ m = .int .i64 (k0 + (tot rs j : Int)) ∧ Below w.heap.size w wr) (fun _ i _ => rs.length - (intOf i).toNat)
  case atStart => exact ⟨0, by omega, rfl, by simp [tot], Below.refl _ _⟩
  case round =>
    obtain ⟨j, hj, rfl, rfl, hb⟩ := hrel
    have HQ := Lib.hid (HL.out.within (within_low hb) (.inl HL.out.1))
    have HB := Lib.hid hb
    clear hb
    by_cases hlt : j < rs.length
    · have hi : (j : Int) < (rs.length : Int) := by omega
      obtain ⟨b, off, rfl, _, _, hcell⟩ := HQ.out.2 (by rw [marksR_len]; omega)
      obtain ⟨A1, c1, hc1, hi1⟩ := hcell j (by rw [marksR_len]; exact hlt)
      rw [marksR_get _ _ _ hlt] at hc1 hi1
      rw [marksI_len] at hc1
      have hz := HR.out j hlt
      have ht := tot_le rs (j := j + 1) (n := rs.length) (by omega)
      have hs : tot rs (j + 1) = tot rs j + (rs.getD j []).length := rfl
      obtain ⟨m, hm⟩ : ∃ m, (rs.getD j []).length = m := ⟨_, rfl⟩
      rw [hm] at hc1 hi1 hz hs
      have HI1 := Lib.hid hi1
      have HS := Lib.hid hs
      clear hcell hi1 hm hs
      go_wp2_with fail
      refine (heldInts_c m A1 c1 (k0 + (tot rs j : Int)) _ _ _ HI1.out hz (by omega) (by have := HS.out; omega)).mono ?_
      rintro e w3 ⟨rfl, hb3⟩
      have HB3 := Lib.hid (below_on HB.out hb3 HB.out.size)
      have hnx : k0 + (tot rs j : Int) + (m : Int) = k0 + (tot rs (j + 1) : Int) := by rw [HS.out]; omega
      clear hb3
      rw [hnx]
      have hnn : ¬ k0 + (tot rs (j + 1) : Int) < 0 := by omega
      go_wp2_with fail
      go_roundw
      case rel => exact ⟨j + 1, by omega, by go_num, rfl, HB3.out⟩
      case measure => simp [intOf]; omega
    · obtain rfl : j = rs.length := by omega
      go_wp2_with fail
      go_ret
      exact ⟨rfl, HB.out⟩
end Go.Proofs.Ytedjhnedkghhoaa
/- Rows of slices of the call's own: what an append onto them asks and does. No condition. -/
namespace Go.Proofs.Ytedjhnedkghhoaa
open Go.RowKit

/-- A row of slices of the call's own in a block from lo to hi, or no block; an empty one too can be appended to. -/
def OwnS (W : World) (lo hi : Nat) (A : Option Addr) (cap : Nat) (zs : List Value) : Prop :=
  hi ≤ W.heap.size ∧ ((A = none ∧ cap = 0 ∧ zs = []) ∨ ∃ g, A = some ⟨g, 0, none⟩ ∧ lo ≤ g ∧ g < hi ∧ W.ownsRow lo 25 1 (.slice (some ⟨g, 0, none⟩) zs.length cap) zs.length zs)
theorem OwnS.within {W W' : World} {lo hi lo' hi' : Nat} {A : Option Addr} {cap : Nat} {zs : List Value} (h : OwnS W lo hi A cap zs) (hw : Within lo' hi' W W') (hd : hi ≤ lo' ∨ hi' ≤ lo) : OwnS W' lo hi A cap zs :=
  ⟨Nat.le_trans h.1 hw.size, by
    rcases h.2 with h2 | ⟨g, e, h1, h2, ho⟩
    · exact .inl h2
    · exact .inr ⟨g, e, h1, h2, own_block ho (hw.block g (Nat.lt_of_lt_of_le h2 h.1) (by omega))⟩⟩
/-- What an append onto the row asks. -/
theorem OwnS.row {W : World} {lo hi : Nat} {A : Option Addr} {cap : Nat} {zs : List Value} (h : OwnS W lo hi A cap zs) : W.ownsRow lo 25 1 (.slice A zs.length cap) zs.length zs := by
  rcases h.2 with ⟨rfl, rfl, rfl⟩ | ⟨g, rfl, _, _, ho⟩
  · exact ⟨rfl, .inl ⟨rfl, rfl⟩⟩
  · exact ho
theorem own_s {w' : World} {base : Nat} {A : Option Addr} {cap : Nat} {zs : List Value} (h : w'.ownsRow base 25 1 (.slice A zs.length cap) zs.length zs) : OwnS w' base w'.heap.size A cap zs := by
  rcases h.2 with ⟨h1, h0⟩ | ⟨g, cap', cur, h1, h2⟩
  · injection h1 with e1 e2 e3
    exact ⟨Nat.le_refl _, .inl ⟨e1, e3, List.eq_nil_of_length_eq_zero h0⟩⟩
  · cases h1
    exact ⟨Nat.le_refl _, .inr ⟨g, rfl, (h.lt g rfl).1, (h.lt g rfl).2, h⟩⟩
theorem infoInts : (Try.prog.info? 25).map (fun i => (i.zero, i.size, i.bytes)) = some (some (.slice none 0 0), 1, 24) := by kernel_rfl
theorem wpList_pushS (w : World) {ops : Array Oper} {rest : List Oper} {o : Oper} {a : Act} {Q : Exit → Act → World → Prop} (hgd : o.guard = none) (s x : Operand)
    (ho : o.op = .call { callee := .builtin .append, args := #[s, x], argTypes := #[36, 36] }) (lo hi : Nat) (A : Option Addr) (cap : Nat) (zs : List Value) (y : Value) (hy : y.oneCell' = true) (hs : a.eval s = .slice A zs.length cap) (hr : OwnS w lo hi A cap zs)
    (tb : TypeId) (hx : a.eval x = .slice (some ⟨w.heap.size, 0, none⟩) 1 1) (hn : zs.length ≤ 1048576) (hlo : lo ≤ w.heap.size)
    (h : ∀ A' c' w' lo' hi', OwnS w' lo' hi' A' c' (zs ++ [y]) → ((lo' = lo ∧ hi' = hi) ∨ (w.heap.size ≤ lo' ∧ lo' ≤ w'.heap.size ∧ hi' ≤ w'.heap.size)) → Within lo hi w w' → wpList Try.prog ops Q rest (a.put o.dst (.slice A' (zs.length + 1) c')) w') : wpList Try.prog ops Q (o :: rest) a (w.alloc (.cells #[y] tb)) := by
  have hlen : (zs ++ [y]).length = zs.length + 1 := by simp
  refine wpList_at w hgd s x 36 ho lo 25 (.slice none 0 0) 1 24 Try.underlying36 infoInts rfl (by decide) _ _ _ hs hr.row #[y] 1 rfl (by intro u hu; simp at hu; subst hu; exact hy) tb 1 hx (by omega) (by unfold maxLen; omega) hlo ?_
  intro v' w' hown hg hat _
  obtain ⟨A', c', rfl⟩ := own_shape hown
  rw [show zs ++ (#[y] : Array Value).toList = zs ++ [y] from rfl, ← hlen] at hown
  rw [← hlen] at hat
  have hw : Within lo hi w w' := ⟨hg.os, hg.tape, hg.output, hg.size, fun k hk hd => hg.block k hk fun e => by
    rcases hr.2 with ⟨rfl, rfl, rfl⟩ | ⟨g, rfl, g1, g2, _⟩
    · cases e
    · have : k = g := by simpa [Value.ownBlock] using e
      omega⟩
  rcases hown.2 with ⟨_, e0⟩ | ⟨g', cap', cur, e1, _⟩
  · rw [hlen] at e0; omega
  · injection e1 with q1 q2 q3
    subst q1
    have hlt := hown.lt g' rfl
    rcases hat with e | e
    · rcases hr.2 with ⟨rfl, rfl, rfl⟩ | ⟨g, rfl, g1, g2, _⟩
      · cases e
      · have : g' = g := by simpa [Value.ownBlock] using e
        subst this
        exact h _ c' w' lo hi ⟨Nat.le_trans hr.1 hg.size, .inr ⟨g', rfl, g1, g2, hown⟩⟩ (.inl ⟨rfl, rfl⟩) hw
    · have : g' = w.heap.size + 1 := by simpa [Value.ownBlock] using e
      exact h _ c' w' g' (g' + 1) ⟨hlt.2, .inr ⟨g', rfl, Nat.le_refl _, by omega, own_rebase hown (Nat.le_refl _)⟩⟩ (.inr ⟨by omega, by omega, hlt.2⟩) hw
end Go.Proofs.Ytedjhnedkghhoaa
/- Rows of rows of the call's own while they grow. No condition. -/
namespace Go.Proofs.Ytedjhnedkghhoaa
open Go.RowKit

/-- The rows rs of the call's own: their row lies in a block from lo to hi, each of them in a range of its own; all lie from B to T. -/
structure RowsG (W : World) (B T lo hi : Nat) (A : Option Addr) (cap : Nat) (rs : List (List Int)) : Prop where
  top : T ≤ W.heap.size
  out : B ≤ lo ∧ lo ≤ T ∧ hi ≤ T
  rows : ∃ (zs : List Value) (r : Nat → Nat × Nat) (S : Nat → Option Addr × Nat), zs.length = rs.length ∧ OwnS W lo hi A cap zs ∧ (∀ j k, j < k → k < rs.length → Dis (r j) (r k)) ∧
    ∀ k, k < rs.length → zs.getD k (.slice none 0 0) = .slice (S k).1 (rs.getD k []).length (S k).2 ∧ OwnInts W (r k).1 (r k).2 (S k).1 (S k).2 (rs.getD k []) ∧ B ≤ (r k).1 ∧ (r k).2 ≤ T ∧ Dis (lo, hi) (r k)
theorem RowsG.below {W W' : World} {B T lo hi : Nat} {A : Option Addr} {cap : Nat} {rs : List (List Int)} (h : RowsG W B T lo hi A cap rs) (hb : Below W.heap.size W W') : RowsG W' B T lo hi A cap rs := by
  obtain ⟨ht, ho, zs, r, S, h1, h2, h3, h4⟩ := h
  refine ⟨Nat.le_trans ht hb.size, ho, zs, r, S, h1, h2.within (within_of hb) (.inr (Nat.zero_le _)), h3, fun k hk => ?_⟩
  obtain ⟨c1, c2, c3, c4, c5⟩ := h4 k hk
  exact ⟨c1, c2.within (within_of hb) (.inr (Nat.zero_le _)), c3, c4, c5⟩
/-- What lies below B may change. -/
theorem RowsG.far {W W' : World} {B T lo hi : Nat} {A : Option Addr} {cap : Nat} {rs : List (List Int)} (h : RowsG W B T lo hi A cap rs) {a b : Nat} (hw : Within a b W W') (hab : b ≤ B) : RowsG W' B T lo hi A cap rs := by
  obtain ⟨ht, ho, zs, r, S, h1, h2, h3, h4⟩ := h
  refine ⟨Nat.le_trans ht hw.size, ho, zs, r, S, h1, h2.within hw (.inr (by omega)), h3, fun k hk => ?_⟩
  obtain ⟨c1, c2, c3, c4, c5⟩ := h4 k hk
  exact ⟨c1, c2.within hw (.inr (by omega)), c3, c4, c5⟩
theorem RowsG.nil (W : World) : RowsG W W.heap.size W.heap.size W.heap.size W.heap.size none 0 [] :=
  ⟨Nat.le_refl _, ⟨Nat.le_refl _, Nat.le_refl _, Nat.le_refl _⟩, [], fun _ => (0, 0), fun _ => (none, 0), rfl, ⟨Nat.le_refl _, .inl ⟨rfl, rfl, rfl⟩⟩, fun _ _ _ hk => absurd hk (by simp), fun _ hk => absurd hk (by simp)⟩
theorem RowsG.made (W : World) : RowsG (W.alloc (.cells #[] 25)) W.heap.size (W.heap.size + 1) W.heap.size (W.heap.size + 1) (some ⟨W.heap.size, 0, none⟩) 0 [] := by
  have hm := World.ownsRow_made (base := W.heap.size) (e := 25) (size := 1) W #[] 0 (Nat.le_refl _) (by unfold maxLen; omega) (by simp)
  exact ⟨by simp, ⟨Nat.le_refl _, by omega, Nat.le_refl _⟩, [], fun _ => (0, 0), fun _ => (none, 0), rfl, ⟨by simp, .inr ⟨W.heap.size, rfl, Nat.le_refl _, Nat.lt_succ_self _, hm⟩⟩, fun _ _ _ hk => absurd hk (by simp), fun _ hk => absurd hk (by simp)⟩
theorem getD_old {α : Type} {rs : List α} {x z : α} {k : Nat} (h : k < rs.length) : (rs ++ [x]).getD k z = rs.getD k z := by
  simp [List.getD, List.getElem?_append_left h]
theorem getD_new {α : Type} {rs : List α} {x z : α} : (rs ++ [x]).getD rs.length z = x := by
  simp [List.getD]
/-- The values zs are the rows rs, each in a range of its own. -/
def RowsP (W : World) (B T lo hi : Nat) (zs : List Value) (rs : List (List Int)) : Prop :=
  ∃ (r : Nat → Nat × Nat) (S : Nat → Option Addr × Nat), (∀ j k, j < k → k < rs.length → Dis (r j) (r k)) ∧ ∀ k, k < rs.length → zs.getD k (.slice none 0 0) = .slice (S k).1 (rs.getD k []).length (S k).2 ∧ OwnInts W (r k).1 (r k).2 (S k).1 (S k).2 (rs.getD k []) ∧ B ≤ (r k).1 ∧ (r k).2 ≤ T ∧ Dis (lo, hi) (r k)
/-- One row more, whose ints lie from q.1 to q.2. -/
theorem RowsG.push {W W' : World} {B T lo hi lo' hi' : Nat} {A A' : Option Addr} {cap c' : Nat} {rs : List (List Int)} (h : RowsG W B T lo hi A cap rs) {q : Nat × Nat} {Ax : Option Addr} {cx : Nat} {x : List Int} (hx : OwnInts W q.1 q.2 Ax cx x) (hq : T ≤ q.1)
    {zs : List Value} (_hz : zs.length = rs.length) (hzs : RowsP W B T lo hi zs rs)
    (ho : OwnS W' lo' hi' A' c' (zs ++ [.slice Ax x.length cx])) (hd : (lo' = lo ∧ hi' = hi) ∨ (W.heap.size ≤ lo' ∧ lo' ≤ W'.heap.size ∧ hi' ≤ W'.heap.size)) (hw : Within lo hi W W') : RowsG W' B W'.heap.size lo' hi' A' c' (rs ++ [x]) := by
  obtain ⟨r, S, h3, h4⟩ := hzs
  have ht := h.top
  have hoB := h.out
  have hs := hw.size
  have hx1 := hx.1
  refine ⟨Nat.le_refl _, by omega, zs ++ [.slice Ax x.length cx], fun k => if k < rs.length then r k else q, fun k => if k < rs.length then S k else (Ax, cx), by simp [_hz], ho, fun j k hjk hk => ?_, fun k hk => ?_⟩
  · have hk' : k < rs.length + 1 := by simpa using hk
    by_cases e : k < rs.length
    · have e' : j < rs.length := by omega
      simp only [e, e', if_true]
      exact h3 j k hjk e
    · have e' : j < rs.length := by omega
      simp only [e, e', if_true, if_false]
      have := (h4 j e').2.2.2.1
      exact .inl (by omega)
  · have hk' : k < rs.length + 1 := by simpa using hk
    by_cases e : k < rs.length
    · simp only [e, if_true]
      obtain ⟨c1, c2, c3, c4, c5⟩ := h4 k e
      rw [getD_old (by omega), getD_old e]
      refine ⟨c1, c2.within hw ?_, c3, by omega, ?_⟩
      · unfold Dis at c5
        omega
      · unfold Dis at c5 ⊢
        dsimp only at c5 ⊢
        omega
    · obtain rfl : k = rs.length := by omega
      simp only [Nat.lt_irrefl, if_false]
      rw [← _hz, getD_new, _hz, getD_new]
      refine ⟨rfl, hx.within hw (by omega), by omega, by omega, ?_⟩
      unfold Dis
      dsimp only
      omega
theorem RowsG.cells {W : World} {B T lo hi : Nat} {A : Option Addr} {cap : Nat} {rs : List (List Int)} (h : RowsG W B T lo hi A cap rs) : RowsOwn W B T A rs := by
  obtain ⟨ht, hoB, zs, r, S, h1, h2, h3, h4⟩ := h
  refine ⟨ht, fun hl => ?_⟩
  rcases h2.2 with ⟨_, _, e⟩ | ⟨g, rfl, g1, g2, hown⟩
  · rw [e] at h1
    simp at h1
    omega
  · refine ⟨g, r, S, rfl, by omega, by omega, h3, fun k hk => ?_⟩
    obtain ⟨c1, c2, c3, c4, c5⟩ := h4 k hk
    refine ⟨?_, c2, c3, c4, ?_⟩
    · rw [← c1, World.ownsRow.cellAt hown k (by omega)]
      simp [List.getD, List.getElem?_eq_getElem (show k < zs.length by omega)]
    · unfold Dis at c5
      dsimp only at c5
      omega
end Go.Proofs.Ytedjhnedkghhoaa
/- Trees that grow in a row of slices: an append onto one of them, where the new row lies, what is as it was; how a tree is taken back. No program's walk. No condition. -/
namespace Go.Proofs.Ytedjhnedkghhoaa
open Go.RowKit

theorem run_pushT (w : World) (ty : TypeId) (A : Option Addr) (c n : Nat) (xs : List Value) (u : Value) (hu : u.oneCell' = true) (hown : w.ownsRow 0 3 1 (.slice A n c) n xs) (ad : Addr) (cc : Nat) (hnews : w.cell? (ad.add 0) = some u) (hn : n ≤ 1048576) :
    ∃ A' c' w', (Builtin.append_ #[25, 25] ty #[.slice A n c, .slice (some ad) 1 cc]).run Try.prog w = .ok (.slice A' (n + 1) c') w' ∧ w'.ownsRow 0 3 1 (.slice A' (n + 1) c') (n + 1) (xs ++ [u]) ∧ ((∃ g, A = some ⟨g, 0, none⟩ ∧ A' = A ∧ c' = c ∧ w.grownBy w' (some g)) ∨ (A' = some ⟨w.heap.size, 0, none⟩ ∧ w.grownBy w' none)) := by
  obtain ⟨i, hi, hz0, hz1, hz2⟩ := info_parts infoInt
  have hnw : ∀ j v, [u][j]? = some v → w.cell? (ad.add j) = some v := by
    intro j v hj
    match j, hj with
    | 0, hj =>
      simp at hj
      subst hj
      exact hnews
  have h1 : ∀ v ∈ [u], v.oneCell' = true := by
    intro v hv
    simp at hv
    subst hv
    exact hu
  have hm : n + 1 ≤ maxLen := by unfold maxLen; omega
  have hm2 : n + 1 ≤ 9223372036854775807 := by omega
  have hx := hown.1
  have hlen : (xs ++ [u]).length = (n + 1) * 1 := by rw [List.length_append, hx]; simp
  have grown : ∀ (old : Nat), old < n + 1 →
      (w.drew.alloc (.cells (xs.toArray ++ [u].toArray ++ Builtin.zeroCells (Value.int .i64 0).cells (grownCap w (n + 1) old 3 - (n + 1))) 3)).ownsRow 0 3 1
        (.slice (some ⟨w.heap.size, 0, none⟩) (n + 1) (grownCap w (n + 1) old 3)) (n + 1) (xs ++ [u]) ∧
      w.grownBy (w.drew.alloc (.cells (xs.toArray ++ [u].toArray ++ Builtin.zeroCells (Value.int .i64 0).cells (grownCap w (n + 1) old 3 - (n + 1))) 3)) none := by
    intro old ho
    have hge := grownCap_ge w (n + 1) old 3
    have hcm : grownCap w (n + 1) old 3 ≤ maxLen := grownCap_le_maxLen w (n + 1) old 3 hm
    refine ⟨⟨hlen, .inr ⟨w.heap.size, _, _, rfl, Nat.zero_le _, heap_alloc_new w.drew _, hge, hcm, ?_, ?_⟩⟩, ⟨rfl, rfl, rfl, by simp, fun k hk _ => heap_alloc_old w.drew _ hk⟩⟩
    · have hz : (Value.int .i64 0).cells.size = 1 := rfl
      simp only [Array.size_append, List.size_toArray, size_zeroCells, hz, hx]
      simp
      omega
    · simp only [Array.toList_append, List.append_assoc]
      rw [← List.append_assoc, ← hlen]
      exact List.take_left
  rcases hown.2 with ⟨hv, hn0⟩ | ⟨g, cap, cur, hv, _, _, hnc, hcm, _, _⟩
  · injection hv with e1 e2 e3
    subst e1 e3 hn0
    have hx0 : xs = [] := List.eq_nil_of_length_eq_zero (by simpa using hx)
    subst hx0
    have hr := run_append_nil (P := Try.prog) w 25 ty 3 i _ Try.underlying25 hi hz0 ad 1 cc [u] (by rw [hz1]; rfl) hnw (by omega) (by omega) (by rw [hz2]; omega)
    have hgr := grown 0 (by omega)
    simp only [Nat.zero_add, List.nil_append, Array.empty_append] at hgr ⊢
    exact ⟨_, _, _, hr, hgr.1, .inr ⟨rfl, hgr.2⟩⟩
  · injection hv with e1 e2 e3
    subst e1 e3
    by_cases hroom : n + 1 ≤ c
    · obtain ⟨w', hr, ho, hg⟩ := run_append_fits (P := Try.prog) w 0 25 ty 3 i 1 Try.underlying25 hi hz1 g n c xs hown ad 1 cc [u] rfl hnw h1 hroom
      exact ⟨_, _, w', hr, ho, .inl ⟨g, rfl, rfl, rfl, hg⟩⟩
    · have holds : ∀ j v, xs[j]? = some v → w.cell? ((⟨g, 0, none⟩ : Addr).add j) = some v := hown.cells (g := g) rfl
      have hr := run_append_grow (P := Try.prog) w 25 ty 3 i _ Try.underlying25 hi hz0 ⟨g, 0, none⟩ n c xs (by rw [hz1]; exact hx) holds ad 1 cc [u] (by rw [hz1]; rfl) hnw (by omega) (by omega) (growslice_fits (by omega) (by rw [hz2]; omega))
      have hgr := grown c (by omega)
      exact ⟨_, _, _, hr, hgr.1, .inr ⟨rfl, hgr.2⟩⟩
theorem wpList_pushT (w : World) {ops : Array Oper} {rest : List Oper} {o : Oper} {a : Act} {Q : Exit → Act → World → Prop} (hgd : o.guard = none) (s x : Operand)
    (ho : o.op = .call { callee := .builtin .append, args := #[s, x], argTypes := #[25, 25] }) (A : Option Addr) (c n : Nat) (xs : List Value) (u : Value) (hs : a.eval s = .slice A n c) (hu : u.oneCell' = true) (hown : w.ownsRow 0 3 1 (.slice A n c) n xs)
    (ad : Addr) (cc : Nat) (hx : a.eval x = .slice (some ad) 1 cc) (hnews : w.cell? (ad.add 0) = some u) (hn : n ≤ 1048576)
    (h : ∀ A' c' w', w'.ownsRow 0 3 1 (.slice A' (n + 1) c') (n + 1) (xs ++ [u]) → ((∃ g, A = some ⟨g, 0, none⟩ ∧ A' = A ∧ c' = c ∧ w.grownBy w' (some g)) ∨ (A' = some ⟨w.heap.size, 0, none⟩ ∧ w.grownBy w' none)) → wpList Try.prog ops Q rest (a.put o.dst (.slice A' (n + 1) c')) w') : wpList Try.prog ops Q (o :: rest) a w := by
  refine wpList_plain hgd fun K hK => ?_
  obtain ⟨A', c', w', hr, h2, h3⟩ := run_pushT w o.type A c n xs u hu hown ad cc hnews hn
  unfold Oper.wp execOp
  simp only [ho, resolve, invoke, builtin, Sem.run_bind, Sem.run_pure, Result.andThen_ok, List.map_toArray, List.map_cons, List.map_nil, hs, hx, hr]
  exact hK _ _ (h A' c' w' h2 h3)

/-- One tree: nothing yet, or a row in a block of its own from B on, not g. -/
def RowO (W : World) (B g : Nat) (A : Option Addr) (c : Nat) (zs : List Int) : Prop :=
  (A = none ∧ c = 0 ∧ zs = []) ∨ ∃ b, A = some ⟨b, 0, none⟩ ∧ B ≤ b ∧ b ≠ g ∧ b < W.heap.size ∧ W.ownsRow 0 3 1 (.slice (some ⟨b, 0, none⟩) zs.length c) zs.length (intCells zs)
theorem RowO.row {W : World} {B g : Nat} {A : Option Addr} {c : Nat} {zs : List Int} (h : RowO W B g A c zs) : W.ownsRow 0 3 1 (.slice A zs.length c) zs.length (intCells zs) := by
  rcases h with ⟨rfl, rfl, rfl⟩ | ⟨b, rfl, _, _, _, ho⟩
  · exact ⟨rfl, .inl ⟨rfl, rfl⟩⟩
  · exact ho
theorem RowO.kept {W W' : World} {B g : Nat} {A : Option Addr} {c : Nat} {zs : List Int} (h : RowO W B g A c zs) (hs : W.heap.size ≤ W'.heap.size) (hk : ∀ b, A = some ⟨b, 0, none⟩ → W'.heap[b]? = W.heap[b]?) : RowO W' B g A c zs := by
  rcases h with h | ⟨b, rfl, h1, h2, h3, ho⟩
  · exact .inl h
  · exact .inr ⟨b, rfl, h1, h2, by omega, own_block ho (hk b rfl)⟩
/-- The longer row, shorter again: it lies where it lay. -/
theorem RowO.back {W : World} {B g : Nat} {A : Option Addr} {c : Nat} {zs : List Int} {y : Int} (h : RowO W B g A c (zs ++ [y])) : RowO W B g A c zs := by
  rcases h with ⟨_, _, h⟩ | ⟨b, rfl, h1, h2, h3, ho⟩
  · exact absurd h (by simp)
  · refine .inr ⟨b, rfl, h1, h2, h3, by simp [intCells], ?_⟩
    rcases ho.2 with ⟨e, _⟩ | ⟨g', cap', cur, e, e1, e2, e3, e4, e5, e6⟩
    · cases e
    · rw [List.length_append, List.length_cons, List.length_nil] at e3 e6
      refine .inr ⟨g', cap', cur, ?_, e1, e2, by omega, e4, e5, ?_⟩
      · injection e with q1 q2 q3
        rw [q1, q3]
      · have : cur.toList.take (zs.length * 1) = ((cur.toList.take ((zs.length + (0 + 1)) * 1)).take (zs.length * 1)) := by rw [List.take_take]; congr 1; omega
        rw [this, e6]
        simp [intCells]
theorem RowO.ints {W : World} {B g : Nat} {A : Option Addr} {c : Nat} {zs : List Int} (h : RowO W B g A c zs) : IntsIn W 0 W.heap.size A zs :=
  ⟨Nat.le_refl _, fun hl => by
    rcases h with ⟨_, _, e⟩ | ⟨b, rfl, _, _, h3, ho⟩
    · subst e; simp at hl
    · exact ⟨b, 0, rfl, Nat.zero_le _, h3, fun k hk => by
        rw [Nat.zero_add]
        exact (ho.cellAt k (by omega)).trans (intCells_get zs k hk)⟩⟩
def headsT (T : List (List Int)) (S : Nat → Option Addr × Nat) : List Value := (List.range T.length).map fun i => .slice (S i).1 (T.getD i []).length (S i).2
theorem headsT_len (T : List (List Int)) (S : Nat → Option Addr × Nat) : (headsT T S).length = T.length := by simp [headsT]
theorem headsT_get (T : List (List Int)) (S : Nat → Option Addr × Nat) (i : Nat) (h : i < T.length) : (headsT T S)[i]? = some (.slice (S i).1 (T.getD i []).length (S i).2) := by simp [headsT, h]
/-- The trees, each in a block of its own, their headers in block g. -/
structure TrW (W : World) (B g cp : Nat) (T : List (List Int)) (S : Nat → Option Addr × Nat) : Prop where
  row : W.ownsRow 0 25 1 (.slice (some ⟨g, 0, none⟩) T.length cp) T.length (headsT T S)
  each : ∀ i, i < T.length → RowO W B g (S i).1 (S i).2 (T.getD i [])
  dis : ∀ i j, i < T.length → j < T.length → i ≠ j → ∀ a, (S i).1 = some a → (S j).1 ≠ some a
theorem TrW.cell {W : World} {B g cp : Nat} {T : List (List Int)} {S : Nat → Option Addr × Nat} (h : TrW W B g cp T S) (i : Nat) (hi : i < T.length) : W.cell? ⟨g, i, none⟩ = some (.slice (S i).1 (T.getD i []).length (S i).2) := (h.row.cellAt i (by omega)).trans (headsT_get T S i hi)
theorem TrW.lt {W : World} {B g cp : Nat} {T : List (List Int)} {S : Nat → Option Addr × Nat} (h : TrW W B g cp T S) : g < W.heap.size := (h.row.lt g rfl).2
theorem TrW.new {W W' : World} {B g cp : Nat} {T : List (List Int)} {S : Nat → Option Addr × Nat} (h : TrW W B g cp T S) (hb : Below W.heap.size W W') : TrW W' B g cp T S :=
  ⟨own_below h.row hb, fun i hi => (h.each i hi).kept hb.size fun b e => by
    rcases h.each i hi with ⟨e2, _⟩ | ⟨b', e2, _, _, h3, _⟩
    · rw [e2] at e; cases e
    · rw [e2] at e
      injection e with e
      injection e with e
      subst e
      exact hb.block b' h3, h.dis⟩
/-- What may have changed: block g, and the blocks of the first n headers. -/
structure FrW (W W' : World) (g n : Nat) (S : Nat → Option Addr × Nat) : Prop where
  os : W'.os = W.os
  tape : W'.tape = W.tape
  output : W'.output = W.output
  size : W.heap.size ≤ W'.heap.size
  block : ∀ b, b < W.heap.size → b ≠ g → (∀ i, i < n → (S i).1 ≠ some ⟨b, 0, none⟩) → W'.heap[b]? = W.heap[b]?
theorem FrW.refl (W : World) (g n : Nat) (S : Nat → Option Addr × Nat) : FrW W W g n S := ⟨rfl, rfl, rfl, Nat.le_refl _, fun _ _ _ _ => rfl⟩
theorem FrW.below {W W1 W2 : World} {g n : Nat} {S : Nat → Option Addr × Nat} (h : FrW W W1 g n S) (hb : Below W1.heap.size W1 W2) : FrW W W2 g n S :=
  ⟨hb.os.trans h.os, hb.tape.trans h.tape, hb.output.trans h.output, Nat.le_trans h.size hb.size, fun b h1 h2 h3 => (hb.block b (Nat.lt_of_lt_of_le h1 h.size)).trans (h.block b h1 h2 h3)⟩
def updS (S : Nat → Option Addr × Nat) (i : Nat) (x : Option Addr × Nat) : Nat → Option Addr × Nat := fun j => if j = i then x else S j
/-- The new header of tree i: the old block, or a new one. -/
def NewH (W : World) (S : Nat → Option Addr × Nat) (i : Nat) (x : Option Addr × Nat) : Prop := (x = S i ∧ (S i).1 ≠ none) ∨ ∃ b, x.1 = some ⟨b, 0, none⟩ ∧ W.heap.size ≤ b
/-- Where tree i lies in a new block the old one is as it was. -/
def OldH (W W1 : World) (S : Nat → Option Addr × Nat) (i : Nat) (x : Option Addr × Nat) : Prop := x = S i ∨ ∀ b, b < W.heap.size → (S i).1 = some ⟨b, 0, none⟩ → W1.heap[b]? = W.heap[b]?
/-- A change within what the trees behind an append may touch. -/
theorem FrW.deep {W W1 W2 : World} {g n i : Nat} {S : Nat → Option Addr × Nat} {x : Option Addr × Nat} (hx : NewH W S i x) (h : FrW W W1 g n S) (k : FrW W1 W2 g n (updS S i x)) : FrW W W2 g n S :=
  ⟨k.os.trans h.os, k.tape.trans h.tape, k.output.trans h.output, Nat.le_trans h.size k.size, fun b h1 h2 h3 => (k.block b (Nat.lt_of_lt_of_le h1 h.size) h2 fun j hj => by
    unfold updS
    by_cases e : j = i
    · rw [if_pos e]
      rcases hx with ⟨e2, _⟩ | ⟨b', e2, hb'⟩
      · rw [e2, ← e]; exact h3 j hj
      · rw [e2]
        intro e3
        injection e3 with e3
        injection e3 with e3
        omega
    · rw [if_neg e]; exact h3 j hj).trans (h.block b h1 h2 h3)⟩
theorem RowO.setG {W : World} {B g : Nat} {A : Option Addr} {c : Nat} {zs : List Int} (h : RowO W B g A c zs) (i : Nat) (u : Value) : RowO (W.setCell ⟨g, i, none⟩ u) B g A c zs :=
  h.kept (by rw [World.size_setCell]; exact Nat.le_refl _) fun b e => by
    rcases h with ⟨e2, _⟩ | ⟨b', e2, _, h2, _, _⟩
    · rw [e2] at e; cases e
    · rw [e2] at e
      injection e with e
      injection e with e
      subst e
      exact heap_setCell_other W ⟨g, i, none⟩ b' u h2
theorem RowO.at {W : World} {B g : Nat} {A : Option Addr} {c : Nat} {zs : List Int} (h : RowO W B g A c zs) {a : Addr} (e : A = some a) : ∃ b, a = ⟨b, 0, none⟩ ∧ B ≤ b ∧ b ≠ g ∧ b < W.heap.size := by
  rcases h with ⟨e2, _⟩ | ⟨b', e2, h1, h2, h3, _⟩
  · rw [e2] at e; cases e
  · rw [e2] at e
    injection e with e
    exact ⟨b', e.symm, h1, h2, h3⟩
/-- Header i is stored anew. -/
theorem TrW.swap {W : World} {B g cp : Nat} {T : List (List Int)} {S : Nat → Option Addr × Nat} (hr : W.ownsRow 0 25 1 (.slice (some ⟨g, 0, none⟩) T.length cp) T.length (headsT T S)) {i : Nat} (hi : i < T.length) {zs : List Int} {x : Option Addr × Nat} (hx : RowO W B g x.1 x.2 zs)
    (hj : ∀ j, j < T.length → j ≠ i → RowO W B g (S j).1 (S j).2 (T.getD j [])) (hd : ∀ j, j < T.length → j ≠ i → ∀ a, x.1 = some a → (S j).1 ≠ some a) (hs : ∀ j k, j < T.length → k < T.length → j ≠ k → ∀ a, (S j).1 = some a → (S k).1 ≠ some a) :
    TrW (W.setCell ⟨g, i, none⟩ (.slice x.1 zs.length x.2)) B g cp (T.set i zs) (updS S i x) := by
  have hl : (T.set i zs).length = T.length := List.length_set
  have hg : ∀ j, j < T.length → (T.set i zs).getD j [] = if j = i then zs else T.getD j [] := by
    intro j h
    simp only [List.getD]
    rw [List.getElem?_set]
    by_cases e : i = j
    · subst e
      rw [if_pos rfl, if_pos h, if_pos rfl]
      rfl
    · rw [if_neg e, if_neg (fun h => e h.symm)]
  refine ⟨?_, ?_, ?_⟩
  · have h1 := (hr.stored i (.slice x.1 zs.length x.2)).1
    have h2 : (headsT T S).set i (.slice x.1 zs.length x.2) = headsT (T.set i zs) (updS S i x) := by
      refine List.ext_getElem? fun j => ?_
      rw [List.getElem?_set, headsT_len]
      by_cases hjl : j < T.length
      · rw [headsT_get (T.set i zs) (updS S i x) j (by rw [hl]; exact hjl), hg j hjl]
        unfold updS
        by_cases e : i = j
        · subst e
          simp [hi]
        · rw [if_neg e, headsT_get T S j hjl, if_neg (fun h => e h.symm), if_neg (fun h => e h.symm)]
      · rw [if_neg (by omega), List.getElem?_eq_none (by rw [headsT_len]; omega), List.getElem?_eq_none (by rw [headsT_len, hl]; omega)]
    rw [h2] at h1
    rw [hl]
    exact h1
  · intro j h
    rw [hl] at h
    rw [hg j h]
    unfold updS
    by_cases e : j = i
    · rw [if_pos e, if_pos e]
      exact hx.setG i _
    · rw [if_neg e, if_neg e]
      exact (hj j h e).setG i _
  · intro j k h1 h2 h3 a
    rw [hl] at h1 h2
    unfold updS
    by_cases e : j = i
    · rw [if_pos e, if_neg (by omega)]
      exact hd k h2 (by omega) a
    · rw [if_neg e]
      by_cases e2 : k = i
      · rw [if_pos e2]
        intro h4 h5
        exact hd j h1 e a h5 h4
      · rw [if_neg e2]
        exact hs j k h1 h2 h3 a
/-- Bar goes to tree i: behind the append and the store. -/
theorem TrW.push {W W1 : World} {B g cp : Nat} {T : List (List Int)} {S : Nat → Option Addr × Nat} (h : TrW W B g cp T S) (hB : B ≤ W.heap.size) {i : Nat} (hi : i < T.length) {bar : Int} {A' : Option Addr} {c' : Nat}
    (ho : W1.ownsRow 0 3 1 (.slice A' ((T.getD i []).length + 1) c') ((T.getD i []).length + 1) (intCells (T.getD i []) ++ [.int .i64 bar]))
    (hd : (∃ b, (S i).1 = some ⟨b, 0, none⟩ ∧ A' = (S i).1 ∧ c' = (S i).2 ∧ ∀ k, k < W.heap.size → k ≠ b → W1.heap[k]? = W.heap[k]?) ∨ (∃ H, A' = some ⟨H, 0, none⟩ ∧ W.heap.size ≤ H ∧ ∀ k, k < W.heap.size → W1.heap[k]? = W.heap[k]?))
    (hs : W.heap.size ≤ W1.heap.size) (h1 : W1.os = W.os) (h2 : W1.tape = W.tape) (h3 : W1.output = W.output) :
    TrW (W1.setCell ⟨g, i, none⟩ (.slice A' ((T.getD i []).length + 1) c')) B g cp (putT T i bar) (updS S i (A', c')) ∧ NewH W S i (A', c') ∧ OldH W (W1.setCell ⟨g, i, none⟩ (.slice A' ((T.getD i []).length + 1) c')) S i (A', c') ∧ FrW W (W1.setCell ⟨g, i, none⟩ (.slice A' ((T.getD i []).length + 1) c')) g T.length S := by
  have hlt := h.lt
  have stood : ∀ k, k < W.heap.size → (S i).1 ≠ some ⟨k, 0, none⟩ → W1.heap[k]? = W.heap[k]? := by
    intro k hk hn
    rcases hd with ⟨b, e1, _, _, hw⟩ | ⟨H, _, _, hw⟩
    · exact hw k hk fun e => hn (by rw [e1, e])
    · exact hw k hk
  have gst : W1.heap[g]? = W.heap[g]? := stood g hlt fun e => by
    obtain ⟨b, q1, _, q3, _⟩ := (h.each i hi).at e
    injection q1 with q1
    exact q3 q1.symm
  have hnew : NewH W S i (A', c') := by
    rcases hd with ⟨b, e1, e2, e3, _⟩ | ⟨H, e1, e2, _⟩
    · exact .inl ⟨by rw [e2, e3], by rw [e1]; exact fun h => by cases h⟩
    · exact .inr ⟨H, e1, e2⟩
  have hbl : ∀ a, A' = some a → ∃ b, a = ⟨b, 0, none⟩ ∧ B ≤ b ∧ b ≠ g ∧ ∀ j, j < T.length → j ≠ i → (S j).1 ≠ some a := by
    intro a ea
    rcases hd with ⟨b, e1, e2, _, _⟩ | ⟨H, e1, e2, _⟩
    · rw [e2] at ea
      obtain ⟨b, q1, q2, q3, q4⟩ := (h.each i hi).at ea
      exact ⟨b, q1, q2, q3, fun j hj hne => h.dis i j hi hj (fun e => hne e.symm) a ea⟩
    · rw [e1] at ea
      injection ea with ea
      refine ⟨H, ea.symm, by omega, by omega, fun j hj _ e => ?_⟩
      obtain ⟨b, q1, _, _, q4⟩ := (h.each j hj).at e
      rw [← ea] at q1
      injection q1 with q1
      omega
  have hold : OldH W (W1.setCell ⟨g, i, none⟩ (.slice A' ((T.getD i []).length + 1) c')) S i (A', c') := by
    rcases hd with ⟨b, e1, e2, e3, _⟩ | ⟨H, _, _, hw⟩
    · exact .inl (by rw [e2, e3])
    · exact .inr fun b q1 q2 => by
        obtain ⟨b2, r1, _, r3, _⟩ := (h.each i hi).at q2
        injection r1 with r1
        exact (heap_setCell_other W1 ⟨g, i, none⟩ b _ (by rw [r1]; exact r3)).trans (hw b q1)
  refine ⟨?_, hnew, hold, ⟨h1, h2, h3, by rw [World.size_setCell]; exact hs, fun b q1 q2 q3 => (heap_setCell_other W1 ⟨g, i, none⟩ b _ q2).trans (stood b q1 (q3 i hi))⟩⟩
  have hlz : (T.getD i [] ++ [bar]).length = (T.getD i []).length + 1 := by simp
  have key := TrW.swap (W := W1) (B := B) (cp := cp) (i := i) (zs := T.getD i [] ++ [bar]) (x := (A', c')) (own_block h.row gst) hi (by
    cases A' with
    | none =>
      exfalso
      rcases hd with ⟨b, e1, e2, _, _⟩ | ⟨H, e1, _⟩
      · rw [e1] at e2; cases e2
      · cases e1
    | some a =>
      obtain ⟨b, q1, q2, q3, _⟩ := hbl a rfl
      subst q1
      refine .inr ⟨b, rfl, q2, q3, (ho.lt b rfl).2, ?_⟩
      rw [hlz, show intCells (T.getD i [] ++ [bar]) = intCells (T.getD i []) ++ [.int .i64 bar] by simp [intCells]]
      exact ho) (fun j hj hne => (h.each j hj).kept hs fun b e => stood b (by
        obtain ⟨b2, q1, _, _, q4⟩ := (h.each j hj).at e
        injection q1 with q1
        omega) fun e2 => h.dis i j hi hj (fun e => hne e.symm) _ e2 e) (fun j hj hne a ea => (hbl a ea).choose_spec.2.2.2 j hj hne) h.dis
  rw [hlz] at key
  exact key
/-- Behind a search that failed the old header is stored back. -/
theorem TrW.back {W W1 W2 : World} {B g cp : Nat} {T : List (List Int)} {S : Nat → Option Addr × Nat} (h : TrW W B g cp T S) {i : Nat} (hi : i < T.length) {bar : Int} {x : Option Addr × Nat} (hx : NewH W S i x) (ho : OldH W W1 S i x) (h1 : FrW W W1 g T.length S) (h2 : FrW W1 W2 g T.length (updS S i x)) (hw : TrW W2 B g cp (putT T i bar) (updS S i x)) :
    TrW (W2.setCell ⟨g, i, none⟩ (.slice (S i).1 (T.getD i []).length (S i).2)) B g cp T S ∧ FrW W (W2.setCell ⟨g, i, none⟩ (.slice (S i).1 (T.getD i []).length (S i).2)) g T.length S := by
  have hl := putT_len T i bar
  have hsz : W.heap.size ≤ W2.heap.size := Nat.le_trans h1.size h2.size
  have h12 := FrW.deep hx h1 h2
  refine ⟨?_, ⟨h12.os, h12.tape, h12.output, by rw [World.size_setCell]; exact h12.size, fun b q1 q2 q3 => (heap_setCell_other W2 ⟨g, i, none⟩ b _ q2).trans (h12.block b q1 q2 q3)⟩⟩
  have hs1 : ∀ j, j ≠ i → updS S i x j = S j := fun j hj => by unfold updS; rw [if_neg hj]
  have hs2 : updS S i x i = x := by unfold updS; rw [if_pos rfl]
  have hei : RowO W2 B g (S i).1 (S i).2 (T.getD i []) := by
    have hwi := hw.each i (by omega)
    rw [hs2, putT_get hi, if_pos rfl] at hwi
    by_cases e : x = S i
    · rw [e] at hwi
      exact hwi.back
    · refine (h.each i hi).kept hsz fun b eb => ?_
      obtain ⟨b2, r1, _, r3, r4⟩ := (h.each i hi).at eb
      injection r1 with r1
      subst r1
      have w1 : W1.heap[b]? = W.heap[b]? := by
        rcases ho with q | q
        · exact absurd q e
        · exact q b r4 eb
      refine (h2.block b (Nat.lt_of_lt_of_le r4 h1.size) r3 fun j hj => ?_).trans w1
      by_cases c : j = i
      · rw [c, hs2]
        rcases hx with ⟨q, _⟩ | ⟨b3, q, q2⟩
        · exact absurd q e
        · rw [q]
          intro q3
          injection q3 with q3
          injection q3 with q3
          omega
      · rw [hs1 j c]
        exact h.dis i j hi hj (fun q => c q.symm) _ eb
  have key := TrW.swap (W := W2) (B := B) (g := g) (cp := cp) (T := putT T i bar) (S := updS S i x) hw.row (i := i) (by omega) (zs := T.getD i []) (x := S i) hei
    (fun j hj hne => hw.each j hj) (fun j hj hne a ea => by rw [hs1 j hne]; exact h.dis i j hi (by omega) (fun q => hne q.symm) a ea) hw.dis
  have e1 : (putT T i bar).set i (T.getD i []) = T := by
    unfold putT
    rw [List.set_set]
    have : T.getD i [] = T[i] := by simp [List.getD, List.getElem?_eq_getElem hi]
    rw [this, List.set_getElem_self]
  have e2 : updS (updS S i x) i (S i) = S := by
    funext j
    unfold updS
    by_cases c : j = i
    · rw [if_pos c, c]
    · rw [if_neg c, if_neg c]
  rw [e1, e2] at key
  exact key
/-- A tree as a row of ints for a callee. -/
theorem TrW.ints {W : World} {B g cp : Nat} {T : List (List Int)} {S : Nat → Option Addr × Nat} (h : TrW W B g cp T S) {i : Nat} (hi : i < T.length) : IntsIn W 0 W.heap.size (S i).1 (T.getD i []) := (h.each i hi).ints
/-- Behind a search that went on from the push. -/
theorem FrW.on {W W1 W2 : World} {g n m i : Nat} {S : Nat → Option Addr × Nat} {x : Option Addr × Nat} (hx : NewH W S i x) (h : FrW W W1 g n S) (e : m = n) (k : FrW W1 W2 g m (updS S i x)) : FrW W W2 g n S := by
  subst e
  exact h.deep hx k
theorem FrW.trans {W W1 W2 : World} {g n : Nat} {S : Nat → Option Addr × Nat} (h : FrW W W1 g n S) (k : FrW W1 W2 g n S) : FrW W W2 g n S :=
  ⟨k.os.trans h.os, k.tape.trans h.tape, k.output.trans h.output, Nat.le_trans h.size k.size, fun b h1 h2 h3 => (k.block b (Nat.lt_of_lt_of_le h1 h.size) h2 h3).trans (h.block b h1 h2 h3)⟩
theorem FrW.trans2 {W W1 W2 : World} {g n i : Nat} {S : Nat → Option Addr × Nat} {x : Option Addr × Nat} (h : FrW W W1 g n S) (hx : NewH W S i x) (k : FrW W1 W2 g n (updS S i x)) : FrW W W2 g n S := h.deep hx k
theorem FrW.within {V W W' : World} {B g cp n : Nat} {T : List (List Int)} {S : Nat → Option Addr × Nat} (h : FrW W W' g n S) (ht : TrW V B g cp T S) (hn : T.length = n) (hB : B ≤ g) : Within B V.heap.size W W' :=
  ⟨h.os, h.tape, h.output, h.size, fun k hk hd => h.block k hk (by have := ht.lt; omega) fun i hi e => by
    obtain ⟨b, q1, q2, _, q4⟩ := (ht.each i (by omega)).at e
    injection q1 with q1
    omega⟩
theorem TrW.pcell {W : World} {B g cp : Nat} {T : List (List Int)} {S : Nat → Option Addr × Nat} {i : Nat} {bar : Int} {A' : Option Addr} {c' : Nat} (h : TrW W B g cp (putT T i bar) (updS S i (A', c'))) (hi : i < T.length) {n : Nat} (hn : (T.getD i []).length = n) :
    W.cell? ⟨g, i, none⟩ = some (.slice A' (n + 1) c') := by
  subst hn
  have q := h.cell i (by rw [putT_len]; exact hi)
  rw [putT_get hi, if_pos rfl, List.length_append, List.length_cons, List.length_nil, show updS S i (A', c') i = (A', c') by unfold updS; rw [if_pos rfl]] at q
  exact q
theorem TrW.pints {W : World} {B g cp : Nat} {T : List (List Int)} {S : Nat → Option Addr × Nat} {i : Nat} {bar : Int} {A' : Option Addr} {c' : Nat} (h : TrW W B g cp (putT T i bar) (updS S i (A', c'))) (hi : i < T.length) {zs : List Int} (hz : T.getD i [] = zs) :
    IntsIn W 0 W.heap.size A' (zs ++ [bar]) := by
  subst hz
  have q := h.ints (i := i) (by rw [putT_len]; exact hi)
  rw [putT_get hi, if_pos rfl, show updS S i (A', c') i = (A', c') by unfold updS; rw [if_pos rfl]] at q
  exact q
/-- What a search answers: a tree for each bar left, or what was. -/
def PutP (w : World) (B g cp k : Nat) (T : List (List Int)) (S : Nat → Option Addr × Nat) (o : Option (List (List Int))) (e : Ending) (w' : World) : Prop :=
  FrW w w' g k S ∧ ((∃ R S', o = some R ∧ e = .returned (.bool true) ∧ TrW w' B g cp R S') ∨ (o = none ∧ e = .returned (.bool false) ∧ TrW w' B g cp T S))
end Go.Proofs.Ytedjhnedkghhoaa
/- What the program's sets of points answer: has and size (the library's bits.OnesCount at numbers below 256). No condition. -/
namespace Go.Proofs.Ytedjhnedkghhoaa
open Go.RowKit

theorem has_p (m v : Nat) (w : World) (hm : m < 256) (hv : v < 8) :
    Calls Try.prog 197 #[.int .u64 (m : Int), .int .i64 (v : Int)] w fun e w' => e = .returned (.bool (m.testBit v)) ∧ w = w' := by
  have hb := bit_and .u64 (.inr rfl) m hm v hv
  cases ht : m.testBit v
  all_goals
    rw [ht] at hb
    replace hb := hb.trans (by first | exact if_neg (by decide) | exact if_pos rfl)
    go_enter Try.func197, Try.ntmps197
    go_wp2
    go_ret
    exact ⟨rfl, rfl⟩

theorem ones_c (m : Nat) (w : World) (hm : m < 256) :
    Calls Try.prog 204 #[.int .u64 (m : Int)] w fun e w' => e = .returned (.int .i64 ((setL 8 m).length : Int)) ∧ w = w' := by
  have HM := Lib.hid hm
  clear hm
  go_enter Try.func204, Try.ntmps204
  go_wp2
  go_ret
  refine ⟨congrArg (fun z => Ending.returned (.int .i64 z)) ?_, rfl⟩
  have hm := HM.out
  clear HM
  revert m
  decide +kernel
theorem set_len8 : ∀ P : Nat, P ≤ 8 → ∀ m : Nat, m < 2 ^ P → (setL 8 m).length = (setL P m).length := by
  intro P hP
  have : P = 0 ∨ P = 1 ∨ P = 2 ∨ P = 3 ∨ P = 4 ∨ P = 5 ∨ P = 6 ∨ P = 7 ∨ P = 8 := by omega
  rcases this with rfl | rfl | rfl | rfl | rfl | rfl | rfl | rfl | rfl <;> decide +kernel
theorem size_p (P m : Nat) (w : World) (hP : P ≤ 8) (hm : m < 2 ^ P) :
    Calls Try.prog 198 #[.int .u64 (m : Int)] w fun e w' => e = .returned (.int .i64 ((setL P m).length : Int)) ∧ w = w' := by
  rw [← set_len8 P hP m hm]
  have hm8 : m < 256 := Nat.lt_of_lt_of_le hm (Nat.pow_le_pow_right (by decide) hP : 2 ^ P ≤ 2 ^ 8)
  clear hm
  go_enter Try.func198, Try.ntmps198
  go_wp2_with (first | (go_at_call 204; refine (ones_c m _ hm8).mono ?_; rintro e w1 ⟨rfl, rfl⟩) | go_in)
  go_ret
  exact ⟨rfl, rfl⟩
end Go.Proofs.Ytedjhnedkghhoaa
/- What spec.l3Set answers. No condition. -/
namespace Go.Proofs.Ytedjhnedkghhoaa
open Go.RowKit

/-- A row of ints of the call's own that grows. -/
def GrowI (w wr : World) (zs : List Int) (v : Value) : Prop :=
  wr.ownsRow w.heap.size 3 1 v zs.length (intCells zs) ∧ Below w.heap.size w wr
theorem GrowI.intsO {w wr : World} {zs : List Int} {v : Value} (h : GrowI w wr zs v) : IntsO w zs (.returned v) wr := by
  obtain ⟨A, c, rfl⟩ := own_shape h.1
  exact ⟨A, c, rfl, own_ints' h.1, h.2⟩
theorem GrowI.nil (w wr : World) (h : Below w.heap.size w wr) : GrowI w wr [] (.slice none 0 0) := ⟨World.ownsRow_nil _ _ _ _, h⟩

set_option maxHeartbeats 2000000 in
set_option maxRecDepth 100000 in
theorem specSet (P m : Nat) (w : World) (hP : P ≤ 8) (hm : m < 256) :
    Calls Try.prog 160 #[.int .i64 (P : Int), .int .i64 (m : Int)] w (IntsO w (setL P m)) := by
  have ho := World.ownsRow_made (base := w.heap.size) (e := 3) (size := 1) w #[] 0 (Nat.le_refl _) (by unfold maxLen; omega) (by simp)
  have HG := Lib.hid (show GrowI w (w.alloc (.cells #[] 3)) (outF 0 fun v => m.testBit v) (.slice (some ⟨w.heap.size, 0, none⟩) 0 0) from ⟨ho, new_below w _⟩)
  have HM := Lib.hid hm
  clear ho hm
  go_enter Try.func160, Try.ntmps160
  go_wp2_with fail
  generalize (w.alloc (.cells #[] 3)) = w1 at *
  go_loopw [5, 6] (fun o i wr => ∃ j : Nat, j ≤ P ∧ i = .int .i64 j ∧ GrowI w wr (outF j fun v => m.testBit v) o) (fun _ i _ => P - (intOf i).toNat)
  case atStart => exact ⟨0, by omega, rfl, HG.out⟩
  case round =>
    obtain ⟨j, hj, rfl, hst⟩ := hrel
    have hol := outF_len j (fun v => m.testBit v)
    by_cases hlt : j < P
    · have hij : (j : Int) < (P : Int) := by omega
      have hb := bit_and .i64 (.inl rfl) m HM.out j (by omega)
      obtain ⟨A', c', rfl⟩ := own_shape hst.1
      have HS := Lib.hid hst
      have hbs := hst.2.size
      clear hst
      cases ht : m.testBit j
      · rw [ht] at hb
        replace hb := hb.trans (if_neg (by decide))
        have HE := Lib.hid (show outF (j + 1) (fun v => m.testBit v) = outF j (fun v => m.testBit v) by rw [outF_succ]; simp [ht])
        go_wp2_with fail
        go_roundw
        case rel => exact ⟨j + 1, by omega, by go_num, by rw [HE.out]; exact HS.out⟩
        case measure => simp [intOf]; omega
      · rw [ht] at hb
        replace hb := hb.trans (if_pos rfl)
        have HE := Lib.hid (show outF (j + 1) (fun v => m.testBit v) = outF j (fun v => m.testBit v) ++ [(j : Int)] by rw [outF_succ]; simp [ht])
        go_wp2_with (at_builtin; refine wpList_push _ rfl _ _ 25 rfl w.heap.size 3 (.int .i64 0) 8 Try.underlying25 infoInt rfl _ _ _ rfl HS.out.1 (.int .i64 (j : Int)) rfl _ rfl (by omega) (by unfold maxLen; omega) hbs ?_; intro v' w' ho hb'; obtain ⟨A2, c2, rfl⟩ := own_shape ho; have HO := Lib.hid ho; have HB := Lib.hid hb'; clear ho hb')
        go_roundw
        case rel => exact ⟨j + 1, by omega, by go_num, by rw [HE.out]; exact ⟨by simpa [intCells] using HO.out, HS.out.2.trans HB.out⟩⟩
        case measure => simp [intOf]; omega
    · obtain rfl : j = P := by omega
      obtain ⟨A', c', rfl⟩ := own_shape hst.1
      have HS := Lib.hid hst
      clear hst
      go_wp2_with fail
      go_ret
      exact HS.out.intsO
end Go.Proofs.Ytedjhnedkghhoaa
/- What spec.SpannedBars answers. No condition. -/
namespace Go.Proofs.Ytedjhnedkghhoaa
open Go.RowKit

theorem spanF_succ (l : List (Int × Int)) (S : Int → Bool) (j : Nat) : outF (j + 1) (spanF l S) = outF j (spanF l S) ++ if S (l.getD j (0, 0)).1 && S (l.getD j (0, 0)).2 then [(j : Int)] else [] := by
  rw [outF_succ]
  rfl
/-- A row of ints of the call's own that grows, beside a box with a graph. -/
def GrowB (w wr : World) (p : Int) (gv : Value) (zs : List Int) (v : Value) : Prop :=
  GrowI w wr zs v ∧ Box wr w.heap.size p gv ∧ v.ownBlock ≠ some w.heap.size
theorem GrowB.drew {w wr : World} {p : Int} {gv : Value} {zs : List Int} {v : Value} (h : GrowB w wr p gv zs v) : GrowB w wr.drew p gv zs v := ⟨⟨h.1.1, h.1.2.drew⟩, h.2.1, h.2.2⟩
theorem GrowB.drewN {w wr : World} {p : Int} {gv : Value} {zs : List Int} {v : Value} (h : GrowB w wr p gv zs v) (n : Nat) : GrowB w (wr.drewN n) p gv zs v :=
  ⟨⟨h.1.1, h.1.2.trans (below_drewN _ _ _)⟩, h.2.1, h.2.2⟩
theorem GrowB.alloc {w wr : World} {p : Int} {gv : Value} {zs : List Int} {v : Value} (h : GrowB w wr p gv zs v) (o : Obj) : GrowB w (wr.alloc o) p gv zs v :=
  ⟨⟨own_below h.1.1 (new_below wr o), h.1.2.trans ((new_below wr o).mono h.1.2.size)⟩, h.2.1.kept (new_below wr o), h.2.2⟩
theorem GrowB.push {w wr w' : World} {p : Int} {gv : Value} {zs : List Int} {v v' : Value} {x : Int} (h : GrowB w wr p gv zs v) (ho : w'.ownsRow w.heap.size 3 1 v' (zs.length + 1) (intCells zs ++ [.int .i64 x])) (hg : wr.grownBy w' v.ownBlock)
    (hat : v'.ownBlock = v.ownBlock ∨ v'.ownBlock = some (wr.heap.size + 1)) : GrowB w w' p gv (zs ++ [x]) v' := by
  obtain ⟨⟨h1, h2⟩, h3, h4⟩ := h
  refine ⟨⟨by simpa [intCells] using ho, h2.grown hg (Nat.le_trans h2.size (Nat.le_refl _)) fun g hgg => (h1.lt g hgg).1⟩, ?_, ?_⟩
  · refine ⟨Nat.lt_of_lt_of_le h3.1 hg.size, ?_, ?_⟩
    · exact (World.cell?_of_block (hg.block w.heap.size h3.1 fun hc => h4 hc.symm)).trans h3.2.1
    · exact (World.cell?_of_block (a := ⟨w.heap.size, 1, none⟩) (hg.block w.heap.size h3.1 fun hc => h4 hc.symm)).trans h3.2.2
  · rcases hat with hat | hat
    · rw [hat]; exact h4
    · rw [hat]
      intro e
      have := h3.1
      have : wr.heap.size + 1 = w.heap.size := by simpa using e
      omega

set_option maxHeartbeats 4000000 in
set_option maxRecDepth 100000 in
theorem specSpan (p : Int) (l : List (Int × Int)) (zs : List Int) (A Z : Option Addr) (cap cz lo hi : Nat) (w : World) (hl : BarsAt w w.heap.size A l) (hz : IntsIn w lo hi Z zs) (hn : l.length ≤ 1048576) (hnz : zs.length ≤ 1048576) :
    Calls Try.prog 161 #[.agg #[.int .i64 p, .slice A l.length cap], .slice Z zs.length cz] w (IntsO w (spanL l (memS zs))) := by
  have hA1 := new_below w (.cells #[.int .i64 p, .slice A l.length cap] 30)
  have hA2 := new_below (w.alloc (.cells #[.int .i64 p, .slice A l.length cap] 30)) (.cells #[] 3)
  have hsz : (w.alloc (.cells #[.int .i64 p, .slice A l.length cap] 30)).heap.size = w.heap.size + 1 := by simp
  have ho := World.ownsRow_made (base := w.heap.size) (e := 3) (size := 1) (w.alloc (.cells #[.int .i64 p, .slice A l.length cap] 30)) #[] 0 (by simp) (by unfold maxLen; omega) (by simp)
  rw [hsz] at ho
  have HG := Lib.hid (show GrowB w ((w.alloc (.cells #[.int .i64 p, .slice A l.length cap] 30)).alloc (.cells #[] 3)) p (.slice A l.length cap) (outF 0 (spanF l (memS zs))) (.slice (some ⟨w.heap.size + 1, 0, none⟩) 0 0) from
    ⟨⟨ho, below_on hA1 hA2 hA1.size⟩, (box_new w p (.slice A l.length cap) 30).kept hA2, by simp [Value.ownBlock]⟩)
  have HLW := Lib.hid hl
  have HZW := Lib.hid hz
  clear hl hz hA1 hA2 hsz ho
  go_enter Try.func161, Try.ntmps161
  go_wp2_with fail
  generalize ((w.alloc (.cells #[.int .i64 p, .slice A l.length cap] 30)).alloc (.cells #[] 3)) = w1 at *
  go_loopw [5, 6] (fun o i wr => ∃ j : Nat, j ≤ l.length ∧ i = .int .i64 j ∧ GrowB w wr p (.slice A l.length cap) (outF j (spanF l (memS zs))) o) (fun _ i _ => l.length - (intOf i).toNat)
  case atStart => exact ⟨0, by omega, rfl, HG.out⟩
  case round =>
    obtain ⟨j, hj, rfl, hst⟩ := hrel
    have hol := outF_len j (spanF l (memS zs))
    obtain ⟨A', c', rfl⟩ := own_shape hst.1.1
    have HS := Lib.hid hst
    have hbs := hst.1.2.size
    obtain ⟨_, g1, g2⟩ := hst.2.1
    clear hst
    by_cases hlt : j < l.length
    · have hij : (j : Int) < (l.length : Int) := by omega
      obtain ⟨b0, off, rfl, hbB, hcell⟩ := HLW.out (by omega)
      have HBW := HS.out.1.2
      have hc1 := (HBW.cell (p := ⟨b0, off + j * 2, none⟩) hbB).trans (hcell j hlt).1
      have hc2 := (HBW.cell (p := ⟨b0, off + j * 2 + 1, none⟩) hbB).trans (hcell j hlt).2
      have HHAS : ∀ (x : Int), Calls Try.prog 97 #[.slice Z zs.length cz, .int .i64 x] wr fun e w' => e = .returned (.bool (memS zs x)) ∧ wr = w' := fun x =>
        has_c zs x Z cz lo hi wr ⟨Nat.le_trans HZW.out.1 hbs, fun hl0 => by
          obtain ⟨b, off, e, h1, h2, hc⟩ := HZW.out.2 hl0
          exact ⟨b, off, e, h1, h2, fun k hk => (HBW.cell (p := ⟨b, off + k, none⟩) (Nat.lt_of_lt_of_le h2 HZW.out.1)).trans (hc k hk)⟩⟩ hnz
      have HE := Lib.hid (spanF_succ l (memS zs) j)
      obtain ⟨x, hx⟩ : ∃ x, l.getD j (0, 0) = x := ⟨_, rfl⟩
      rw [hx] at hc1 hc2 HE
      obtain ⟨x1, x2⟩ := x
      simp only at hc1 hc2
      clear hcell HBW hx
      have H1 := HHAS x1
      have H2 := HHAS x2
      clear HHAS
      rcases h1 : memS zs x1 with _ | _
      · rw [h1] at H1 HE
        have HE2 := Lib.hid (HE.out.trans (by simp : _ = outF j (spanF l (memS zs))))
        go_wp2_with (go_at_call 97; refine H1.mono ?_; rintro e w2 ⟨rfl, rfl⟩; clear H1)
        go_roundw
        case rel => exact ⟨j + 1, by omega, by go_num, by rw [HE2.out]; exact HS.out⟩
        case measure => simp [intOf]; omega
      · rcases h2 : memS zs x2 with _ | _
        · rw [h1] at H1
          rw [h2] at H2
          rw [h1, h2] at HE
          have HE2 := Lib.hid (HE.out.trans (by simp : _ = outF j (spanF l (memS zs))))
          go_wp2_with (first | (go_at_call 97; refine H1.mono ?_; rintro e w2 ⟨rfl, rfl⟩; clear H1) | (go_at_call 97; refine H2.mono ?_; rintro e w2 ⟨rfl, rfl⟩; clear H2))
          go_roundw
          case rel => exact ⟨j + 1, by omega, by go_num, by rw [HE2.out]; exact HS.out⟩
          case measure => simp [intOf]; omega
        · rw [h1] at H1
          rw [h2] at H2
          rw [h1, h2] at HE
          have HE2 := Lib.hid (HE.out.trans (by simp : _ = outF j (spanF l (memS zs)) ++ [(j : Int)]))
          go_wp2_with (first | (go_at_call 97; refine H1.mono ?_; rintro e w2 ⟨rfl, rfl⟩; clear H1) | (go_at_call 97; refine H2.mono ?_; rintro e w2 ⟨rfl, rfl⟩; clear H2) | (at_builtin; refine wpList_at _ rfl _ _ 25 rfl w.heap.size 3 (.int .i64 0) 1 8 Try.underlying25 infoInt rfl (by decide) _ _ _ rfl HS.out.1.1 #[.int .i64 (j : Int)] 1 rfl (by simp [Value.oneCell']) _ _ rfl (by omega) (by unfold maxLen; omega) hbs ?_; intro v' w' ho hg hat _; obtain ⟨A2, c2, rfl⟩ := own_shape ho; have HY := Lib.hid (HS.out.push ho hg hat); clear ho hg hat))
          go_roundw
          case rel => exact ⟨j + 1, by omega, by go_num, by rw [HE2.out]; exact HY.out⟩
          case measure => simp [intOf]; omega
    · obtain rfl : j = l.length := by omega
      go_wp2_with fail
      go_ret
      exact HS.out.1.intsO
end Go.Proofs.Ytedjhnedkghhoaa
/- What the program's pointSet.list and isOvercounted answer. No condition. -/
namespace Go.Proofs.Ytedjhnedkghhoaa
open Go.RowKit

set_option maxHeartbeats 2000000 in
set_option maxRecDepth 100000 in
theorem implList (P m : Nat) (gv : Value) (w : World) (hP : P ≤ 8) (hm : m < 256) :
    Calls Try.prog 191 #[.int .u64 (m : Int), .agg #[.int .i64 (P : Int), gv]] w (IntsO w (setL P m)) := by
  have HG := Lib.hid (show GrowB w (w.alloc (.cells #[.int .i64 (P : Int), gv] 30)) (P : Int) gv (outF 0 fun v => m.testBit v) (.slice none 0 0) from
    ⟨GrowI.nil w _ (new_below w _), box_new w (P : Int) gv 30, by simp [Value.ownBlock]⟩)
  go_enter Try.func191, Try.ntmps191
  go_wp2_with fail
  generalize (w.alloc (.cells #[.int .i64 (P : Int), gv] 30)) = w1 at *
  go_loopw [5, 9] (fun o i wr => ∃ j : Nat, j ≤ P ∧ i = .int .i64 j ∧ GrowB w wr (P : Int) gv (outF j fun v => m.testBit v) o) (fun _ i _ => P - (intOf i).toNat)
  case atStart => exact ⟨0, by omega, rfl, HG.out⟩
  case round =>
    obtain ⟨j, hj, rfl, hst⟩ := hrel
    have hol := outF_len j (fun v => m.testBit v)
    obtain ⟨A', c', rfl⟩ := own_shape hst.1.1
    have HS := Lib.hid hst
    have hbs := hst.1.2.size
    clear hst
    by_cases hlt : j < P
    · have hij : (j : Int) < (P : Int) := by omega
      have HHAS := has_p m j wr hm (by omega)
      cases ht : m.testBit j
      · rw [ht] at HHAS
        have HE := Lib.hid (show outF (j + 1) (fun v => m.testBit v) = outF j (fun v => m.testBit v) by rw [outF_succ]; simp [ht])
        go_wp2_with (go_at_call 197; refine HHAS.mono ?_; rintro e w2 ⟨rfl, rfl⟩; clear HHAS)
        go_roundw
        case rel => exact ⟨j + 1, by omega, by go_num, by rw [HE.out]; exact HS.out⟩
        case measure => simp [intOf]; omega
      · rw [ht] at HHAS
        have HE := Lib.hid (show outF (j + 1) (fun v => m.testBit v) = outF j (fun v => m.testBit v) ++ [(j : Int)] by rw [outF_succ]; simp [ht])
        go_wp2_with (first | (go_at_call 197; refine HHAS.mono ?_; rintro e w2 ⟨rfl, rfl⟩; clear HHAS) | (at_builtin; refine wpList_at _ rfl _ _ 25 rfl w.heap.size 3 (.int .i64 0) 1 8 Try.underlying25 infoInt rfl (by decide) _ _ _ rfl HS.out.1.1 #[.int .i64 (j : Int)] 1 rfl (by simp [Value.oneCell']) _ 1 (by simp [Act.eval]) (by omega) (by unfold maxLen; omega) hbs ?_; intro v' w' ho hg hat _; obtain ⟨A2, c2, rfl⟩ := own_shape ho; have HY := Lib.hid (HS.out.push ho hg hat); clear ho hg hat))
        go_roundw
        case rel => exact ⟨j + 1, by omega, by go_num, by rw [HE.out]; exact HY.out⟩
        case measure => simp [intOf]; omega
    · obtain rfl : j = P := by omega
      go_wp2_with fail
      go_ret
      exact HS.out.1.intsO

def okE (P : Nat) (l : List (Int × Int)) : Prop := ∀ i, i < l.length → 0 ≤ (l.getD i (0, 0)).1 ∧ (l.getD i (0, 0)).1 < (l.getD i (0, 0)).2 ∧ (l.getD i (0, 0)).2 < (P : Int)

set_option maxHeartbeats 4000000 in
set_option maxRecDepth 100000 in
theorem implOverOne (P m : Nat) (k c : Int) (l : List (Int × Int)) (A : Option Addr) (cap : Nat) (w : World) (hl : BarsAt w w.heap.size A l) (hn : l.length ≤ 24) (hP : P ≤ 8) (hm : m < 2 ^ P) (hE : okE P l) (hr : rangeB k c = true) :
    Calls Try.prog 190 #[.agg #[.int .i64 (P : Int), .slice A l.length cap], .int .u64 (m : Int), .int .i64 k, .int .i64 c] w fun e w' => e = .returned (.bool (badS l k c P m)) ∧ Below w.heap.size w w' := by
  have hm8 : m < 256 := Nat.lt_of_lt_of_le hm (Nat.pow_le_pow_right (by decide) hP : 2 ^ P ≤ 2 ^ 8)
  have hk : 1 ≤ k ∧ k ≤ 3 ∧ 0 ≤ c ∧ c ≤ 2 * k - 1 := by simpa [rangeB, and_assoc] using hr
  have hb := new_below w (.cells #[.int .i64 (P : Int), .slice A l.length cap] 30)
  have HL := Lib.hid hl
  have HB := Lib.hid hb
  have HEE := Lib.hid hE
  have HSZ := size_p P m
  have BX := box_new w (P : Int) (.slice A l.length cap) 30
  clear hl hb hE hr
  obtain ⟨_, g1, g2⟩ := BX
  go_enter Try.func190, Try.ntmps190
  go_wp2_with fail
  clear g1 g2
  generalize (w.alloc (.cells #[.int .i64 (P : Int), .slice A l.length cap] 30)) = w1 at *
  go_loopw [9, 15] (fun n i wr => ∃ j : Nat, j ≤ l.length ∧ i = .int .i64 j ∧ n = .int .i64 ((l.take j).countP (bothB m) : Nat) ∧ Below w.heap.size w wr) (fun _ i _ => l.length - (intOf i).toNat)
  case atStart => exact ⟨0, by omega, rfl, by simp, HB.out⟩
  case round =>
    obtain ⟨j, hj, rfl, rfl, hbw⟩ := hrel
    have HBW := Lib.hid hbw
    have hbs := hbw.size
    clear hbw
    have hcl : (l.take j).countP (bothB m) ≤ j := Nat.le_trans List.countP_le_length (by simp; omega)
    by_cases hlt : j < l.length
    · have hij : (j : Int) < (l.length : Int) := by omega
      obtain ⟨b0, off, rfl, hbB, hcell⟩ := HL.out (by omega)
      have hc1 := (HBW.out.cell (p := ⟨b0, off + j * 2, none⟩) hbB).trans (hcell j hlt).1
      have hc2 := (HBW.out.cell (p := ⟨b0, off + j * 2 + 1, none⟩) hbB).trans (hcell j hlt).2
      have hbar := HEE.out j hlt
      have hx' := countP_take (bothB m) l j hlt
      obtain ⟨x, hx⟩ : ∃ x, l.getD j (0, 0) = x := ⟨_, rfl⟩
      rw [hx] at hc1 hc2 hbar hx'
      obtain ⟨x1, x2⟩ := x
      simp only at hc1 hc2 hbar
      obtain ⟨a, rfl⟩ : ∃ a : Nat, x1 = (a : Int) := ⟨x1.toNat, by omega⟩
      obtain ⟨b, rfl⟩ : ∃ b : Nat, x2 = (b : Int) := ⟨x2.toNat, by omega⟩
      have ha8 : a < 8 := by omega
      have hb8 : b < 8 := by omega
      have hbth : bothB m ((a : Int), (b : Int)) = (m.testBit a && m.testBit b) := rfl
      rw [hbth] at hx'
      clear hx hcell hbar hbth
      have HN := Lib.hid (HBW.out.trans ((new_below wr (.cells #[.int .i64 (a : Int), .int .i64 (b : Int)] 103)).mono hbs))
      have H1 := has_p m a (wr.alloc (.cells #[.int .i64 (a : Int), .int .i64 (b : Int)] 103)) hm8 ha8
      have H2 := has_p m b (wr.alloc (.cells #[.int .i64 (a : Int), .int .i64 (b : Int)] 103)) hm8 hb8
      generalize (l.take j).countP (bothB m) = n0 at *
      cases h1 : m.testBit a
      · rw [h1] at H1
        have HX := Lib.hid (hx'.trans (by rw [h1]; simp : _ = n0))
        clear hx' H2
        go_wp2_with (go_at_call 197; refine H1.mono ?_; rintro e w2 ⟨rfl, rfl⟩; clear H1)
        go_roundw
        case rel => exact ⟨j + 1, by omega, by go_num, by rw [HX.out], HN.out⟩
        case measure => simp [intOf]; omega
      · rw [h1] at H1
        cases h2 : m.testBit b
        · rw [h2] at H2
          have HX := Lib.hid (hx'.trans (by rw [h1, h2]; simp : _ = n0))
          clear hx'
          go_wp2_with (first | (go_at_call 197; refine H1.mono ?_; rintro e w2 ⟨rfl, rfl⟩; clear H1) | (go_at_call 197; refine H2.mono ?_; rintro e w2 ⟨rfl, rfl⟩; clear H2))
          go_roundw
          case rel => exact ⟨j + 1, by omega, by go_num, by rw [HX.out], HN.out⟩
          case measure => simp [intOf]; omega
        · rw [h2] at H2
          have HX := Lib.hid (hx'.trans (by rw [h1, h2]; simp : _ = n0 + 1))
          clear hx'
          go_wp2_with (first | (go_at_call 197; refine H1.mono ?_; rintro e w2 ⟨rfl, rfl⟩; clear H1) | (go_at_call 197; refine H2.mono ?_; rintro e w2 ⟨rfl, rfl⟩; clear H2))
          go_roundw
          case rel => exact ⟨j + 1, by omega, by go_num, by rw [HX.out]; go_num, HN.out⟩
          case measure => simp [intOf]; omega
    · obtain rfl : j = l.length := by omega
      rw [List.take_length] at hcl ⊢
      have hbad : badS l k c P m = (decide (0 < l.countP (bothB m)) && decide (k * ((setL P m).length : Int) - c < (l.countP (bothB m) : Int))) := rfl
      have hsl := setL_len P m
      generalize l.countP (bothB m) = n0 at *
      generalize (setL P m).length = s0 at *
      by_cases h0 : 0 < n0
      · have h0' : (0 : Int) < (n0 : Int) := by omega
        have hks : 0 ≤ k * (s0 : Int) ∧ k * (s0 : Int) ≤ 24 := by
          constructor
          · exact Int.mul_nonneg (by omega) (by omega)
          · calc k * (s0 : Int) ≤ 3 * (s0 : Int) := Int.mul_le_mul_of_nonneg_right (by omega) (by omega)
              _ ≤ 24 := by omega
        by_cases h1 : k * (s0 : Int) - c < (n0 : Int)
        all_goals
          have HBD := Lib.hid (hbad.trans (by simp [h0, h1] : _ = decide (k * (s0 : Int) - c < (n0 : Int))))
          rw [show decide (k * (s0 : Int) - c < (n0 : Int)) = _ from by first | exact decide_eq_true h1 | exact decide_eq_false h1] at HBD
          clear hbad
          go_wp2_with (go_at_call 198; refine (HSZ _ hP hm).mono ?_; rintro e w2 ⟨rfl, rfl⟩)
          go_ret
          exact ⟨by rw [HBD.out]; try simp [*], HBW.out⟩
      · obtain rfl : n0 = 0 := by omega
        have HBD := Lib.hid (hbad.trans (by simp : _ = false))
        clear hbad
        go_wp2_with fail
        go_ret
        exact ⟨by rw [HBD.out]; try simp [*], HBW.out⟩
end Go.Proofs.Ytedjhnedkghhoaa
/- What spec.OvercountedSet answers. No condition. -/
namespace Go.Proofs.Ytedjhnedkghhoaa
open Go.RowKit

/-- A row of ints of the call's own and a bool. -/
def IntsOB (w : World) (zs : List Int) (r : Bool) (e : Ending) (w' : World) : Prop :=
  ∃ A cap, e = .returned (.tuple #[.slice A zs.length cap, .bool r]) ∧ OwnInts w' w.heap.size w'.heap.size A cap zs ∧ Below w.heap.size w w'

theorem intsOB_nil {w w2 : World} {A : Option Addr} {cap : Nat} {zs : List Int} {r : Bool} (hb : Below w.heap.size w w2) (h : zs = [] ∧ r = false) : IntsOB w zs r (.returned (.tuple #[.slice A 0 cap, .bool false])) w2 := by
  obtain ⟨rfl, rfl⟩ := h
  exact ⟨A, cap, rfl, ⟨Nat.le_refl _, .inl rfl⟩, hb⟩
theorem IntsO.withB {w w' : World} {zs : List Int} {v : Value} {r : Bool} (h : IntsO w zs (.returned v) w') : IntsOB w zs r (.returned (.tuple #[v, .bool r])) w' := by
  obtain ⟨A, cap, e, h1, h2⟩ := h
  cases e
  exact ⟨A, cap, rfl, h1, h2⟩

set_option maxHeartbeats 4000000 in
set_option maxRecDepth 100000 in
theorem specOver (p k c : Int) (l : List (Int × Int)) (A : Option Addr) (cap : Nat) (w : World) (hl : BarsAt w w.heap.size A l) (hn : l.length ≤ 1048576) :
    Calls Try.prog 117 #[.agg #[.int .i64 p, .slice A l.length cap], .int .i64 k, .int .i64 c] w (IntsOB w (overL p l k c) (overB p l k c)) := by
  have hA := new_below w (.cells #[.int .i64 p, .slice A l.length cap] 30)
  have HA := Lib.hid hA
  have HLW := Lib.hid hl
  have BX := Lib.hid (box_new w p (.slice A l.length cap) 30)
  have HISG := specIsGraph' p l A cap _ (hl.on hA) hn
  clear hl hA
  have hrr := specRange k c
  rcases hg : isGB p l with _ | _
  · have HR := Lib.hid (over_no (k := k) (c := c) (.inl hg))
    rw [hg] at HISG
    clear hrr
    obtain ⟨_, g1, g2⟩ := BX.out
    go_enter Try.func117, Try.ntmps117
    go_wp2_with (go_at_call 87; refine HISG.mono ?_; rintro e w2 ⟨rfl, hb⟩; have HB := Lib.hid (below_on HA.out hb HA.out.size); clear HISG hb)
    go_ret2
    exact intsOB_nil (HB.out.trans ((new_below w2 _).mono HB.out.size)) HR.out
  · rw [hg] at HISG
    rcases hq : rangeB k c with _ | _
    · have HR := Lib.hid (over_no (p := p) (l := l) (.inr hq))
      rw [hq] at hrr
      obtain ⟨_, g1, g2⟩ := BX.out
      go_enter Try.func117, Try.ntmps117
      go_wp2_with (first | (go_at_call 87; refine HISG.mono ?_; rintro e w2 ⟨rfl, hb⟩; have HB := Lib.hid (below_on HA.out hb HA.out.size); clear HISG hb) | (go_at_call 112; refine (hrr _).mono ?_; rintro e w3 ⟨rfl, rfl⟩))
      go_ret2
      exact intsOB_nil (HB.out.trans ((new_below w2 _).mono HB.out.size)) HR.out
    · rw [hq] at hrr
      have hG : IsG p l := Classical.byContradiction fun g => by rw [isGB_no g] at hg; cases hg
      obtain ⟨P, rfl⟩ : ∃ P : Nat, p = (P : Int) := ⟨p.toNat, by have := hG.1; omega⟩
      have hP : 1 ≤ P ∧ P ≤ 8 := by have := hG.1; omega
      have h24 := hG.2.1
      have hk : 1 ≤ k ∧ k ≤ 3 ∧ 0 ≤ c ∧ c ≤ 2 * k - 1 := by simpa [rangeB, and_assoc] using hq
      have HE := Lib.hid (fun i (hi : i < l.length) => isG_bar hG i hi)
      have h256 : 2 ^ P ≤ 256 := (Nat.pow_le_pow_right (by decide) hP.2 : 2 ^ P ≤ 2 ^ 8)
      have h1P : 1 ≤ 2 ^ P := Nat.one_le_two_pow
      obtain ⟨N, hN⟩ : ∃ N : Nat, N = 2 ^ P := ⟨_, rfl⟩
      have hpw : wrap64 ((2 : Int) ^ P) = (N : Int) := by
        have h2 : ((2 : Int) ^ P) = ((2 ^ P : Nat) : Int) := by simp
        rw [h2, ← hN]
        unfold wrap64
        omega
      rw [← hN] at h256 h1P
      have HN := Lib.hid hN
      clear hN
      have HGQ := Lib.hid (And.intro hg hq)
      clear hG hg hq
      obtain ⟨_, g1, g2⟩ := BX.out
      go_enter Try.func117, Try.ntmps117
      go_wp2_with (first | (go_at_call 87; refine HISG.mono ?_; rintro e w2 ⟨rfl, hb⟩; have HB := Lib.hid (below_on HA.out hb HA.out.size); have BX2 := Lib.hid (BX.out.kept hb); clear HISG hb) | (go_at_call 112; refine (hrr _).mono ?_; rintro e w3 ⟨rfl, rfl⟩))
      clear g1 g2
      go_loopw [8] (fun i wr => ∃ m : Nat, 1 ≤ m ∧ m ≤ N ∧ i = .int .i64 m ∧ (∀ u, u < m → badS l k c P u = false) ∧ Box wr w.heap.size (P : Int) (.slice A l.length cap) ∧ Below w.heap.size w wr) (fun i _ => N - (intOf i).toNat)
      case atStart => exact ⟨1, Nat.le_refl _, h1P, rfl, fun u hu => by
        obtain rfl : u = 0 := by omega
        exact badS_zero l k c P, BX2.out, HB.out⟩
      case round =>
        obtain ⟨m, hm1, hm2, rfl, hall, hbx, hbw⟩ := hrel
        have HALL := Lib.hid hall
        have HBW := Lib.hid hbw
        have HBX := Lib.hid hbx
        obtain ⟨_, g1, g2⟩ := hbx
        have hbs := hbw.size
        clear hall hbw
        by_cases hlt : m < N
        · have him : (m : Int) < (N : Int) := by omega
          have hsl := setL_len P m
          have hcnt := Lib.hid (span_cnt P m l HE.out)
          have hcl := cntS_le l m
          have hbad : badS l k c P m = (decide (0 < cntS l m) && decide (k * ((setL P m).length : Int) - c < (cntS l m : Int))) := rfl
          have HLB := Lib.hid (HLW.out.on HBW.out)
          have hks : 0 ≤ k * ((setL P m).length : Int) ∧ k * ((setL P m).length : Int) ≤ 24 := by
            constructor
            · exact Int.mul_nonneg (by omega) (by omega)
            · calc k * ((setL P m).length : Int) ≤ 3 * ((setL P m).length : Int) := Int.mul_le_mul_of_nonneg_right (by omega) (by omega)
                _ ≤ 24 := by omega
          have armset : True := trivial
          by_cases h0 : 0 < cntS l m
          · have h0' : (0 : Int) < (cntS l m : Int) := by omega
            by_cases h1 : k * ((setL P m).length : Int) - c < (cntS l m : Int)
            · have HBD := Lib.hid (hbad.trans (by simp [h0, h1] : _ = true))
              have HR := Lib.hid (over_some HGQ.out.1 HGQ.out.2 HALL.out (by have := HN.out; omega) HBD.out)
              clear hbad
              go_wp2_with (first | (go_at_call 160; refine (specSet P m _ (by omega) (by omega)).mono ?_; rintro e w4 ⟨AS, cs, rfl, hs, hb⟩; have HS := Lib.hid hs; have HB4 := Lib.hid (below_on HBW.out hb hbs); have BX4 := Lib.hid (HBX.out.kept hb); have HL4 := Lib.hid (HLB.out.on hb); obtain ⟨_, g3, g4⟩ := BX4.out; clear hs hb) | (go_at_call 161; refine (specSpan (P : Int) l (setL P m) A AS cap cs _ _ _ HL4.out HS.out.reads (by omega) (by omega)).mono ?_; rintro e w5 ⟨AT, ct, rfl, ht, hb⟩; rw [hcnt.out] ; have HS5 := Lib.hid (HS.out.within (within_of hb) (by omega)); have HB5 := Lib.hid (below_on HB4.out hb HB4.out.size); have BX5 := Lib.hid (BX4.out.kept hb); clear ht hb g3 g4))
              go_ret2
              rw [HR.out.1, HR.out.2]
              exact ⟨AS, cs, rfl, HS5.out.widen hbs HS5.out.1 (Nat.le_refl _), HB5.out⟩
            · have HBD := Lib.hid (hbad.trans (by simp [h0, h1] : _ = false))
              clear hbad
              go_wp2_with (first | (go_at_call 160; refine (specSet P m _ (by omega) (by omega)).mono ?_; rintro e w4 ⟨AS, cs, rfl, hs, hb⟩; have HS := Lib.hid hs; have HB4 := Lib.hid (below_on HBW.out hb hbs); have BX4 := Lib.hid (HBX.out.kept hb); have HL4 := Lib.hid (HLB.out.on hb); obtain ⟨_, g3, g4⟩ := BX4.out; clear hs hb) | (go_at_call 161; refine (specSpan (P : Int) l (setL P m) A AS cap cs _ _ _ HL4.out HS.out.reads (by omega) (by omega)).mono ?_; rintro e w5 ⟨AT, ct, rfl, ht, hb⟩; rw [hcnt.out] ; have HS5 := Lib.hid (HS.out.within (within_of hb) (by omega)); have HB5 := Lib.hid (below_on HB4.out hb HB4.out.size); have BX5 := Lib.hid (BX4.out.kept hb); clear ht hb g3 g4))
              go_roundw
              case rel => exact ⟨m + 1, by omega, by omega, by go_num, fun u hu => (by
                by_cases e : u = m
                · rw [e]; exact HBD.out
                · exact HALL.out u (by omega)), BX5.out, HB5.out⟩
              case measure => simp [intOf]; omega
          · have hz0 : cntS l m = 0 := by omega
            have HBD := Lib.hid (hbad.trans (by simp [hz0] : _ = false))
            clear hbad
            rw [hz0] at hcnt
            go_wp2_with (first | (go_at_call 160; refine (specSet P m _ (by omega) (by omega)).mono ?_; rintro e w4 ⟨AS, cs, rfl, hs, hb⟩; have HS := Lib.hid hs; have HB4 := Lib.hid (below_on HBW.out hb hbs); have BX4 := Lib.hid (HBX.out.kept hb); have HL4 := Lib.hid (HLB.out.on hb); obtain ⟨_, g3, g4⟩ := BX4.out; clear hs hb) | (go_at_call 161; refine (specSpan (P : Int) l (setL P m) A AS cap cs _ _ _ HL4.out HS.out.reads (by omega) (by omega)).mono ?_; rintro e w5 ⟨AT, ct, rfl, ht, hb⟩; rw [hcnt.out] ; have HS5 := Lib.hid (HS.out.within (within_of hb) (by omega)); have HB5 := Lib.hid (below_on HB4.out hb HB4.out.size); have BX5 := Lib.hid (BX4.out.kept hb); clear ht hb g3 g4))
            go_roundw
            case rel => exact ⟨m + 1, by omega, by omega, by go_num, fun u hu => (by
              by_cases e : u = m
              · rw [e]; exact HBD.out
              · exact HALL.out u (by omega)), BX5.out, HB5.out⟩
            case measure => simp [intOf]; omega
        · obtain rfl : m = N := by omega
          have HR := Lib.hid (over_none (P := P) (k := k) (c := c) (l := l) fun u hu => HALL.out u (by have := HN.out; omega))
          go_wp2_with fail
          go_ret2
          exact intsOB_nil (HBW.out.trans ((new_below wr _).mono hbs)) HR.out
end Go.Proofs.Ytedjhnedkghhoaa
/- What the program's OvercountedSet answers: the same as the specification's. No condition. -/
namespace Go.Proofs.Ytedjhnedkghhoaa
open Go.RowKit Go.Shelf
attribute [local go_sem] Oper.semAt_some

/-- The sets from 0 on, as many as have come. -/
def setsTo (N k : Nat) : List (Fin N) := (List.finRange N).take k
theorem setsTo_succ {N k : Nat} (h : k < N) : setsTo N (k + 1) = setsTo N k ++ [⟨k, h⟩] := by
  unfold setsTo
  rw [List.take_succ_eq_append_getElem (by simpa using h)]
  simp
theorem setsTo_all (N : Nat) : setsTo N N = List.finRange N := by
  unfold setsTo
  exact List.take_of_length_le (by simp)
theorem setsTo_len {N k : Nat} (h : k ≤ N) : (setsTo N k).length = k := by simp [setsTo]; omega
theorem pre_last {N : Nat} {pre : List (Fin N)} {m : Fin N} (h : pre ++ [m] <+: List.finRange N) : ∀ i (hi : i < m.1), (⟨i, Nat.lt_trans hi m.2⟩ : Fin N) ∈ pre := by
  have hlen := h.length_le
  simp at hlen
  have at_ : ∀ j (hj : j < (pre ++ [m]).length), (pre ++ [m])[j] = ⟨j, by simp at hj; omega⟩ := fun j hj => by
    rw [h.getElem hj]
    simp
  have hm : m.1 = pre.length := by
    have := at_ pre.length (by simp)
    simp at this
    rw [this]
  intro i hi
  have hi' : i < pre.length := by omega
  have := at_ i (by simp; omega)
  rw [List.getElem_append_left hi'] at this
  rw [← this]
  exact List.getElem_mem hi'

set_option maxHeartbeats 2000000 in
set_option maxRecDepth 100000 in
theorem sets_stops (n : Nat) (hn : 1 ≤ n) (P N b : Nat) (w : World) (hP : P ≤ 8) (hN : N = 2 ^ P) (hb0 : w.cell? ⟨b, 0, none⟩ = some (.int .i64 (P : Int))) (hlt : b < w.heap.size) :
    SeqStopsK Fence.wide n Try.prog 196 #[.pointer (some ⟨b, 0, none⟩)] (fun m : Fin N => #[Value.int .u64 (m.1 : Int)]) (fun _ _ => True) (fun xs => xs = List.finRange N) (fun pre => pre <+: List.finRange N) N w := fun l J Jx W hW hJ hJx hY h0 => by
  have hc := (hW.cell (p := ⟨b, 0, none⟩) hlt).trans hb0
  have h256 : N ≤ 256 := by rw [hN]; exact (Nat.pow_le_pow_right (by decide) hP : 2 ^ P ≤ 2 ^ 8)
  have hpw : IntKind.u64.wrap ((2 : Int) ^ P) = (N : Int) := by
    have h2 : ((2 : Int) ^ P) = ((2 ^ P : Nat) : Int) := by simp
    rw [h2, ← hN]
    exact IntWalk.u64_in (N : Int) (by omega)
  clear hN
  refine callsIn_of_wp Try.func196 rfl trivial ?_ rfl
  simp only [Try.ntmps196, List.size_toArray, List.length_cons, List.length_nil, Nat.reduceAdd, Nat.reduceSub, Array.replicate_succ, Array.replicate_zero, List.push_toArray, List.append_toArray, List.nil_append, List.cons_append]
  gi_wp2
  gi_loopw [7] (fun i wr => ∃ k : Nat, k ≤ N ∧ i = .int .u64 k ∧ J (setsTo N k) wr) (fun i _ => N - (intOf i).toNat)
  case atStart => exact ⟨0, by omega, rfl, h0⟩
  case round =>
    obtain ⟨k, hk, rfl, hJs⟩ := hrel
    by_cases hlt : k < N
    · have hik : (k : Int) < (N : Int) := by omega
      have hs := setsTo_succ hlt
      obtain ⟨fn, tmps, assign, body, hy, hR⟩ := hY (setsTo N k) ⟨k, hlt⟩ wr hJs (by rw [setsTo_len hk]; exact hlt)
      dsimp only at hy
      gi_wp2
      refine hR.mono ?_
      rintro e W3 (⟨rfl, hJ3, _⟩ | ⟨rfl, hJx3⟩)
      · gi_wp2
        go_roundw
        case rel => exact ⟨k + 1, by omega, by go_num, by rw [hs]; exact hJ3⟩
        case measure => simp [intOf]; omega
      · gi_wp2
        refine bodyPost_ret (results_none rfl _ _ _) rfl ?_
        exact ⟨⟨_, rfl⟩, .inr ⟨setsTo N (k + 1), List.take_prefix _ _, by rw [hs]; exact hJx3⟩⟩
    · obtain rfl : k = N := by omega
      gi_wp2
      go_end0
      exact ⟨⟨_, rfl⟩, .inl ⟨setsTo k k, setsTo_all k, hJs⟩⟩

theorem makeSets (P : Int) (gv : Value) (w : World) : Calls Try.prog 189 #[.agg #[.int .i64 P, gv]] w fun e w' => e = .returned (.func (.func 196) #[] #[.pointer (some ⟨w.heap.size, 0, none⟩)]) ∧ w' = w.alloc (.cells #[.int .i64 P, gv] 30) := by
  go_enter Try.func189, Try.ntmps189
  go_wp2
  go_ret
  exact ⟨rfl, rfl⟩

theorem below_others {W W' : World} (h : Below W.heap.size W W') : KeepsOthers W W' := ⟨h.size, fun k _ hk _ => (h.block k (Array.getElem?_eq_some_iff.1 hk).1).trans hk⟩

theorem cell_new1 (W : World) (v : Value) (t : TypeId) : (W.alloc (.cells #[v] t)).cell? ⟨W.heap.size, 0, none⟩ = some v ∧ (W.alloc (.cells #[v] t)).frozen? ⟨W.heap.size, 0, none⟩ = false :=
  ⟨by rw [World.cell?_alloc_at _ _ _ _ rfl]; rfl, World.frozen?_alloc_at _ _ _ _ rfl⟩
theorem cell_al {W : World} {a : Addr} {v : Value} (o : Obj) (h : W.cell? a = some v) : (W.alloc o).cell? a = some v := cell_kept h (World.grownBy_alloc W o none) (fun r e => by cases e)
theorem froz_al {W : World} {a : Addr} {v : Value} (o : Obj) (h : W.cell? a = some v) (hf : W.frozen? a = false) : (W.alloc o).frozen? a = false := (frozen_kept h (World.grownBy_alloc W o none) (fun r e => by cases e)).trans hf
/-- What stands while the sets are tried: the arguments' boxes, and the results' cells. -/
structure OverSt (w W : World) (P : Int) (k c : Int) (gv r0 : Value) (r1 : Bool) : Prop where
  g0 : W.cell? ⟨w.heap.size, 0, none⟩ = some (.int .i64 P)
  g1 : W.cell? ⟨w.heap.size, 1, none⟩ = some gv
  bk : W.cell? ⟨w.heap.size + 1, 0, none⟩ = some (.int .i64 k)
  bc : W.cell? ⟨w.heap.size + 1 + 1, 0, none⟩ = some (.int .i64 c)
  c0 : W.cell? ⟨w.heap.size + 1 + 1 + 1, 0, none⟩ = some r0
  f0 : W.frozen? ⟨w.heap.size + 1 + 1 + 1, 0, none⟩ = false
  c1 : W.cell? ⟨w.heap.size + 1 + 1 + 1 + 1, 0, none⟩ = some (.bool r1)
  f1 : W.frozen? ⟨w.heap.size + 1 + 1 + 1 + 1, 0, none⟩ = false
theorem OverSt.kept {w W W' : World} {P : Int} {k c : Int} {gv r0 : Value} {r1 : Bool} (h : OverSt w W P k c gv r0 r1) (hb : Below W.heap.size W W') : OverSt w W' P k c gv r0 r1 := by
  have lt : ∀ {a : Addr} {v : Value}, W.cell? a = some v → a.block < W.heap.size := fun {a v} e => World.block_lt_of_cell? W a e
  exact ⟨(hb.cell (lt h.g0)).trans h.g0, (hb.cell (lt h.g1)).trans h.g1, (hb.cell (lt h.bk)).trans h.bk, (hb.cell (lt h.bc)).trans h.bc, (hb.cell (lt h.c0)).trans h.c0, (hb.frozen (lt h.c0)).trans h.f0, (hb.cell (lt h.c1)).trans h.c1, (hb.frozen (lt h.c1)).trans h.f1⟩
theorem OverSt.own {w W W' : World} {P : Int} {k c : Int} {gv r0 : Value} {r1 : Bool} {row : Option Nat} (h : OverSt w W P k c gv r0 r1) (hg : W.grownBy W' row) (hr : ∀ r, row = some r → ∃ o : Obj, W.heap[r]? = some o ∧ o.isCells = false) : OverSt w W' P k c gv r0 r1 :=
  ⟨cell_kept h.g0 hg hr, cell_kept h.g1 hg hr, cell_kept h.bk hg hr, cell_kept h.bc hg hr, cell_kept h.c0 hg hr, (frozen_kept h.c0 hg hr).trans h.f0, cell_kept h.c1 hg hr, (frozen_kept h.c1 hg hr).trans h.f1⟩
theorem OwnInts.own {W W' : World} {lo hi : Nat} {A : Option Addr} {cap : Nat} {zs : List Int} {row : Option Nat} (h : OwnInts W lo hi A cap zs) (hg : W.grownBy W' row) (hr : ∀ r, row = some r → ∃ o : Obj, W.heap[r]? = some o ∧ o.isCells = false) : OwnInts W' lo hi A cap zs :=
  ⟨Nat.le_trans h.1 hg.size, by
    rcases h.2 with h2 | ⟨g, e, h1, h2, ho⟩
    · exact .inl h2
    · refine .inr ⟨g, e, h1, h2, own_block ho (hg.block g (Nat.lt_of_lt_of_le h2 h.1) fun e => ?_)⟩
      obtain ⟨o, ho1, ho2⟩ := hr g e.symm
      rcases ho.2 with ⟨h4, _⟩ | ⟨g', cap', cur, h4, h5, h6, h7⟩
      · cases h4
      · cases h4
        rw [h6] at ho1
        cases ho1
        cases ho2⟩

theorem OwnInts.set {W : World} {lo hi : Nat} {A : Option Addr} {cap : Nat} {zs : List Int} (h : OwnInts W lo hi A cap zs) (b j : Nat) (u : Value) (hb : b < lo ∨ hi ≤ b) : OwnInts (W.setCell ⟨b, j, none⟩ u) lo hi A cap zs :=
  ⟨by simpa using h.1, by
    rcases h.2 with h2 | ⟨g, e, h1, h2, ho⟩
    · exact .inl h2
    · exact .inr ⟨g, e, h1, h2, own_block ho ((grownBy_set W b j u).block g (Nat.lt_of_lt_of_le h2 h.1) (fun e => by simp at e; omega))⟩⟩
theorem OverSt.stored {w W : World} {P : Int} {k c : Int} {gv r0 : Value} {r1 : Bool} (h : OverSt w W P k c gv r0 r1) (v : Value) (b : Bool) :
    OverSt w ((W.setCell ⟨w.heap.size + 1 + 1 + 1, 0, none⟩ v).setCell ⟨w.heap.size + 1 + 1 + 1 + 1, 0, none⟩ (.bool b)) P k c gv v b := by
  have oth : ∀ (W : World) (a b : Addr) (u v : Value), W.cell? a = some v → a.block ≠ b.block → (W.setCell b u).cell? a = some v := fun W a b u v e hne => by
    rw [World.cell?_setCell_other _ _ _ _ (by intro e; exact hne (by rw [e]))]
    exact e
  constructor
  · exact oth _ _ _ _ _ (oth _ _ _ _ _ h.g0 (by simp; omega)) (by simp; omega)
  · exact oth _ _ _ _ _ (oth _ _ _ _ _ h.g1 (by simp; omega)) (by simp; omega)
  · exact oth _ _ _ _ _ (oth _ _ _ _ _ h.bk (by simp)) (by simp)
  · exact oth _ _ _ _ _ (oth _ _ _ _ _ h.bc (by simp)) (by simp)
  · exact oth _ _ _ _ _ (World.cell?_setCell_same _ _ _ h.c0) (by simp)
  · rw [World.frozen?_setCell, World.frozen?_setCell]; exact h.f0
  · exact World.cell?_setCell_same _ _ _ (oth _ _ _ _ _ h.c1 (by simp))
  · rw [World.frozen?_setCell, World.frozen?_setCell]; exact h.f1

theorem OverSt.start (w : World) (p k c : Int) (gv : Value) : Below w.heap.size w (((((w.alloc (.cells #[.int .i64 p, gv] 30)).alloc (.cells #[.int .i64 k] 3)).alloc (.cells #[.int .i64 c] 3)).alloc (.cells #[.slice none 0 0] 25)).alloc (.cells #[.bool false] 4)) ∧
    OverSt w (((((w.alloc (.cells #[.int .i64 p, gv] 30)).alloc (.cells #[.int .i64 k] 3)).alloc (.cells #[.int .i64 c] 3)).alloc (.cells #[.slice none 0 0] 25)).alloc (.cells #[.bool false] 4)) p k c gv (.slice none 0 0) false := by
  refine ⟨(((((Below.refl _ w).alloc (Nat.le_refl _) _).alloc (by simp) _).alloc (by simp; omega) _).alloc (by simp; omega) _).alloc (by simp; omega) _, ?_⟩
  have e0 := box_new w p gv 30
  have e1 := cell_new1 (w.alloc (.cells #[.int .i64 p, gv] 30)) (.int .i64 k) 3
  have e2 := cell_new1 ((w.alloc (.cells #[.int .i64 p, gv] 30)).alloc (.cells #[.int .i64 k] 3)) (.int .i64 c) 3
  have e3 := cell_new1 (((w.alloc (.cells #[.int .i64 p, gv] 30)).alloc (.cells #[.int .i64 k] 3)).alloc (.cells #[.int .i64 c] 3)) (.slice none 0 0) 25
  have e4 := cell_new1 ((((w.alloc (.cells #[.int .i64 p, gv] 30)).alloc (.cells #[.int .i64 k] 3)).alloc (.cells #[.int .i64 c] 3)).alloc (.cells #[.slice none 0 0] 25)) (.bool false) 4
  simp only [World.size_alloc] at e1 e2 e3 e4
  exact ⟨cell_al _ (cell_al _ (cell_al _ (cell_al _ e0.2.1))), cell_al _ (cell_al _ (cell_al _ (cell_al _ e0.2.2))), cell_al _ (cell_al _ (cell_al _ e1.1)), cell_al _ (cell_al _ e2.1), cell_al _ e3.1, froz_al _ e3.1 e3.2, e4.1, e4.2⟩

set_option maxHeartbeats 4000000 in
set_option maxRecDepth 100000 in
theorem implOver_yes (P N : Nat) (k c : Int) (l : List (Int × Int)) (A : Option Addr) (cap : Nat) (w : World) (hl : BarsAt w w.heap.size A l) (hG : isGB (P : Int) l = true) (hr : rangeB k c = true) (hP : P ≤ 8) (hN : N = 2 ^ P) (hn : l.length ≤ 24) (hE : okE P l) :
    Calls Try.prog 171 #[.agg #[.int .i64 (P : Int), .slice A l.length cap], .int .i64 k, .int .i64 c] w (IntsOB w (overL (P : Int) l k c) (overB (P : Int) l k c)) := by
  obtain ⟨w5, hw5⟩ : ∃ x, x = (((((w.alloc (.cells #[.int .i64 (P : Int), .slice A l.length cap] 30)).alloc (.cells #[.int .i64 k] 3)).alloc (.cells #[.int .i64 c] 3)).alloc (.cells #[.slice none 0 0] 25)).alloc (.cells #[.bool false] 4)) := ⟨_, rfl⟩
  have hst5 := OverSt.start w (P : Int) k c (.slice A l.length cap)
  rw [← hw5] at hst5
  have hB5 := hst5.1
  have HST5 := Lib.hid hst5.2
  have HB5 := Lib.hid hB5
  have HL5 := Lib.hid (hl.on hB5)
  have HISG : Calls Try.prog 102 #[.agg #[.int .i64 (P : Int), .slice A l.length cap]] w5 fun e w' => e = .returned (.bool true) ∧ Below w5.heap.size w5 w' := by
    have := implIsGraph (P : Int) l A cap w5 HL5.out (by omega)
    rw [hG] at this
    exact this
  have hrr : ∀ W, Calls Try.prog 110 #[.int .i64 k, .int .i64 c] W fun e w' => e = .returned (.bool true) ∧ W = w' := fun W => by
    have := implRange k c W
    rw [hr] at this
    exact this
  have hms := makeSets (P : Int) (.slice A l.length cap)
  refine (callsIn_wide (n := 3)).1 ?_
  refine callsIn_of_wp_marks Try.func171 rfl trivial ?_ rfl
  simp only [Try.ntmps171, List.size_toArray, List.length_cons, List.length_nil, Nat.reduceAdd, Nat.reduceSub, Array.replicate_succ, Array.replicate_zero, List.push_toArray, List.append_toArray, List.nil_append, List.cons_append]
  gi_wp2_with (first | (refine ⟨trivial, ?_⟩; gi_at_call 102; rw [← hw5]; refine (callsIn_wide.2 HISG).mono ?_; rintro e w6 ⟨rfl, hb⟩; have HB6 := Lib.hid (below_on HB5.out hb HB5.out.size); have HST6 := Lib.hid (HST5.out.kept hb); have HL6 := Lib.hid (HL5.out.on hb); obtain ⟨q0, q1, q2, q3, q4, q5, q6, q7⟩ := HST6.out; clear hb HISG) | (refine ⟨trivial, ?_⟩; gi_at_call 110; refine (callsIn_wide.2 (hrr _)).mono ?_; rintro e w7 ⟨rfl, rfl⟩; clear hrr) | (refine ⟨trivial, ?_⟩; gi_at_call 189; refine (callsIn_wide.2 (hms _)).mono ?_; rintro e w8 ⟨rfl, rfl⟩; clear hms))
  have hbx := box_new w6 (P : Int) (.slice A l.length cap) 30
  have hB8 := Lib.hid (HB6.out.trans ((new_below w6 (.cells #[.int .i64 (P : Int), .slice A l.length cap] 30)).mono HB6.out.size))
  have HST8 := Lib.hid (HST6.out.kept (new_below w6 (.cells #[.int .i64 (P : Int), .slice A l.length cap] 30)))
  have hsz8 : (w6.alloc (.cells #[.int .i64 (P : Int), .slice A l.length cap] 30)).heap.size = w6.heap.size + 1 := by simp
  clear q0 q1 q2 q3 q4 q5 q6 q7
  generalize (w6.alloc (.cells #[.int .i64 (P : Int), .slice A l.length cap] 30)) = w8 at *
  have hs8 := hB8.out.size
  refine wpIn_rangeFunc_ownF rfl (by omega) (gf := 196) (lb := #[.pointer (some ⟨w6.heap.size, 0, none⟩)]) rfl trivial (enters_of Try.func196 (by kernel_rfl) rfl)
    (sets_stops _ (by omega) P N w6.heap.size w8 hP hN hbx.2.1 hbx.1) (fun _ _ => trivial) (fun _ _ _ _ _ _ _ _ => trivial) (Below.refl _ _) (fun _ => rfl)
    (fun pre W => ((∀ x ∈ pre, badS l k c P x.1 = false) ∧ OverSt w W P k c (.slice A l.length cap) (.slice none 0 0) false) ∧ Below w.heap.size w W)
    (fun j pre W => (j = .ret ∧ ∃ (pre' : List (Fin N)) (m : Fin N) (hi : Nat) (A' : Option Addr) (c' : Nat), pre = pre' ++ [m] ∧ (∀ x ∈ pre', badS l k c P x.1 = false) ∧ badS l k c P m.1 = true ∧ OwnInts W w.heap.size hi A' c' (setL P m.1) ∧ OverSt w W P k c (.slice A l.length cap) (.slice A' (setL P m.1).length c') true) ∧ Below w.heap.size w W)
    (OwnFrom.and (Own.from (fun s A B row hs hg hr => ⟨hs.1, hs.2.own hg hr⟩) _) (ownFrom_below (Nat.le_refl _) hs8))
    (fun j => OwnFrom.and (Own.from (fun s A B row hs hg hr => by
      obtain ⟨hj, pre', m, hi, A', c', h1, h2, h3, h4, h5⟩ := hs
      exact ⟨hj, pre', m, hi, A', c', h1, h2, h3, h4.own hg hr, h5.own hg hr⟩) _) (ownFrom_below (Nat.le_refl _) hs8))
    ⟨⟨by simp, HST8.out⟩, hB8.out⟩
    (fun x => { tmps := #[.agg #[.int .i64 (P : Int), .slice A l.length cap], .int .i64 k, .int .i64 c, .pointer (some ⟨w.heap.size, 0, none⟩), .pointer (some ⟨w.heap.size + 1, 0, none⟩), .pointer (some ⟨w.heap.size + 1 + 1, 0, none⟩), .pointer (some ⟨w.heap.size + 1 + 1 + 1, 0, none⟩), .pointer (some ⟨w.heap.size + 1 + 1 + 1 + 1, 0, none⟩), .int .u64 (x.1 : Int), .agg #[.int .i64 (P : Int), .slice A l.length cap], .bool true, .bool false, .bool false, .int .i64 k, .int .i64 c, .bool true, .bool false, .bool false, .agg #[.int .i64 (P : Int), .slice A l.length cap], .func (.func 196) #[] #[.pointer (some ⟨w6.heap.size, 0, none⟩)], .int .u64 (x.1 : Int), undef, undef, undef, undef, undef, undef, undef, undef], defers := [] }) ?assign ?body ?done ?stop
  case assign =>
    intro l x W K hK
    gi_wp2
    exact hK
  case body =>
    rintro lp pre x W ⟨⟨hall, hst⟩, hB⟩ _
    have hx : x.1 < 2 ^ P := hN ▸ x.2
    have hx8 : x.1 < 256 := Nat.lt_of_lt_of_le hx (Nat.pow_le_pow_right (by decide) hP : 2 ^ P ≤ 2 ^ 8)
    have HSTW := Lib.hid hst
    have HBW := Lib.hid hB
    have HALL := Lib.hid hall
    have hI1 := implOverOne P x.1 k c l A cap W (hl.on hB) hn hP hx hE hr
    obtain ⟨q0, q1, q2, q3, q4, q5, q6, q7⟩ := hst
    clear hB hall
    rcases hbd : badS l k c P x.1 with _ | _
    · rw [hbd] at hI1
      gi_wp2_with (refine ⟨trivial, ?_⟩; gi_at_call 190; refine (CallsIn.inRound lp (callsIn_wide.2 hI1)).mono ?_; rintro e w9 ⟨rfl, hb⟩; have HB9 := Lib.hid hb; clear hb hI1)
      exact ⟨below_others HB9.out, trivial, ⟨fun y hy => (List.mem_append.1 hy).elim (HALL.out y) (fun e => by simp at e; rw [e]; exact hbd), HSTW.out.kept HB9.out⟩, HBW.out.trans (HB9.out.mono HBW.out.size)⟩
    · rw [hbd] at hI1
      have hI2 := fun W' => implList P x.1 (.slice A l.length cap) W' hP hx8
      gi_wp2_with (first | (refine ⟨trivial, ?_⟩; gi_at_call 190; refine (CallsIn.inRound lp (callsIn_wide.2 hI1)).mono ?_; rintro e w9 ⟨rfl, hb⟩; have HB9 := Lib.hid hb; have HST9 := Lib.hid (HSTW.out.kept hb); obtain ⟨t0, t1, t2, t3, t4, t5, t6, t7⟩ := HST9.out; clear hb hI1 q0 q1 q2 q3 q4 q5 q6 q7) | (refine ⟨trivial, ?_⟩; gi_at_call 191; refine (CallsIn.inRound lp (callsIn_wide.2 (hI2 _))).mono ?_; rintro e w10 ⟨A', c', rfl, ho, hb⟩; have HB10 := Lib.hid hb; have HST10 := Lib.hid (HST9.out.kept hb); have HO := Lib.hid ho; obtain ⟨u0, u1, u2, u3, u4, u5, u6, u7⟩ := HST10.out; clear hb hI2 ho t0 t1 t2 t3 t4 t5 t6 t7))
      have h9 := HB9.out.size
      have hlt : w.heap.size + 1 + 1 + 1 + 1 < W.heap.size := World.block_lt_of_cell? W _ HSTW.out.c1
      have hBW := HBW.out
      refine ⟨(below_others HB9.out).trans ((below_others HB10.out).trans ((KeepsOthers.setCell _ _ _).trans (KeepsOthers.setCell _ _ _))), ⟨rfl, pre, x, w10.heap.size, A', c', rfl, HALL.out, hbd, ?_, HST10.out.stored _ _⟩, ?_⟩
      · exact ((HO.out.set _ _ _ (.inl (by omega))).set _ _ _ (.inl (by omega))).widen (by have := hBW.size; omega) (Nat.le_refl _) (by simp)
      · exact ((hBW.trans (HB9.out.mono hBW.size)).trans (HB10.out.mono (Nat.le_trans hBW.size h9))).setCell (p := ⟨w.heap.size + 1 + 1 + 1, 0, none⟩) (by show w.heap.size ≤ w.heap.size + 1 + 1 + 1; omega) _ |>.setCell (p := ⟨w.heap.size + 1 + 1 + 1 + 1, 0, none⟩) (by show w.heap.size ≤ w.heap.size + 1 + 1 + 1 + 1; omega) _
  case done =>
    rintro D xs W hD rfl ⟨⟨hall, hst⟩, hB⟩ hK
    have HR := Lib.hid (over_none (P := P) (k := k) (c := c) (l := l) fun u hu => hall ⟨u, by omega⟩ (List.mem_finRange _))
    have HSTW := Lib.hid hst
    obtain ⟨q0, q1, q2, q3, q4, q5, q6, q7⟩ := hst
    clear hall
    gi_wp2
    have hS := HSTW.out.stored (.slice none 0 0) false
    have hK' := ((KeepsOthers.setCell W ⟨w.heap.size + 1 + 1 + 1, 0, none⟩ (.slice none 0 0)).trans (KeepsOthers.setCell _ ⟨w.heap.size + 1 + 1 + 1 + 1, 0, none⟩ (.bool false))).same D _ hK rfl
    refine ⟨by simp, .inl ⟨_, _, rfl, run_takeDeferred hK', ?_⟩⟩
    have hS2 := hS.own (grownBy_putObj' _ D (.deferred none)) (fun r e => by cases e; exact ⟨_, hK', rfl⟩)
    have s0 := hS2.c0
    have s1 := hS2.c1
    refine ⟨.tuple #[.slice none 0 0, .bool false], ?_, intsOB_nil ?_ HR.out⟩
    · simp [results, Try.f171, go_sem, s0, s1]
    · exact ((hB.setCell (p := ⟨w.heap.size + 1 + 1 + 1, 0, none⟩) (by show w.heap.size ≤ w.heap.size + 1 + 1 + 1; omega) _).setCell (p := ⟨w.heap.size + 1 + 1 + 1 + 1, 0, none⟩) (by show w.heap.size ≤ w.heap.size + 1 + 1 + 1 + 1; omega) _).trans (belowK_b (w := w) (Nat.le_refl _) _ D _ _ (by omega) hK' rfl rfl)
  case stop =>
    rintro D j pre W hD hpre ⟨⟨rfl, pre', m, hi, A', c', rfl, hall, hbad, hown, hst⟩, hB⟩ hK
    have HR := Lib.hid (over_some hG hr (fun i hi => hall _ (pre_last hpre i hi)) (hN ▸ m.2) hbad)
    have hS2 := hst.own (grownBy_putObj' _ D (.deferred none)) (fun r e => by cases e; exact ⟨_, hK, rfl⟩)
    have hO2 := hown.own (grownBy_putObj' _ D (.deferred none)) (fun r e => by cases e; exact ⟨_, hK, rfl⟩)
    gi_wp2
    refine ⟨by simp, .inl ⟨_, _, rfl, run_takeDeferred hK, ?_⟩⟩
    have s0 := hS2.c0
    have s1 := hS2.c1
    refine ⟨.tuple #[.slice A' (setL P m.1).length c', .bool true], ?_, ?_⟩
    · simp [results, Try.f171, go_sem, s0, s1]
    · rw [HR.out.1, HR.out.2]
      exact ⟨A', c', rfl, hO2.widen (Nat.le_refl _) hO2.1 (Nat.le_refl _), hB.trans (belowK_b (w := w) (Nat.le_refl _) W D _ _ (by omega) hK rfl rfl)⟩

set_option maxHeartbeats 4000000 in
set_option maxRecDepth 100000 in
theorem implOver (p k c : Int) (l : List (Int × Int)) (A : Option Addr) (cap : Nat) (w : World) (hl : BarsAt w w.heap.size A l) (hn : l.length ≤ 1048576) :
    Calls Try.prog 171 #[.agg #[.int .i64 p, .slice A l.length cap], .int .i64 k, .int .i64 c] w (IntsOB w (overL p l k c) (overB p l k c)) := by
  obtain ⟨w5, hw5⟩ : ∃ x, x = (((((w.alloc (.cells #[.int .i64 p, .slice A l.length cap] 30)).alloc (.cells #[.int .i64 k] 3)).alloc (.cells #[.int .i64 c] 3)).alloc (.cells #[.slice none 0 0] 25)).alloc (.cells #[.bool false] 4)) := ⟨_, rfl⟩
  have hst5 := OverSt.start w p k c (.slice A l.length cap)
  rw [← hw5] at hst5
  have HB5 := Lib.hid hst5.1
  have HST5 := Lib.hid hst5.2
  clear hst5
  have HISG := implIsGraph p l A cap w5 (hl.on HB5.out) hn
  have hrr := implRange k c
  rcases hg : isGB p l with _ | _
  · rw [hg] at HISG
    have HR := Lib.hid (over_no (k := k) (c := c) (.inl hg))
    clear hrr hl
    go_enter Try.func171, Try.ntmps171
    go_wp2_with (go_at_call 102; rw [← hw5]; refine HISG.mono ?_; rintro e w6 ⟨rfl, hb⟩; have HB6 := Lib.hid (below_on HB5.out hb HB5.out.size); have HST6 := Lib.hid (HST5.out.kept hb); obtain ⟨q0, q1, q2, q3, q4, q5, q6, q7⟩ := HST6.out; clear hb HISG)
    have hS := HST6.out.stored (.slice none 0 0) false
    have s0 := hS.c0
    have s1 := hS.c1
    refine bodyPost_ret (v := .tuple #[.slice none 0 0, .bool false]) ?_ rfl (intsOB_nil ((HB6.out.setCell (p := ⟨w.heap.size + 1 + 1 + 1, 0, none⟩) (by show w.heap.size ≤ w.heap.size + 1 + 1 + 1; omega) _).setCell (p := ⟨w.heap.size + 1 + 1 + 1 + 1, 0, none⟩) (by show w.heap.size ≤ w.heap.size + 1 + 1 + 1 + 1; omega) _) HR.out)
    simp [results, Try.f171, go_sem, s0, s1]
  · rw [hg] at HISG
    rcases hq : rangeB k c with _ | _
    · rw [hq] at hrr
      have HR := Lib.hid (over_no (p := p) (l := l) (.inr hq))
      clear hl
      go_enter Try.func171, Try.ntmps171
      go_wp2_with (first | (go_at_call 102; rw [← hw5]; refine HISG.mono ?_; rintro e w6 ⟨rfl, hb⟩; have HB6 := Lib.hid (below_on HB5.out hb HB5.out.size); have HST6 := Lib.hid (HST5.out.kept hb); obtain ⟨q0, q1, q2, q3, q4, q5, q6, q7⟩ := HST6.out; clear hb HISG) | (go_at_call 110; refine (hrr _).mono ?_; rintro e w7 ⟨rfl, rfl⟩; clear hrr))
      have hS := HST6.out.stored (.slice none 0 0) false
      have s0 := hS.c0
      have s1 := hS.c1
      refine bodyPost_ret (v := .tuple #[.slice none 0 0, .bool false]) ?_ rfl (intsOB_nil ((HB6.out.setCell (p := ⟨w.heap.size + 1 + 1 + 1, 0, none⟩) (by show w.heap.size ≤ w.heap.size + 1 + 1 + 1; omega) _).setCell (p := ⟨w.heap.size + 1 + 1 + 1 + 1, 0, none⟩) (by show w.heap.size ≤ w.heap.size + 1 + 1 + 1 + 1; omega) _) HR.out)
      simp [results, Try.f171, go_sem, s0, s1]
    · have hG : IsG p l := Classical.byContradiction fun g => by rw [isGB_no g] at hg; cases hg
      obtain ⟨P, rfl⟩ : ∃ P : Nat, p = (P : Int) := ⟨p.toNat, by have := hG.1; omega⟩
      exact implOver_yes P (2 ^ P) k c l A cap w hl hg hq (by have := hG.1; omega) rfl hG.2.1 fun i hi => isG_bar hG i hi
end Go.Proofs.Ytedjhnedkghhoaa
/- What spec.IsSparse answers. No condition. -/
namespace Go.Proofs.Ytedjhnedkghhoaa
open Go.RowKit

noncomputable def sparseB (p k c : Int) (l : List (Int × Int)) : Bool := isGB p l && rangeB k c && !overB p l k c

set_option maxHeartbeats 2000000 in
set_option maxRecDepth 100000 in
theorem specSparse (p k c : Int) (l : List (Int × Int)) (A : Option Addr) (cap : Nat) (w : World) (hl : BarsAt w w.heap.size A l) (hn : l.length ≤ 1048576) :
    Calls Try.prog 49 #[.agg #[.int .i64 p, .slice A l.length cap], .int .i64 k, .int .i64 c] w fun e w' => e = .returned (.bool (sparseB p k c l)) ∧ Below w.heap.size w w' := by
  have hA := new_below w (.cells #[.int .i64 p, .slice A l.length cap] 30)
  have HA := Lib.hid hA
  have BX := Lib.hid (box_new w p (.slice A l.length cap) 30)
  have HOV := specOver p k c l A cap _ (hl.on hA) hn
  have HL := Lib.hid (hl.on hA)
  clear hl hA
  have hrr := specRange k c
  have hsb : sparseB p k c l = (isGB p l && rangeB k c && !overB p l k c) := rfl
  have HISG : ∀ W : World, BarsAt W W.heap.size A l → Calls Try.prog 87 #[.agg #[.int .i64 p, .slice A l.length cap]] W fun e w' => e = .returned (.bool (isGB p l)) ∧ Below W.heap.size W w' := fun W h => specIsGraph' p l A cap W h hn
  obtain ⟨_, g1, g2⟩ := BX.out
  generalize isGB p l = bg at *
  generalize rangeB k c = br at *
  generalize overB p l k c = bo at *
  generalize sparseB p k c l = bs at *
  cases bg <;> cases br <;> cases bo
  all_goals
    have HBS := Lib.hid hsb
    clear hsb
    go_enter Try.func49, Try.ntmps49
    go_wp2_with (first | (go_at_call 117; refine HOV.mono ?_; rintro e w2 ⟨AS, cs, rfl, _, hb⟩; have HB := Lib.hid (below_on HA.out hb HA.out.size); have HL2 := Lib.hid (HL.out.on hb); obtain ⟨_, g3, g4⟩ := BX.out.kept hb; clear HOV hb g1 g2) | (go_at_call 87; refine (HISG _ HL2.out).mono ?_; rintro e w3 ⟨rfl, hb⟩; have HB3 := Lib.hid (below_on HB.out hb HB.out.size); clear HISG hb g3 g4) | (go_at_call 112; refine (hrr _).mono ?_; rintro e w4 ⟨rfl, rfl⟩; clear hrr))
    go_ret
    exact ⟨by rw [HBS.out]; rfl, HB3.out⟩

end Go.Proofs.Ytedjhnedkghhoaa
/- What impl.IsSparse answers. No condition. -/
namespace Go.Proofs.Ytedjhnedkghhoaa
open Go.RowKit

set_option maxHeartbeats 2000000 in
set_option maxRecDepth 100000 in
theorem implSparse (p k c : Int) (l : List (Int × Int)) (A : Option Addr) (cap : Nat) (w : World) (hl : BarsAt w w.heap.size A l) (hn : l.length ≤ 1048576) :
    Calls Try.prog 148 #[.agg #[.int .i64 p, .slice A l.length cap], .int .i64 k, .int .i64 c] w fun e w' => e = .returned (.bool (sparseB p k c l)) ∧ Below w.heap.size w w' := by
  have hA := new_below w (.cells #[.int .i64 p, .slice A l.length cap] 30)
  have HA := Lib.hid hA
  have BX := Lib.hid (box_new w p (.slice A l.length cap) 30)
  have HISG := implIsGraph p l A cap _ (hl.on hA) hn
  have HL := Lib.hid (hl.on hA)
  clear hl hA
  have hrr := implRange k c
  have HOV : ∀ W : World, BarsAt W W.heap.size A l → Calls Try.prog 171 #[.agg #[.int .i64 p, .slice A l.length cap], .int .i64 k, .int .i64 c] W (IntsOB W (overL p l k c) (overB p l k c)) := fun W h => implOver p k c l A cap W h hn
  have hsb : sparseB p k c l = (isGB p l && rangeB k c && !overB p l k c) := rfl
  obtain ⟨_, g1, g2⟩ := BX.out
  generalize isGB p l = bg at *
  generalize rangeB k c = br at *
  generalize overB p l k c = bo at *
  generalize sparseB p k c l = bs at *
  cases bg
  · have HBS := Lib.hid (hsb.trans (by simp : _ = false))
    clear hsb hrr HOV
    go_enter Try.func148, Try.ntmps148
    go_wp2_with (go_at_call 102; refine HISG.mono ?_; rintro e w2 ⟨rfl, hb⟩; have HB := Lib.hid (below_on HA.out hb HA.out.size); clear HISG hb g1 g2)
    go_ret
    exact ⟨by rw [HBS.out]; rfl, HB.out⟩
  · cases br
    · have HBS := Lib.hid (hsb.trans (by simp : _ = false))
      clear hsb HOV
      go_enter Try.func148, Try.ntmps148
      go_wp2_with (first | (go_at_call 102; refine HISG.mono ?_; rintro e w2 ⟨rfl, hb⟩; have HB := Lib.hid (below_on HA.out hb HA.out.size); clear HISG hb g1 g2) | (go_at_call 110; refine (hrr _).mono ?_; rintro e w4 ⟨rfl, rfl⟩; clear hrr))
      go_ret
      exact ⟨by rw [HBS.out]; rfl, HB.out⟩
    · cases bo
      all_goals
        have HBS := Lib.hid hsb
        clear hsb
        go_enter Try.func148, Try.ntmps148
        go_wp2_with (first | (go_at_call 102; refine HISG.mono ?_; rintro e w2 ⟨rfl, hb⟩; have HB := Lib.hid (below_on HA.out hb HA.out.size); have HL2 := Lib.hid (HL.out.on hb); obtain ⟨_, g3, g4⟩ := BX.out.kept hb; clear HISG hb g1 g2) | (go_at_call 110; refine (hrr _).mono ?_; rintro e w4 ⟨rfl, rfl⟩; clear hrr) | (go_at_call 171; refine (HOV _ HL2.out).mono ?_; rintro e w5 ⟨AS, cs, rfl, _, hb⟩; have HB5 := Lib.hid (below_on HB.out hb HB.out.size); clear HOV hb))
        go_ret
        exact ⟨by rw [HBS.out]; rfl, HB5.out⟩
end Go.Proofs.Ytedjhnedkghhoaa
/- What IsTight answers, the specification's and the program's. No condition. -/
namespace Go.Proofs.Ytedjhnedkghhoaa
open Go.RowKit

noncomputable def tightB (p k c : Int) (l : List (Int × Int)) : Bool := sparseB p k c l && decide ((l.length : Int) = if k * p - c < 0 then 0 else k * p - c)
theorem sparse_facts {p k c : Int} {l : List (Int × Int)} (h : sparseB p k c l = true) : (1 ≤ p ∧ p ≤ 8) ∧ l.length ≤ 24 ∧ (1 ≤ k ∧ k ≤ 3 ∧ 0 ≤ c ∧ c ≤ 2 * k - 1) ∧ 0 ≤ k * p ∧ k * p ≤ 24 := by
  unfold sparseB at h
  simp only [Bool.and_eq_true] at h
  obtain ⟨⟨hg, hq⟩, _⟩ := h
  have hG : IsG p l := Classical.byContradiction fun g => by rw [isGB_no g] at hg; cases hg
  have hp := hG.1
  have hk : 1 ≤ k ∧ k ≤ 3 ∧ 0 ≤ c ∧ c ≤ 2 * k - 1 := by simpa [rangeB, and_assoc] using hq
  refine ⟨hp, hG.2.1, hk, Int.mul_nonneg (by omega) (by omega), ?_⟩
  calc k * p ≤ 3 * p := Int.mul_le_mul_of_nonneg_right (by omega) (by omega)
    _ ≤ 24 := by omega

set_option maxHeartbeats 2000000 in
set_option maxRecDepth 100000 in
theorem specTight (p k c : Int) (l : List (Int × Int)) (A : Option Addr) (cap : Nat) (w : World) (hl : BarsAt w w.heap.size A l) (hn : l.length ≤ 1048576) :
    Calls Try.prog 89 #[.agg #[.int .i64 p, .slice A l.length cap], .int .i64 k, .int .i64 c] w fun e w' => e = .returned (.bool (tightB p k c l)) ∧ Below w.heap.size w w' := by
  have hA := new_below w (.cells #[.int .i64 p, .slice A l.length cap] 30)
  have HA := Lib.hid hA
  have BX := Lib.hid (box_new w p (.slice A l.length cap) 30)
  have HSP := specSparse p k c l A cap _ (hl.on hA) hn
  clear hl hA
  have ht : tightB p k c l = (sparseB p k c l && decide ((l.length : Int) = if k * p - c < 0 then 0 else k * p - c)) := rfl
  obtain ⟨_, g1, g2⟩ := BX.out
  rcases hs : sparseB p k c l with _ | _
  · rw [hs] at HSP ht
    have HT := Lib.hid (ht.trans (by simp : _ = false))
    clear ht
    go_enter Try.func89, Try.ntmps89
    go_wp2_with (go_at_call 49; refine HSP.mono ?_; rintro e w2 ⟨rfl, hb⟩; have HB := Lib.hid (below_on HA.out hb HA.out.size); obtain ⟨_, g3, g4⟩ := BX.out.kept hb; clear HSP hb g1 g2)
    go_ret
    exact ⟨by rw [HT.out]; rfl, HB.out⟩
  · rw [hs] at HSP ht
    obtain ⟨hp, h24, hk, hkp⟩ := sparse_facts hs
    by_cases h0 : k * p - c < 0
    · rw [if_pos h0] at ht
      by_cases h1 : (l.length : Int) = 0
      all_goals
        have HT := Lib.hid (ht.trans (by simp [h1] : _ = decide ((l.length : Int) = 0)))
        rw [show decide ((l.length : Int) = 0) = _ from by first | exact decide_eq_true h1 | exact decide_eq_false h1] at HT
        clear ht
        go_enter Try.func89, Try.ntmps89
        go_wp2_with (go_at_call 49; refine HSP.mono ?_; rintro e w2 ⟨rfl, hb⟩; have HB := Lib.hid (below_on HA.out hb HA.out.size); obtain ⟨_, g3, g4⟩ := BX.out.kept hb; clear HSP hb g1 g2)
        all_goals
          go_ret
          exact ⟨by rw [HT.out]; first | rfl | exact congrArg (fun b => Ending.returned (Value.bool b)) (beq_false_of_ne (by omega)) | exact congrArg (fun b => Ending.returned (Value.bool b)) (beq_iff_eq.2 (by omega)) | (simp; omega), HB.out⟩
    · rw [if_neg h0] at ht
      by_cases h1 : (l.length : Int) = k * p - c
      all_goals
        have HT := Lib.hid (ht.trans (by simp [h1] : _ = decide ((l.length : Int) = k * p - c)))
        rw [show decide ((l.length : Int) = k * p - c) = _ from by first | exact decide_eq_true h1 | exact decide_eq_false h1] at HT
        clear ht
        go_enter Try.func89, Try.ntmps89
        go_wp2_with (go_at_call 49; refine HSP.mono ?_; rintro e w2 ⟨rfl, hb⟩; have HB := Lib.hid (below_on HA.out hb HA.out.size); obtain ⟨_, g3, g4⟩ := BX.out.kept hb; clear HSP hb g1 g2)
        all_goals
          go_ret
          exact ⟨by rw [HT.out]; first | rfl | exact congrArg (fun b => Ending.returned (Value.bool b)) (beq_false_of_ne (by omega)) | exact congrArg (fun b => Ending.returned (Value.bool b)) (beq_iff_eq.2 (by omega)) | (simp; omega), HB.out⟩

set_option maxHeartbeats 2000000 in
set_option maxRecDepth 100000 in
theorem implTight (p k c : Int) (l : List (Int × Int)) (A : Option Addr) (cap : Nat) (w : World) (hl : BarsAt w w.heap.size A l) (hn : l.length ≤ 1048576) :
    Calls Try.prog 91 #[.agg #[.int .i64 p, .slice A l.length cap], .int .i64 k, .int .i64 c] w fun e w' => e = .returned (.bool (tightB p k c l)) ∧ Below w.heap.size w w' := by
  have hA := new_below w (.cells #[.int .i64 p, .slice A l.length cap] 30)
  have HA := Lib.hid hA
  have BX := Lib.hid (box_new w p (.slice A l.length cap) 30)
  have HSP := implSparse p k c l A cap _ (hl.on hA) hn
  clear hl hA
  have ht : tightB p k c l = (sparseB p k c l && decide ((l.length : Int) = if k * p - c < 0 then 0 else k * p - c)) := rfl
  obtain ⟨_, g1, g2⟩ := BX.out
  rcases hs : sparseB p k c l with _ | _
  · rw [hs] at HSP ht
    have HT := Lib.hid (ht.trans (by simp : _ = false))
    clear ht
    go_enter Try.func91, Try.ntmps91
    go_wp2_with (go_at_call 148; refine HSP.mono ?_; rintro e w2 ⟨rfl, hb⟩; have HB := Lib.hid (below_on HA.out hb HA.out.size); obtain ⟨_, g3, g4⟩ := BX.out.kept hb; clear HSP hb g1 g2)
    go_ret
    exact ⟨by rw [HT.out]; rfl, HB.out⟩
  · rw [hs] at HSP ht
    obtain ⟨hp, h24, hk, hkp⟩ := sparse_facts hs
    by_cases h0 : k * p - c < 0
    · rw [if_pos h0] at ht
      by_cases h1 : (l.length : Int) = 0
      all_goals
        have HT := Lib.hid (ht.trans (by simp [h1] : _ = decide ((l.length : Int) = 0)))
        rw [show decide ((l.length : Int) = 0) = _ from by first | exact decide_eq_true h1 | exact decide_eq_false h1] at HT
        clear ht
        go_enter Try.func91, Try.ntmps91
        go_wp2_with (go_at_call 148; refine HSP.mono ?_; rintro e w2 ⟨rfl, hb⟩; have HB := Lib.hid (below_on HA.out hb HA.out.size); obtain ⟨_, g3, g4⟩ := BX.out.kept hb; clear HSP hb g1 g2)
        all_goals
          go_ret
          exact ⟨by rw [HT.out]; first | rfl | exact congrArg (fun b => Ending.returned (Value.bool b)) (beq_false_of_ne (by omega)) | exact congrArg (fun b => Ending.returned (Value.bool b)) (beq_iff_eq.2 (by omega)) | (simp; omega), HB.out⟩
    · rw [if_neg h0] at ht
      by_cases h1 : (l.length : Int) = k * p - c
      all_goals
        have HT := Lib.hid (ht.trans (by simp [h1] : _ = decide ((l.length : Int) = k * p - c)))
        rw [show decide ((l.length : Int) = k * p - c) = _ from by first | exact decide_eq_true h1 | exact decide_eq_false h1] at HT
        clear ht
        go_enter Try.func91, Try.ntmps91
        go_wp2_with (go_at_call 148; refine HSP.mono ?_; rintro e w2 ⟨rfl, hb⟩; have HB := Lib.hid (below_on HA.out hb HA.out.size); obtain ⟨_, g3, g4⟩ := BX.out.kept hb; clear HSP hb g1 g2)
        all_goals
          go_ret
          exact ⟨by rw [HT.out]; first | rfl | exact congrArg (fun b => Ending.returned (Value.bool b)) (beq_false_of_ne (by omega)) | exact congrArg (fun b => Ending.returned (Value.bool b)) (beq_iff_eq.2 (by omega)) | (simp; omega), HB.out⟩
end Go.Proofs.Ytedjhnedkghhoaa
/- What PackTrees answers; the empty trees while they are made; trees as rows of the call's own. No program's walk. No condition. -/
namespace Go.Proofs.Ytedjhnedkghhoaa
open Go.RowKit

noncomputable def packV (p k : Int) (l : List (Int × Int)) : Option (List (List Int)) := if tightB p k k l = true ∧ p ≤ 5 then giveI (indB p 1 1 l) k.toNat l.length l.length (List.replicate k.toNat []) else none
noncomputable def packL (p k : Int) (l : List (Int × Int)) : List (List Int) := (packV p k l).getD []
noncomputable def packB (p k : Int) (l : List (Int × Int)) : Bool := (packV p k l).isSome
theorem packV_no {p k : Int} {l : List (Int × Int)} (h : ¬ (tightB p k k l = true ∧ p ≤ 5)) : packV p k l = none := by
  unfold packV
  rw [if_neg h]
theorem packV_yes {p : Int} {K : Nat} {l : List (Int × Int)} (h : tightB p (K : Int) (K : Int) l = true ∧ p ≤ 5) : packV p (K : Int) l = giveI (indB p 1 1 l) K l.length l.length (List.replicate K []) := by
  unfold packV
  rw [if_pos h, Int.toNat_natCast]
theorem pack_none {p k : Int} {l : List (Int × Int)} (h : packV p k l = none) : packL p k l = [] ∧ packB p k l = false := by
  unfold packL packB
  rw [h]
  exact ⟨rfl, rfl⟩
theorem pack_some {p k : Int} {l : List (Int × Int)} {R : List (List Int)} (h : packV p k l = some R) : packL p k l = R ∧ packB p k l = true := by
  unfold packL packB
  rw [h]
  exact ⟨rfl, rfl⟩
theorem tight_facts {p k : Int} {l : List (Int × Int)} (h : tightB p k k l = true) : isGB p l = true ∧ (1 ≤ p ∧ p ≤ 8) ∧ l.length ≤ 24 ∧ (1 ≤ k ∧ k ≤ 3) ∧ (l.length : Int) = k * (p - 1) := by
  unfold tightB at h
  rw [Bool.and_eq_true, decide_eq_true_eq] at h
  obtain ⟨h1, h2⟩ := h
  obtain ⟨a1, a2, a3, _⟩ := sparse_facts h1
  have hg : isGB p l = true := by
    unfold sparseB at h1
    simp only [Bool.and_eq_true] at h1
    exact h1.1.1
  have h3 : k * (p - 1) = k * p - k := by rw [Int.mul_sub, Int.mul_one]
  have h4 : 0 ≤ k * (p - 1) := Int.mul_nonneg (by omega) (by omega)
  rw [if_neg (by omega)] at h2
  exact ⟨hg, a1, a2, ⟨a3.1, a3.2.1⟩, by omega⟩
theorem rep_get (K i : Nat) : (List.replicate K ([] : List Int)).getD i [] = [] := by
  simp only [List.getD, List.getElem?_replicate]
  split <;> rfl
theorem preT_rep (K : Nat) : PreT (List.replicate K []) := fun _ j _ _ _ => rep_get K j
theorem give_len {p : Int} {l : List (Int × Int)} {K : Nat} {R : List (List Int)} (h : giveI (indB p 1 1 l) K l.length l.length (List.replicate K []) = some R) : R.length = K ∧ ∀ i, i < K → (R.getD i []).length ≤ l.length := by
  obtain ⟨h1, h2⟩ := give_tot _ _ _ (List.length_replicate) h
  refine ⟨h1, fun i hi => ?_⟩
  have := h2 i hi
  rw [rep_get] at this
  simpa using this
theorem headsT_more (T : List (List Int)) (S : Nat → Option Addr × Nat) (b : Nat) : headsT (T ++ [[]]) (updS S T.length (some ⟨b, 0, none⟩, 0)) = headsT T S ++ [.slice (some ⟨b, 0, none⟩) 0 0] := by
  have h1 : (T ++ [([] : List Int)]).length = T.length + 1 := by simp
  have h2 : (T ++ [([] : List Int)]).getD T.length [] = [] := by simp [List.getD]
  have h3 : updS S T.length (some ⟨b, 0, none⟩, 0) T.length = (some ⟨b, 0, none⟩, 0) := by unfold updS; rw [if_pos rfl]
  unfold headsT
  rw [h1, List.range_succ, List.map_append, List.map_cons, List.map_nil, h2, h3]
  refine congrArg (· ++ _) (List.map_congr_left fun i hi => ?_)
  have hi' : i < T.length := List.mem_range.1 hi
  have h4 : updS S T.length (some ⟨b, 0, none⟩, 0) i = S i := by unfold updS; rw [if_neg (by omega)]
  have h5 : (T ++ [([] : List Int)]).getD i [] = T.getD i [] := by simp [List.getD, List.getElem?_append_left hi']
  rw [h4, h5]
/-- One empty tree more. -/
theorem TrW.more {W W1 W2 : World} {B g cp : Nat} {T : List (List Int)} {S : Nat → Option Addr × Nat} (h : TrW W B g cp T S) (hB : B ≤ g) (b1 : Below W.heap.size W W1) {b : Nat} (hb : W.heap.size ≤ b) (hbl : b < W1.heap.size) (he : W1.ownsRow 0 3 1 (.slice (some ⟨b, 0, none⟩) 0 0) 0 [])
    {A' : Option Addr} {c' lo' hi' : Nat} (ho : OwnS W2 lo' hi' A' c' (headsT T S ++ [.slice (some ⟨b, 0, none⟩) 0 0])) (hd : (lo' = g ∧ hi' = g + 1) ∨ W1.heap.size ≤ lo') (hw : Within g (g + 1) W1 W2) :
    ∃ g', A' = some ⟨g', 0, none⟩ ∧ B ≤ g' ∧ TrW W2 B g' c' (T ++ [[]]) (updS S T.length (some ⟨b, 0, none⟩, 0)) := by
  have hg := h.lt
  have hs1 := b1.size
  have hs2 := hw.size
  rcases ho.2 with ⟨_, _, e⟩ | ⟨g', e, q1, q2, q3⟩
  · exact absurd e (by simp)
  · have hgb : g' = g ∨ W1.heap.size ≤ g' := by omega
    have hl : (T ++ [([] : List Int)]).length = T.length + 1 := by simp
    have hlh : (headsT T S ++ [Value.slice (some ⟨b, 0, none⟩) 0 0]).length = T.length + 1 := by simp [headsT_len]
    refine ⟨g', e, by omega, ?_, ?_, ?_⟩
    · have q4 := own_rebase q3 (Nat.zero_le _)
      rw [hlh] at q4
      rw [headsT_more, hl]
      exact q4
    · intro i hi
      rw [hl] at hi
      by_cases c : i = T.length
      · subst c
        have h2 : (T ++ [([] : List Int)]).getD T.length [] = [] := by simp [List.getD]
        have h3 : updS S T.length (some ⟨b, 0, none⟩, 0) T.length = (some ⟨b, 0, none⟩, 0) := by unfold updS; rw [if_pos rfl]
        rw [h2, h3]
        exact .inr ⟨b, rfl, by omega, by omega, by omega, own_block he (hw.block b hbl (by omega))⟩
      · have hi' : i < T.length := by omega
        have h4 : updS S T.length (some ⟨b, 0, none⟩, 0) i = S i := by unfold updS; rw [if_neg c]
        have h5 : (T ++ [([] : List Int)]).getD i [] = T.getD i [] := by simp [List.getD, List.getElem?_append_left hi']
        rw [h4, h5]
        have ho1 := h.each i hi'
        rcases ho1 with ho1 | ⟨b2, e2, r1, r2, r3, r4⟩
        · exact .inl ho1
        · refine .inr ⟨b2, e2, r1, by omega, by omega, own_block r4 ((hw.block b2 (by omega) (by omega)).trans (b1.block b2 r3))⟩
    · intro i j hi hj hij a
      rw [hl] at hi hj
      unfold updS
      have hold : ∀ x, x < T.length → (S x).1 ≠ some ⟨b, 0, none⟩ := fun x hx e => by
        obtain ⟨b2, r1, _, _, r4⟩ := (h.each x hx).at e
        injection r1 with r1
        omega
      by_cases c : i = T.length
      · rw [if_pos c, if_neg (by omega)]
        intro e1
        injection e1 with e1
        subst e1
        exact hold j (by omega)
      · rw [if_neg c]
        by_cases c2 : j = T.length
        · rw [if_pos c2]
          intro e1 e2
          injection e2 with e2
          subst e2
          exact hold i (by omega) e1
        · rw [if_neg c2]
          exact h.dis i j (by omega) (by omega) hij a
/-- No tree yet: an empty block. -/
theorem TrW.zero (W : World) : TrW (W.alloc (.cells #[] 25)) W.heap.size W.heap.size 0 [] (fun _ => (none, 0)) :=
  ⟨World.ownsRow_made (base := 0) (e := 25) (size := 1) W #[] 0 (Nat.zero_le _) (by unfold maxLen; omega) (by simp), fun _ h => absurd h (by simp), fun _ _ h => absurd h (by simp)⟩
theorem TrW.ownS {W : World} {B g cp : Nat} {T : List (List Int)} {S : Nat → Option Addr × Nat} (h : TrW W B g cp T S) : OwnS W g (g + 1) (some ⟨g, 0, none⟩) cp (headsT T S) :=
  ⟨h.lt, .inr ⟨g, rfl, Nat.le_refl _, Nat.lt_succ_self _, by have q := own_rebase h.row (Nat.le_refl g); rw [headsT_len]; exact q⟩⟩
/-- Trees as rows of the call's own. -/
theorem TrW.own {W : World} {B g cp : Nat} {T : List (List Int)} {S : Nat → Option Addr × Nat} (h : TrW W B g cp T S) (hB : B ≤ g) : RowsOwn W B W.heap.size (some ⟨g, 0, none⟩) T := by
  refine ⟨Nat.le_refl _, fun _ => ⟨g, fun k => match (S k).1 with | some a => (a.block, a.block + 1) | none => (B, B), S, rfl, hB, h.lt, fun j k hjk hk => ?_, fun k hk => ?_⟩⟩
  · dsimp only
    cases e1 : (S j).1 with
    | none =>
      cases e2 : (S k).1 with
      | none => exact .inl (Nat.le_refl _)
      | some a =>
        obtain ⟨b, rfl, q1, _⟩ := (h.each k hk).at e2
        exact .inl q1
    | some a =>
      obtain ⟨b, rfl, q1, _⟩ := (h.each j (by omega)).at e1
      cases e2 : (S k).1 with
      | none => exact .inr q1
      | some a2 =>
        obtain ⟨b2, rfl, r1, _⟩ := (h.each k hk).at e2
        have hne : b ≠ b2 := fun e => h.dis j k (by omega) hk (by omega) _ e1 (by rw [e2, e])
        unfold Dis
        dsimp only
        omega
  · have hc := h.cell k hk
    rcases h.each k hk with ⟨e1, e2, e3⟩ | ⟨b, e1, q1, q2, q3, q4⟩
    · dsimp only
      rw [e1]
      refine ⟨by rw [← e1]; exact hc, ⟨by have := h.lt; dsimp only; omega, .inl e3⟩, Nat.le_refl _, by have := h.lt; dsimp only; omega, .inr hB⟩
    · dsimp only
      rw [e1]
      refine ⟨by rw [← e1]; exact hc, ⟨q3, .inr ⟨b, rfl, Nat.le_refl _, Nat.lt_succ_self _, own_rebase q4 (Nat.le_refl _)⟩⟩, q1, q3, ?_⟩
      dsimp only
      omega
/-- An append onto a tree of the call's own and the store of its header. -/
theorem TrW.pushed {W WA W1 : World} {B g cp : Nat} {T : List (List Int)} {S : Nat → Option Addr × Nat} (h : TrW W B g cp T S) (hB : B ≤ W.heap.size) {i : Nat} (hi : i < T.length) {bar : Int} (b : Below W.heap.size W WA) {zs : List Int} {n : Nat} {AI A' : Option Addr} {CI c' : Nat} (hz : T.getD i [] = zs) (hn : zs.length = n) (hA : (S i).1 = AI) (hC : (S i).2 = CI)
    (ho : W1.ownsRow 0 3 1 (.slice A' (n + 1) c') (n + 1) (intCells zs ++ [.int .i64 bar])) (hd : (∃ g0, AI = some ⟨g0, 0, none⟩ ∧ A' = AI ∧ c' = CI ∧ WA.grownBy W1 (some g0)) ∨ (A' = some ⟨WA.heap.size, 0, none⟩ ∧ WA.grownBy W1 none)) :
    (W1.cell? ⟨g, i, none⟩ = some (.slice AI n CI) ∧ W1.frozen? ⟨g, i, none⟩ = false) ∧ TrW (W1.setCell ⟨g, i, none⟩ (.slice A' (n + 1) c')) B g cp (putT T i bar) (updS S i (A', c')) ∧ NewH W S i (A', c') ∧ OldH W (W1.setCell ⟨g, i, none⟩ (.slice A' (n + 1) c')) S i (A', c') ∧ FrW W (W1.setCell ⟨g, i, none⟩ (.slice A' (n + 1) c')) g T.length S := by
  subst hz hn hA hC
  have hs := b.size
  have hlt := h.lt
  obtain ⟨row, hg, hgne⟩ : ∃ row, WA.grownBy W1 row ∧ some g ≠ row := by
    rcases hd with ⟨g0, e, _, _, hg⟩ | ⟨_, hg⟩
    · refine ⟨_, hg, fun e2 => ?_⟩
      obtain ⟨b2, r1, _, r3, _⟩ := (h.each i hi).at e
      injection r1 with r1
      injection e2 with e2
      exact r3 (by rw [← r1, e2])
    · exact ⟨_, hg, fun e => by cases e⟩
  have gst : W1.heap[g]? = W.heap[g]? := (hg.block g (by omega) hgne).trans (b.block g hlt)
  refine ⟨⟨(World.cell?_of_block (a := ⟨g, i, none⟩) gst).trans (h.cell i hi), (own_block h.row gst).frozenAt i⟩, ?_⟩
  refine h.push hB hi ho ?_ (Nat.le_trans hs hg.size) (hg.os.trans b.os) (hg.tape.trans b.tape) (hg.output.trans b.output)
  rcases hd with ⟨g0, e, e2, e3, hg⟩ | ⟨e, hg⟩
  · exact .inl ⟨g0, e, e2, e3, fun k hk hne => (hg.block k (by omega) (fun e => by injection e with e; exact hne e)).trans (b.block k hk)⟩
  · exact .inr ⟨_, e, hs, fun k hk => (hg.block k (by omega) (fun e => by cases e)).trans (b.block k hk)⟩
theorem TrW.low {W : World} {B B' g cp : Nat} {T : List (List Int)} {S : Nat → Option Addr × Nat} (h : TrW W B g cp T S) (hB : B' ≤ B) : TrW W B' g cp T S :=
  ⟨h.row, fun i hi => by
    rcases h.each i hi with q | ⟨b, e, q1, q2⟩
    · exact .inl q
    · exact .inr ⟨b, e, by omega, q2⟩, h.dis⟩
theorem FrW.stand {V W W' : World} {B g cp n : Nat} {T : List (List Int)} {S : Nat → Option Addr × Nat} (h : FrW W W' g n S) (ht : TrW V B g cp T S) (hn : T.length = n) {b : Nat} (hb : b < W.heap.size) (hbB : b < B) (hne : b ≠ g) : W'.heap[b]? = W.heap[b]? :=
  h.block b hb hne fun i hi e => by
    obtain ⟨b2, q1, q2, _, _⟩ := (ht.each i (by omega)).at e
    injection q1 with q1
    omega
theorem step_pushT (w : World) {ops : Array Oper} {o : Oper} {a : Act} {K : Act → World → Prop} {Q : Exit → Act → World → Prop} {E : Prop} (hgd : o.guard = none) (s x : Operand)
    (ho : o.op = .call { callee := .builtin .append, args := #[s, x], argTypes := #[25, 25] }) (A : Option Addr) (c n : Nat) (xs : List Value) (u : Value) (hs : a.eval s = .slice A n c) (hu : u.oneCell' = true) (hown : w.ownsRow 0 3 1 (.slice A n c) n xs)
    (ad : Addr) (cc : Nat) (hx : a.eval x = .slice (some ad) 1 cc) (hnews : w.cell? (ad.add 0) = some u) (hn : n ≤ 1048576)
    (hK : ∀ A' c' w', w'.ownsRow 0 3 1 (.slice A' (n + 1) c') (n + 1) (xs ++ [u]) → ((∃ g, A = some ⟨g, 0, none⟩ ∧ A' = A ∧ c' = c ∧ w.grownBy w' (some g)) ∨ (A' = some ⟨w.heap.size, 0, none⟩ ∧ w.grownBy w' none)) → K (a.put o.dst (.slice A' (n + 1) c')) w') : if Region.wanted o (yielded ops a.tmps) = true then Oper.wp Try.prog o a w K Q else E := by
  have hw : Region.wanted o (yielded ops a.tmps) = true := by simp [Region.wanted, hgd]
  rw [if_pos hw]
  obtain ⟨A', c', w', hr, h2, h3⟩ := run_pushT w o.type A c n xs u hu hown ad cc hnews hn
  unfold Oper.wp execOp
  simp only [ho, resolve, invoke, builtin, Sem.run_bind, Sem.run_pure, Result.andThen_ok, List.map_toArray, List.map_cons, List.map_nil, hs, hx, hr]
  exact hK A' c' w' h2 h3
/-- The program's search: the graph's box, the boxes of the trees and of the search itself, the bars. -/
structure GiW (p : Int) (l : List (Int × Int)) (A : Option Addr) (cap gb tb fb g B0 k cp : Nat) (W : World) : Prop where
  bx : Box W gb p (.slice A l.length cap)
  tx : W.cell? ⟨tb, 0, none⟩ = some (.slice (some ⟨g, 0, none⟩) k cp)
  fx : W.cell? ⟨fb, 0, none⟩ = some (.func (.func 92) #[] #[.pointer (some ⟨gb, 0, none⟩), .pointer (some ⟨tb, 0, none⟩), .pointer (some ⟨fb, 0, none⟩)])
  bars : BarsIn W 0 B0 A l
  lt : tb < W.heap.size ∧ fb < W.heap.size
theorem GiW.keep {p : Int} {l : List (Int × Int)} {A : Option Addr} {cap gb tb fb g B0 k cp B : Nat} {W W' : World} (h : GiW p l A cap gb tb fb g B0 k cp W) (hf : ∀ b, b < W.heap.size → b < B → b ≠ g → W'.heap[b]? = W.heap[b]?) (hs : W.heap.size ≤ W'.heap.size) (hos : W'.os = W.os) (htp : W'.tape = W.tape) (hou : W'.output = W.output)
    (h1 : gb < B ∧ gb ≠ g) (h2 : tb < B ∧ tb ≠ g) (h3 : fb < B ∧ fb ≠ g) (h4 : B0 ≤ B ∧ B0 ≤ g) : GiW p l A cap gb tb fb g B0 k cp W' := by
  have hb := h.bx.1
  have k1 := hf gb hb h1.1 h1.2
  exact ⟨⟨by omega, (World.cell?_of_block (a := ⟨gb, 0, none⟩) k1).trans h.bx.2.1, (World.cell?_of_block (a := ⟨gb, 1, none⟩) k1).trans h.bx.2.2⟩, (World.cell?_of_block (a := ⟨tb, 0, none⟩) (hf tb h.lt.1 h2.1 h2.2)).trans h.tx, (World.cell?_of_block (a := ⟨fb, 0, none⟩) (hf fb h.lt.2 h3.1 h3.2)).trans h.fx,
    h.bars.within (lo' := B0) (hi' := W.heap.size) ⟨hos, htp, hou, hs, fun b hb hd => hf b hb (by omega) (by omega)⟩ (.inl (Nat.le_refl _)), by have := h.lt; omega⟩
theorem GiW.below {p : Int} {l : List (Int × Int)} {A : Option Addr} {cap gb tb fb g B0 k cp : Nat} {W W' : World} (h : GiW p l A cap gb tb fb g B0 k cp W) (hb : Below W.heap.size W W') : GiW p l A cap gb tb fb g B0 k cp W' :=
  ⟨h.bx.kept hb, (hb.cell (p := ⟨tb, 0, none⟩) h.lt.1).trans h.tx, (hb.cell (p := ⟨fb, 0, none⟩) h.lt.2).trans h.fx, h.bars.within (within_of hb) (.inr (Nat.zero_le _)), by have := h.lt; have := hb.size; omega⟩
/-- What the specification answers: rows and a Boolean. -/
def RowsB (w : World) (rs : List (List Int)) (b : Bool) (e : Ending) (w' : World) : Prop :=
  ∃ A c, e = .returned (.tuple #[.slice A rs.length c, .bool b]) ∧ RowsIn w' w.heap.size w'.heap.size A rs ∧ Below w.heap.size w w'
/-- What the program answers: rows of its own and a Boolean. -/
def RowsBO (w : World) (rs : List (List Int)) (b : Bool) (e : Ending) (w' : World) : Prop :=
  ∃ A c, e = .returned (.tuple #[.slice A rs.length c, .bool b]) ∧ RowsOwn w' w.heap.size w'.heap.size A rs ∧ Below w.heap.size w w'
theorem RowsOwn.lower {W : World} {lo lo' hi : Nat} {A : Option Addr} {rs : List (List Int)} (h : RowsOwn W lo hi A rs) (hl : lo' ≤ lo) : RowsOwn W lo' hi A rs :=
  ⟨h.1, fun hp => by
    obtain ⟨g, r, S, e, h1, h2, hd, hc⟩ := h.2 hp
    refine ⟨g, r, S, e, by omega, h2, hd, fun k hk => ?_⟩
    obtain ⟨c1, c2, c3, c4, c5⟩ := hc k hk
    exact ⟨c1, c2, by omega, c4, c5⟩⟩
theorem wpList_pushSN (w : World) {ops : Array Oper} {rest : List Oper} {o : Oper} {a : Act} {Q : Exit → Act → World → Prop} (hgd : o.guard = none) (s x : Operand)
    (ho : o.op = .call { callee := .builtin .append, args := #[s, x], argTypes := #[36, 36] }) (lo hi : Nat) (A : Option Addr) (n cap : Nat) (zs : List Value) (y : Value) (hl : zs.length = n) (hy : y.oneCell' = true) (hs : a.eval s = .slice A n cap) (hr : OwnS w lo hi A cap zs)
    (tb : TypeId) (b : Nat) (hb : w.heap.size = b) (hx : a.eval x = .slice (some ⟨b, 0, none⟩) 1 1) (hn : n ≤ 1048576) (hlo : lo ≤ w.heap.size)
    (h : ∀ A' c' w' lo' hi', OwnS w' lo' hi' A' c' (zs ++ [y]) → ((lo' = lo ∧ hi' = hi) ∨ w.heap.size ≤ lo') → Within lo hi w w' → wpList Try.prog ops Q rest (a.put o.dst (.slice A' (n + 1) c')) w') : wpList Try.prog ops Q (o :: rest) a (w.alloc (.cells #[y] tb)) := by
  subst hl hb
  exact wpList_pushS w hgd s x ho lo hi A cap zs y hy hs hr tb hx hn hlo fun A' c' w' lo' hi' h1 h2 h3 => h A' c' w' lo' hi' h1 (h2.imp id (·.1)) h3
end Go.Proofs.Ytedjhnedkghhoaa
/- What spec.l8Put answers. No condition. -/
namespace Go.Proofs.Ytedjhnedkghhoaa
open Go.RowKit

theorem wpList_copyR {w : World} {ops : Array Oper} {rest : List Oper} {o : Oper} {a : Act} {Q : Exit → Act → World → Prop} (hgd : o.guard = none) (s x : Operand) (ho : o.op = .call { callee := .builtin .append, args := #[s, x], argTypes := #[25, 25] })
    (g l h : Nat) (A : Option Addr) (zs : List Int) (n cap lo hi : Nat) (hl : zs.length = n) (hs : a.eval s = .slice (some ⟨g, 0, none⟩) 0 0) (hx : a.eval x = .slice A n cap) (hg : OwnR w l h (some ⟨g, 0, none⟩) 0 []) (hz : IntsIn w lo hi A zs) (hn : zs.length ≤ 1048576) (B : Nat) (hB : B ≤ l) (hB2 : B ≤ w.heap.size)
    (hK : ∀ A' c' w' (r : Nat × Nat), OwnR w' r.1 r.2 A' c' zs → B ≤ r.1 → r.1 ≤ w'.heap.size → Below w.heap.size w w' → wpList Try.prog ops Q rest (a.put o.dst (.slice A' n c')) w') : wpList Try.prog ops Q (o :: rest) a w := by
  subst hl
  refine wpList_plain hgd fun K hK' => ?_
  obtain ⟨A', c', w', r, hr, h2, h3, h4⟩ := run_copyR w o.type g l h A zs cap lo hi hg hz hn
  unfold Oper.wp execOp
  simp only [ho, resolve, invoke, builtin, Sem.run_bind, Sem.run_pure, Result.andThen_ok, List.map_toArray, List.map_cons, List.map_nil, hs, hx, hr]
  obtain ⟨q, q1, q2, q3⟩ := h2.norm
  refine hK' _ _ (hK A' c' w' q q1 ?_ q2 h4)
  have hs4 := h4.size
  rcases q3 with rfl | rfl
  · rcases h3 with rfl | h3
    · exact hB
    · omega
  · dsimp only
    omega
theorem wpList_pushN (w : World) {ops : Array Oper} {rest : List Oper} {o : Oper} {a : Act} {Q : Exit → Act → World → Prop} (hgd : o.guard = none) (s x : Operand)
    (ho : o.op = .call { callee := .builtin .append, args := #[s, x], argTypes := #[25, 25] }) (lo hi : Nat) (A : Option Addr) (n cap : Nat) (zs : List Int) (y : Int) (hl : zs.length = n) (hs : a.eval s = .slice A n cap) (hr : OwnR w lo hi A cap zs)
    (tb : TypeId) (hx : a.eval x = .slice (some ⟨w.heap.size, 0, none⟩) 1 1) (hn : n ≤ 1048576) (hlo : lo ≤ w.heap.size)
    (h : ∀ A' c' w' lo' hi', OwnR w' lo' hi' A' c' (zs ++ [y]) → ((lo' = lo ∧ hi' = hi) ∨ w.heap.size ≤ lo') → Within lo hi w w' → wpList Try.prog ops Q rest (a.put o.dst (.slice A' (n + 1) c')) w') : wpList Try.prog ops Q (o :: rest) a (w.alloc (.cells #[.int .i64 y] tb)) := by
  subst hl
  exact wpList_pushR w hgd s x ho lo hi A cap zs y hs hr tb hx hn hlo fun A' c' w' lo' hi' h1 h2 h3 => h A' c' w' lo' hi' h1 (h2.imp id (·.1)) h3
/-- A copy of a tree with one bar more, in a block of its own: what the store of its header makes of the trees. -/
theorem TrW.copied {W W1 W3 : World} {B g cp : Nat} {T : List (List Int)} {S : Nat → Option Addr × Nat} (h : TrW W B g cp T S) (hB : B ≤ W.heap.size) {i : Nat} (hi : i < T.length) {bar : Int} {A' : Option Addr} {c' lo hi' : Nat} {r : Nat × Nat}
    (b1 : Below W.heap.size W W1) (hr : W.heap.size ≤ r.1) (h2 : OwnR W3 lo hi' A' c' (T.getD i [] ++ [bar])) (hd : (lo = r.1 ∧ hi' = r.2) ∨ W1.heap.size ≤ lo) (b3 : Within r.1 r.2 W1 W3) {n c2 : Nat} (hn : (T.getD i []).length + 1 = n) (hc : c' = c2) :
    TrW (W3.setCell ⟨g, i, none⟩ (.slice A' n c2)) B g cp (putT T i bar) (updS S i (A', c')) ∧ NewH W S i (A', c') ∧ OldH W (W3.setCell ⟨g, i, none⟩ (.slice A' n c2)) S i (A', c') ∧ FrW W (W3.setCell ⟨g, i, none⟩ (.slice A' n c2)) g T.length S := by
  subst hn hc
  have hb : Below W.heap.size W W3 := by
    have q := b1
    exact ⟨b3.os.trans q.os, b3.tape.trans q.tape, b3.output.trans q.output, Nat.le_trans q.size b3.size, fun k hk => (b3.block k (Nat.lt_of_lt_of_le hk q.size) (.inl (by omega))).trans (q.block k hk)⟩
  have hs1 := b1.size
  obtain ⟨H, e1, e2, e3, e4⟩ : ∃ H, A' = some ⟨H, 0, none⟩ ∧ W.heap.size ≤ H ∧ H < W3.heap.size ∧ W3.ownsRow 0 3 1 (.slice (some ⟨H, 0, none⟩) (T.getD i [] ++ [bar]).length c') (T.getD i [] ++ [bar]).length (intCells (T.getD i [] ++ [bar])) := by
    rcases h2.2 with ⟨_, _, e⟩ | ⟨H, e1, q1, q2, q3⟩
    · exact absurd e (by simp)
    · exact ⟨H, e1, by omega, (q3.lt H rfl).2, own_rebase q3 (Nat.zero_le _)⟩
  subst e1
  rw [show intCells (T.getD i [] ++ [bar]) = intCells (T.getD i []) ++ [.int .i64 bar] by simp [intCells], List.length_append, List.length_cons, List.length_nil] at e4
  exact h.push hB hi e4 (.inr ⟨H, rfl, e2, hb.block⟩) hb.size hb.os hb.tape hb.output

set_option maxHeartbeats 8000000 in
set_option maxRecDepth 100000 in
theorem l8Put_c (p : Int) (l : List (Int × Int)) (A : Option Addr) (cap k cp g B : Nat) (hn : l.length ≤ 1048576) (hk : k ≤ 1048576) (hBg : B ≤ g) : ∀ (r : Nat), r ≤ l.length → ∀ (bar : Int) (T : List (List Int)) (S : Nat → Option Addr × Nat) (w : World), bar = ((l.length - r : Nat) : Int) → T.length = k → PreT T → (∀ i, i < k → (T.getD i []).length + r ≤ 1048576) → BarsIn w 0 B A l → TrW w B g cp T S →
    Calls Try.prog 90 #[.agg #[.int .i64 p, .slice A l.length cap], .int .i64 (k : Int), .int .i64 bar, .slice (some ⟨g, 0, none⟩) k cp] w (PutP w B g cp k T S (giveI (indB p 1 1 l) k l.length r T)) := by
  intro r
  induction r with
  | zero =>
    intro _ bar T S w hbar hTk hpre hlen hbars htr
    have hbe : bar = (l.length : Int) := by rw [hbar]; simp
    have HBE := Lib.hid (show (bar == (l.length : Int)) = true by simp [hbe])
    clear hbar
    have HTK := Lib.hid hTk
    have HPRE := Lib.hid hpre
    have HLEN := Lib.hid hlen
    have HTR := Lib.hid htr
    have HB0 := Lib.hid hbars
    have hsz := new_below w (.cells #[.int .i64 p, (.slice A l.length cap)] 30)
    have HTR1 := Lib.hid (htr.new hsz)
    have HNB := Lib.hid hsz
    have HB1 := Lib.hid (hbars.within (within_of hsz) (.inr (Nat.zero_le _)))
    have Y1 := Lib.hid (show (w.alloc (.cells #[.int .i64 p, (.slice A l.length cap)] 30)).heap.size = w.heap.size + 1 by simp)
    have hnew := box_new w p (.slice A l.length cap) 30
    have BX1 := Lib.hid hnew
    have HGL := Lib.hid htr.lt
    clear hTk hpre hlen htr hbars hsz hnew
    go_enter Try.func90, Try.ntmps90
    obtain ⟨g0, g1, g2⟩ := BX1.out
    rw [hbe]
    clear hbe HBE
    go_wp2_with fail
    clear g0 g1 g2
    go_ret
    exact ⟨(FrW.refl _ _ _ _).below HNB.out, .inl ⟨T, S, rfl, rfl, HTR1.out⟩⟩
  | succ r ih =>
    intro hr bar T S w hbar hTk hpre hlen hbars htr
    have HIH := Lib.hid (ih (by omega))
    clear ih
    have hlt : bar < (l.length : Int) := by rw [hbar]; omega
    have hb0 : 0 ≤ bar := by rw [hbar]; omega
    have hbe : (bar == (l.length : Int)) = false := by simp; omega
    have hwb : IntKind.i64.wrap (bar + 1) = bar + 1 := IntWalk.i64_in _ (by omega)
    have HBAR := Lib.hid hbar
    have HNX := Lib.hid (show bar + 1 = ((l.length - r : Nat) : Int) by rw [hbar]; omega)
    clear hbar
    have HTK := Lib.hid hTk
    have HPRE := Lib.hid hpre
    have HLEN := Lib.hid hlen
    have HTR := Lib.hid htr
    have HB0 := Lib.hid hbars
    have hsz := new_below w (.cells #[.int .i64 p, (.slice A l.length cap)] 30)
    have HTR1 := Lib.hid (htr.new hsz)
    have HNB := Lib.hid hsz
    have HB1 := Lib.hid (hbars.within (within_of hsz) (.inr (Nat.zero_le _)))
    have Y1 := Lib.hid (show (w.alloc (.cells #[.int .i64 p, (.slice A l.length cap)] 30)).heap.size = w.heap.size + 1 by simp)
    have hnew := box_new w p (.slice A l.length cap) 30
    have BX1 := Lib.hid hnew
    have HGL := Lib.hid htr.lt
    clear hTk hpre hlen htr hbars hsz hnew
    go_enter Try.func90, Try.ntmps90
    obtain ⟨g0, g1, g2⟩ := BX1.out
    go_wp2_with fail
    clear g0 g1 g2
    generalize (w.alloc (.cells #[.int .i64 p, (.slice A l.length cap)] 30)) = w1 at *
    go_loopw [9] (fun i wr => ∃ j : Nat, j ≤ k ∧ i = .int .i64 j ∧ FrW w1 wr g k S ∧ TrW wr B g cp T S ∧ ∀ x, x < j → tryI (indB p 1 1 l) k l.length r T x = none ∧ T.getD x [] ≠ []) (fun i _ => k - (intOf i).toNat)
    case atStart => exact ⟨0, Nat.zero_le _, rfl, FrW.refl _ _ _ _, HTR1.out, fun x hx => absurd hx (by omega)⟩
    case round =>
      obtain ⟨j, hj, rfl, hfr, htr, htry⟩ := hrel
      have HFR := Lib.hid hfr
      have HT := Lib.hid htr
      have HTRY := Lib.hid htry
      clear hfr htr htry
      by_cases hlt2 : j < k
      · have hji : (j : Int) < (k : Int) := by omega
        have hjT : j < T.length := by rw [HTK.out]; exact hlt2
        have HJT := Lib.hid hjT
        have HWI := Lib.hid (HFR.out.within HTR.out HTK.out hBg)
        have HBX := Lib.hid (BX1.out.within HWI.out (.inr (Nat.le_refl _)))
        have HBR := Lib.hid (HB1.out.within HWI.out (.inl (Nat.le_refl _)))
        have hcell := HT.out.cell j hjT
        have hiz := HT.out.ints hjT
        obtain ⟨AI, hAI⟩ : ∃ x, (S j).1 = x := ⟨_, rfl⟩
        obtain ⟨CI, hCI⟩ : ∃ x, (S j).2 = x := ⟨_, rfl⟩
        obtain ⟨zs, hzs⟩ : ∃ x, T.getD j [] = x := ⟨_, rfl⟩
        obtain ⟨n, hnn⟩ : ∃ x, zs.length = x := ⟨_, rfl⟩
        have hn1 : n + 1 ≤ 1048576 := by have := HLEN.out j hlt2; rw [hzs, hnn] at this; omega
        rw [hAI, hzs] at hiz
        rw [hAI, hCI, hzs, hnn] at hcell
        have HAI := Lib.hid hAI
        have HCI := Lib.hid hCI
        have HZS := Lib.hid hzs
        have HNN := Lib.hid hnn
        have HIZ := Lib.hid hiz
        have HCL := Lib.hid hcell
        clear hAI hCI hzs hnn hiz
        have hnb := new_below wr (.cells #[] 3)
        have HNB2 := Lib.hid hnb
        have HIZ2 := Lib.hid (HIZ.out.within (within_of hnb) (.inr (Nat.zero_le _)))
        have HOE := Lib.hid (ownR_empty wr)
        have HSZ := Lib.hid (show (wr.alloc (.cells #[] 3)).heap.size = wr.heap.size + 1 by simp)
        clear hnb
        go_wp2_with (at_builtin; first | (refine wpList_copyR rfl _ _ rfl wr.heap.size _ _ AI zs n CI _ _ HNN.out rfl rfl HOE.out HIZ2.out (by rw [HNN.out]; omega) wr.heap.size (Nat.le_refl _) (by rw [HSZ.out]; omega) ?_; intro A1 c1 wa rr ho hrr hrz hb; have HO1 := Lib.hid ho; have HRR := Lib.hid hrr; have HBA := Lib.hid hb; have HRZ := Lib.hid hrz; clear ho hrr hrz hb) | (refine wpList_pushN wa rfl _ _ rfl rr.1 rr.2 A1 n c1 zs bar HNN.out rfl HO1.out 3 rfl (by omega) HRZ.out ?_; intro A2 c2 wb lo2 hi2 ho hd hw; have HO2 := Lib.hid ho; have HD2 := Lib.hid hd; have HW2 := Lib.hid hw; have HBW := Lib.hid (within_on (below_on HNB2.out HBA.out HNB2.out.size) hw (below_on HNB2.out HBA.out HNB2.out.size).size (.inl HRR.out)); clear ho hd hw; have hfz := (HT.out.new HBW.out).row.frozenAt j; have hcb : wb.cell? ⟨g, j, none⟩ = some (.slice AI n CI) := (by have q := (HT.out.new HBW.out).cell j HJT.out; rw [HAI.out, HCI.out, HZS.out, HNN.out] at q; exact q)))
        clear hfz hcell hcb
        have htw := TrW.copied HT.out (by have := HT.out.lt; omega) hjT (bar := bar) (A' := A2) (c' := c2) (lo := lo2) (hi' := hi2) (r := rr) (n := n + 1) (c2 := c2) (below_on HNB2.out HBA.out HNB2.out.size) HRR.out (by rw [HZS.out]; exact HO2.out) HD2.out HW2.out (by rw [HZS.out, HNN.out]) rfl
        generalize (wb.setCell ⟨g, j, none⟩ (.slice A2 (n + 1) c2)) = wd at *
        have HTW := Lib.hid htw.1
        have HNH := Lib.hid htw.2.1
        have HOH := Lib.hid htw.2.2.1
        have HFW := Lib.hid (HTK.out ▸ htw.2.2.2)
        clear htw
        have hBXd := HBX.out.within (HFW.out.within HTR.out HTK.out hBg) (.inr (Nat.le_refl _))
        have HBXD := Lib.hid hBXd
        clear hBXd
        have HBRD := Lib.hid (HBR.out.within (HFW.out.within HTR.out HTK.out hBg) (.inl (Nat.le_refl _)))
        have hcd := HTW.out.pcell hjT (n := n) (by rw [HZS.out]; exact HNN.out)
        have HCD := Lib.hid hcd
        clear hcd
        have HPI := Lib.hid (HTW.out.pints hjT HZS.out)
        have HL2 := Lib.hid (show (zs ++ [bar]).length = n + 1 by simp [HNN.out])
        have HFO := Lib.hid (show tryI (indB p 1 1 l) k l.length r T j = if (indB p 1 1 l) (zs ++ [bar]) = true then giveI (indB p 1 1 l) k l.length r (putT T j bar) else none by unfold tryI; rw [HZS.out, HBAR.out])
        have HGA := Lib.hid (fun (R : List (List Int)) (h1 : (indB p 1 1 l) (zs ++ [bar]) = true) (h2 : giveI (indB p 1 1 l) k l.length r (putT T j bar) = some R) => give_at (fo := (indB p 1 1 l)) (k := k) (n := l.length) (r := r) (T := T) (i := j) hlt2 (fun x hx => (HTRY.out x hx).1) (by rw [HZS.out, ← HBAR.out]; exact h1) (R := R) (by rw [← HBAR.out]; exact h2))
        obtain ⟨b, hb⟩ : ∃ b, (indB p 1 1 l) (zs ++ [bar]) = b := ⟨_, rfl⟩
        have HSE := Lib.hid (fun (W : World) (h : Below wd.heap.size wd W) => show Calls Try.prog 12 #[.agg #[.int .i64 p, .slice A l.length cap], .slice A2 (n + 1) c2] W fun e w' => e = .returned (.bool b) ∧ Below W.heap.size W w' from by have q := specFor p l (zs ++ [bar]) A A2 cap c2 0 wd.heap.size W ((HBRD.out.within (within_of h) (.inr (Nat.zero_le _))).at) (HPI.out.within (within_of h) (.inr (Nat.zero_le _))) hn (by rw [HL2.out]; exact hn1); rw [HL2.out, hb] at q; exact q)
        have HIHW := Lib.hid (fun (W : World) (h : Below wd.heap.size wd W) => HIH.out (bar + 1) (putT T j bar) (updS S j (A2, c2)) W HNX.out (by rw [putT_len]; exact HTK.out) (preT_put HPRE.out fun x hx => (HTRY.out x hx).2) (fun i hi => by rw [putT_get (by rw [HTK.out]; exact hi)]; have q := HLEN.out i hi; split; (rename_i e; subst e; rw [HZS.out] at q ⊢; rw [HL2.out]; rw [HNN.out] at q; omega); omega) (HBRD.out.within (within_of h) (.inr (Nat.zero_le _))) (HTW.out.new h))
        rw [hb] at HFO HGA
        clear hb
        obtain ⟨go, hgo⟩ : ∃ x, giveI (indB p 1 1 l) k l.length r (putT T j bar) = x := ⟨_, rfl⟩
        rw [hgo] at HFO HGA HIHW
        clear hgo
        cases b with
        | false =>
          have HBD := Lib.hid (show Below wd.heap.size wd wd.drew from (Below.refl _ _).drew)
          have KK := Lib.hid (fun (W : World) (h : Below wd.heap.size wd W) => (HBXD.out.kept h).2)
          have hcd : wd.drew.cell? ⟨g, j, none⟩ = some (.slice A2 (n + 1) c2) := HCD.out
          refine wp_region_held_drew (S := (fun W' : World => W'.cell? ⟨w.heap.size, 0, none⟩ = some (.int .i64 p) ∧ W'.cell? ⟨w.heap.size, 1, none⟩ = some (.slice A l.length cap))) (by kernel_rfl) ?_ (fun hHeld => ?_)
          · exact KK.out _ HBD.out
          generalize wd.drew = wD at *
          refine wpAnyH_take (i := 0) (v := .agg #[.int .i64 p, .slice A l.length cap]) rfl (by kernel_rfl) (by kernel_rfl) (by kernel_rfl) (fun _ _ _ h => h) (Or.inl ⟨by kernel_rfl, fun w hSw => by (try dsimp only at hSw); go_simp; all_goals first | omega | exact IntWalk.i64_in _ (by omega)⟩) (by assumption) ?_
          refine wpAnyH_take (i := 1) (v := .slice (some ⟨g, 0, none⟩) k cp) rfl (by kernel_rfl) (by kernel_rfl) (by kernel_rfl) (fun _ _ _ h => h) (Or.inl ⟨by kernel_rfl, fun w hSw => by (try dsimp only at hSw); go_simp; all_goals first | omega | exact IntWalk.i64_in _ (by omega)⟩) (by assumption) ?_
          refine wpAnyH_take (i := 2) (v := .int .i64 (j : Int)) rfl (by kernel_rfl) (by kernel_rfl) (by kernel_rfl) (fun _ _ _ h => h) (Or.inl ⟨by kernel_rfl, fun w hSw => by (try dsimp only at hSw); go_simp; all_goals first | omega | exact IntWalk.i64_in _ (by omega)⟩) (by assumption) ?_
          refine wpAnyH_take (i := 3) (v := .pointer (some ⟨g, j, none⟩)) rfl (by kernel_rfl) (by kernel_rfl) (by kernel_rfl) (fun _ _ _ h => h) (Or.inl ⟨by kernel_rfl, fun w hSw => by (try dsimp only at hSw); go_simp; all_goals first | omega | exact IntWalk.i64_in _ (by omega)⟩) (by assumption) ?_
          refine wpAnyH_ready (rs := [4]) (by kernel_rfl) (by simp) (AllReadyH.cons rfl (fun K hK => ?_) AllReadyH.nil)
          go_simp
          refine hK _ _ (KK.out _ HBD.out) (fun hHeld => ?_)
          clear hK K hcd
          refine wpAnyH_ready (rs := [5]) (by kernel_rfl) (by simp) (AllReadyH.cons rfl (fun K hK => ?_) AllReadyH.nil)
          go_simp
          go_at_call 12
          refine (HSE.out _ HBD.out).mono ?_
          rintro e w8 ⟨rfl, hb8⟩
          have HB8 := Lib.hid (below_on HBD.out hb8 HBD.out.size)
          clear hb8
          refine hK _ _ (KK.out _ HB8.out) (fun hHeld => ?_)
          clear hK K
          refine wpAnyH_take (i := 6) (v := .bool false) rfl (by kernel_rfl) (by kernel_rfl) (by kernel_rfl) (fun _ _ _ h => h) (Or.inl ⟨by kernel_rfl, fun w hSw => by (try dsimp only at hSw); go_simp; all_goals first | omega | exact IntWalk.i64_in _ (by omega)⟩) (by assumption) ?_
          refine wpAnyH_take (i := 7) (v := undef) rfl (by kernel_rfl) (by kernel_rfl) (by kernel_rfl) (fun _ _ _ h => h) (Or.inr ⟨by kernel_rfl, rfl⟩) (by assumption) ?_
          refine wpAnyH_take (i := 8) (v := undef) rfl (by kernel_rfl) (by kernel_rfl) (by kernel_rfl) (fun _ _ _ h => h) (Or.inr ⟨by kernel_rfl, rfl⟩) (by assumption) ?_
          refine wpAnyH_take (i := 9) (v := undef) rfl (by kernel_rfl) (by kernel_rfl) (by kernel_rfl) (fun _ _ _ h => h) (Or.inr ⟨by kernel_rfl, rfl⟩) (by assumption) ?_
          refine wpAnyH_take (i := 10) (v := undef) rfl (by kernel_rfl) (by kernel_rfl) (by kernel_rfl) (fun _ _ _ h => h) (Or.inr ⟨by kernel_rfl, rfl⟩) (by assumption) ?_
          refine wpAnyH_take (i := 11) (v := undef) rfl (by kernel_rfl) (by kernel_rfl) (by kernel_rfl) (fun _ _ _ h => h) (Or.inr ⟨by kernel_rfl, rfl⟩) (by assumption) ?_
          refine wpAnyH_take (i := 12) (v := undef) rfl (by kernel_rfl) (by kernel_rfl) (by kernel_rfl) (fun _ _ _ h => h) (Or.inr ⟨by kernel_rfl, rfl⟩) (by assumption) ?_
          refine wpAnyH_take (i := 13) (v := .bool false) rfl (by kernel_rfl) (by kernel_rfl) (by kernel_rfl) (fun _ _ _ h => h) (Or.inl ⟨by kernel_rfl, fun w hSw => by (try dsimp only at hSw); go_simp; all_goals first | omega | exact IntWalk.i64_in _ (by omega)⟩) (by assumption) ?_
          refine wpAnyH_done (by kernel_rfl) ?_ _
          simp only [Act.put, List.getElem_toArray, List.getElem_cons_succ, List.getElem_cons_zero, List.setIfInBounds_toArray, List.set_cons_zero, List.set_cons_succ]
          have HK2 := Lib.hid (TrW.back HT.out HJT.out HNH.out HOH.out (HTK.out.symm ▸ HFW.out) (HTK.out.symm ▸ (FrW.refl _ _ _ _).below HB8.out) (HTW.out.new HB8.out))
          have hcf := (HTW.out.new HB8.out).pcell HJT.out (n := n) (by rw [HZS.out]; exact HNN.out)
          have hff := (HTW.out.new HB8.out).row.frozenAt j
          have hbk := HK2.out
          rw [HAI.out, HCI.out, HZS.out, HNN.out, HTK.out] at hbk
          have HBK := Lib.hid hbk
          clear hbk HK2
          have HNO := Lib.hid (show tryI (indB p 1 1 l) k l.length r T j = none from by rw [HFO.out]; rfl)
          cases n with
          | zero =>
            go_wp2_with fail
            go_ret
            exact ⟨((FrW.refl _ _ _ _).below HNB.out).trans (HFR.out.trans HBK.out.2), .inr ⟨give_empty HTK.out HPRE.out hlt2 (List.eq_nil_of_length_eq_zero (by rw [HZS.out]; exact HNN.out)) (try_next (fun x hx => (HTRY.out x hx).1) HNO.out), rfl, HBK.out.1⟩⟩
          | succ n =>
            have hn0 : (((n + 1 : Nat) : Int) == 0) = false := by simp; omega
            have hwj : IntKind.i64.wrap ((j : Int) + 1) = (j : Int) + 1 := IntWalk.i64_in _ (by omega)
            go_wp2_with fail
            go_roundw
            case rel => exact ⟨j + 1, by omega, by go_num, HFR.out.trans HBK.out.2, HBK.out.1, try_next HTRY.out ⟨HNO.out, fun e => by rw [HZS.out] at e; have q := HNN.out; rw [e] at q; exact absurd q (by simp)⟩⟩
            case measure => simp [intOf]; omega
        | true =>
          cases go with
          | none =>
            have HBD := Lib.hid (show Below wd.heap.size wd wd.drew from (Below.refl _ _).drew)
            have KK := Lib.hid (fun (W : World) (h : Below wd.heap.size wd W) => (HBXD.out.kept h).2)
            have hcd : wd.drew.cell? ⟨g, j, none⟩ = some (.slice A2 (n + 1) c2) := HCD.out
            have HK9 := Lib.hid (fun (W : World) (h : FrW wr W g k S) => (HBX.out.within (h.within HTR.out HTK.out hBg) (.inr (Nat.le_refl _))).2)
            refine wp_region_held_drew (S := (fun W' : World => W'.cell? ⟨w.heap.size, 0, none⟩ = some (.int .i64 p) ∧ W'.cell? ⟨w.heap.size, 1, none⟩ = some (.slice A l.length cap))) (by kernel_rfl) ?_ (fun hHeld => ?_)
            · exact KK.out _ HBD.out
            generalize wd.drew = wD at *
            refine wpAnyH_take (i := 0) (v := .agg #[.int .i64 p, .slice A l.length cap]) rfl (by kernel_rfl) (by kernel_rfl) (by kernel_rfl) (fun _ _ _ h => h) (Or.inl ⟨by kernel_rfl, fun w hSw => by (try dsimp only at hSw); go_simp; all_goals first | omega | exact IntWalk.i64_in _ (by omega)⟩) (by assumption) ?_
            refine wpAnyH_take (i := 1) (v := .slice (some ⟨g, 0, none⟩) k cp) rfl (by kernel_rfl) (by kernel_rfl) (by kernel_rfl) (fun _ _ _ h => h) (Or.inl ⟨by kernel_rfl, fun w hSw => by (try dsimp only at hSw); go_simp; all_goals first | omega | exact IntWalk.i64_in _ (by omega)⟩) (by assumption) ?_
            refine wpAnyH_take (i := 2) (v := .int .i64 (j : Int)) rfl (by kernel_rfl) (by kernel_rfl) (by kernel_rfl) (fun _ _ _ h => h) (Or.inl ⟨by kernel_rfl, fun w hSw => by (try dsimp only at hSw); go_simp; all_goals first | omega | exact IntWalk.i64_in _ (by omega)⟩) (by assumption) ?_
            refine wpAnyH_take (i := 3) (v := .pointer (some ⟨g, j, none⟩)) rfl (by kernel_rfl) (by kernel_rfl) (by kernel_rfl) (fun _ _ _ h => h) (Or.inl ⟨by kernel_rfl, fun w hSw => by (try dsimp only at hSw); go_simp; all_goals first | omega | exact IntWalk.i64_in _ (by omega)⟩) (by assumption) ?_
            refine wpAnyH_ready (rs := [4]) (by kernel_rfl) (by simp) (AllReadyH.cons rfl (fun K hK => ?_) AllReadyH.nil)
            go_simp
            refine hK _ _ (KK.out _ HBD.out) (fun hHeld => ?_)
            clear hK K hcd
            refine wpAnyH_ready (rs := [5]) (by kernel_rfl) (by simp) (AllReadyH.cons rfl (fun K hK => ?_) AllReadyH.nil)
            go_simp
            go_at_call 12
            refine (HSE.out _ HBD.out).mono ?_
            rintro e w8 ⟨rfl, hb8⟩
            have HB8 := Lib.hid (below_on HBD.out hb8 HBD.out.size)
            clear hb8
            refine hK _ _ (KK.out _ HB8.out) (fun hHeld => ?_)
            clear hK K
            refine wpAnyH_take (i := 6) (v := .bool true) rfl (by kernel_rfl) (by kernel_rfl) (by kernel_rfl) (fun _ _ _ h => h) (Or.inl ⟨by kernel_rfl, fun w hSw => by (try dsimp only at hSw); go_simp; all_goals first | omega | exact IntWalk.i64_in _ (by omega)⟩) (by assumption) ?_
            refine wpAnyH_take (i := 7) (v := .agg #[.int .i64 p, .slice A l.length cap]) rfl (by kernel_rfl) (by kernel_rfl) (by kernel_rfl) (fun _ _ _ h => h) (Or.inl ⟨by kernel_rfl, fun w hSw => by (try dsimp only at hSw); go_simp; all_goals first | omega | exact IntWalk.i64_in _ (by omega)⟩) (by assumption) ?_
            refine wpAnyH_take (i := 8) (v := .int .i64 (k : Int)) rfl (by kernel_rfl) (by kernel_rfl) (by kernel_rfl) (fun _ _ _ h => h) (Or.inl ⟨by kernel_rfl, fun w hSw => by (try dsimp only at hSw); go_simp; all_goals first | omega | exact IntWalk.i64_in _ (by omega)⟩) (by assumption) ?_
            refine wpAnyH_take (i := 9) (v := .int .i64 bar) rfl (by kernel_rfl) (by kernel_rfl) (by kernel_rfl) (fun _ _ _ h => h) (Or.inl ⟨by kernel_rfl, fun w hSw => by (try dsimp only at hSw); go_simp; all_goals first | omega | exact IntWalk.i64_in _ (by omega)⟩) (by assumption) ?_
            refine wpAnyH_take (i := 10) (v := .int .i64 (bar + 1)) rfl (by kernel_rfl) (by kernel_rfl) (by kernel_rfl) (fun _ _ _ h => h) (Or.inl ⟨by kernel_rfl, fun w hSw => by (try dsimp only at hSw); go_simp; all_goals first | omega | exact IntWalk.i64_in _ (by omega)⟩) (by assumption) ?_
            refine wpAnyH_take (i := 11) (v := .slice (some ⟨g, 0, none⟩) k cp) rfl (by kernel_rfl) (by kernel_rfl) (by kernel_rfl) (fun _ _ _ h => h) (Or.inl ⟨by kernel_rfl, fun w hSw => by (try dsimp only at hSw); go_simp; all_goals first | omega | exact IntWalk.i64_in _ (by omega)⟩) (by assumption) ?_
            refine wpAnyH_ready (rs := [12]) (by kernel_rfl) (by simp) (AllReadyH.cons rfl (fun K hK => ?_) AllReadyH.nil)
            go_simp
            go_at_call 90
            refine (HIHW.out _ HB8.out).mono ?_
            rintro e w9 ⟨hf9, ⟨R9, S9, e9, _, _⟩ | ⟨_, rfl, ht9⟩⟩
            · cases e9
            have HF9 := Lib.hid (((FrW.refl _ _ _ _).below HB8.out).trans hf9)
            have HT9 := Lib.hid ht9
            clear hf9 ht9
            refine hK _ _ (HK9.out _ (HFW.out.trans2 HNH.out HF9.out)) (fun hHeld => ?_)
            clear hK K
            refine wpAnyH_take (i := 13) (v := .bool false) rfl (by kernel_rfl) (by kernel_rfl) (by kernel_rfl) (fun _ _ _ h => h) (Or.inl ⟨by kernel_rfl, fun w hSw => by (try dsimp only at hSw); go_simp; all_goals first | omega | exact IntWalk.i64_in _ (by omega)⟩) (by assumption) ?_
            refine wpAnyH_done (by kernel_rfl) ?_ _
            simp only [Act.put, List.getElem_toArray, List.getElem_cons_succ, List.getElem_cons_zero, List.setIfInBounds_toArray, List.set_cons_zero, List.set_cons_succ]
            have HK2 := Lib.hid (TrW.back HT.out HJT.out HNH.out HOH.out (HTK.out.symm ▸ HFW.out) (HTK.out.symm ▸ HF9.out) (HT9.out))
            have hcf := (HT9.out).pcell HJT.out (n := n) (by rw [HZS.out]; exact HNN.out)
            have hff := (HT9.out).row.frozenAt j
            have hbk := HK2.out
            rw [HAI.out, HCI.out, HZS.out, HNN.out, HTK.out] at hbk
            have HBK := Lib.hid hbk
            clear hbk HK2
            have HNO := Lib.hid (show tryI (indB p 1 1 l) k l.length r T j = none from by rw [HFO.out]; rfl)
            cases n with
            | zero =>
              go_wp2_with fail
              go_ret
              exact ⟨((FrW.refl _ _ _ _).below HNB.out).trans (HFR.out.trans HBK.out.2), .inr ⟨give_empty HTK.out HPRE.out hlt2 (List.eq_nil_of_length_eq_zero (by rw [HZS.out]; exact HNN.out)) (try_next (fun x hx => (HTRY.out x hx).1) HNO.out), rfl, HBK.out.1⟩⟩
            | succ n =>
              have hn0 : (((n + 1 : Nat) : Int) == 0) = false := by simp; omega
              have hwj : IntKind.i64.wrap ((j : Int) + 1) = (j : Int) + 1 := IntWalk.i64_in _ (by omega)
              go_wp2_with fail
              go_roundw
              case rel => exact ⟨j + 1, by omega, by go_num, HFR.out.trans HBK.out.2, HBK.out.1, try_next HTRY.out ⟨HNO.out, fun e => by rw [HZS.out] at e; have q := HNN.out; rw [e] at q; exact absurd q (by simp)⟩⟩
              case measure => simp [intOf]; omega
          | some R =>
            have HBD := Lib.hid (show Below wd.heap.size wd wd.drew from (Below.refl _ _).drew)
            have KK := Lib.hid (fun (W : World) (h : Below wd.heap.size wd W) => (HBXD.out.kept h).2)
            have hcd : wd.drew.cell? ⟨g, j, none⟩ = some (.slice A2 (n + 1) c2) := HCD.out
            have HK9 := Lib.hid (fun (W : World) (h : FrW wr W g k S) => (HBX.out.within (h.within HTR.out HTK.out hBg) (.inr (Nat.le_refl _))).2)
            refine wp_region_held_drew (S := (fun W' : World => W'.cell? ⟨w.heap.size, 0, none⟩ = some (.int .i64 p) ∧ W'.cell? ⟨w.heap.size, 1, none⟩ = some (.slice A l.length cap))) (by kernel_rfl) ?_ (fun hHeld => ?_)
            · exact KK.out _ HBD.out
            generalize wd.drew = wD at *
            refine wpAnyH_take (i := 0) (v := .agg #[.int .i64 p, .slice A l.length cap]) rfl (by kernel_rfl) (by kernel_rfl) (by kernel_rfl) (fun _ _ _ h => h) (Or.inl ⟨by kernel_rfl, fun w hSw => by (try dsimp only at hSw); go_simp; all_goals first | omega | exact IntWalk.i64_in _ (by omega)⟩) (by assumption) ?_
            refine wpAnyH_take (i := 1) (v := .slice (some ⟨g, 0, none⟩) k cp) rfl (by kernel_rfl) (by kernel_rfl) (by kernel_rfl) (fun _ _ _ h => h) (Or.inl ⟨by kernel_rfl, fun w hSw => by (try dsimp only at hSw); go_simp; all_goals first | omega | exact IntWalk.i64_in _ (by omega)⟩) (by assumption) ?_
            refine wpAnyH_take (i := 2) (v := .int .i64 (j : Int)) rfl (by kernel_rfl) (by kernel_rfl) (by kernel_rfl) (fun _ _ _ h => h) (Or.inl ⟨by kernel_rfl, fun w hSw => by (try dsimp only at hSw); go_simp; all_goals first | omega | exact IntWalk.i64_in _ (by omega)⟩) (by assumption) ?_
            refine wpAnyH_take (i := 3) (v := .pointer (some ⟨g, j, none⟩)) rfl (by kernel_rfl) (by kernel_rfl) (by kernel_rfl) (fun _ _ _ h => h) (Or.inl ⟨by kernel_rfl, fun w hSw => by (try dsimp only at hSw); go_simp; all_goals first | omega | exact IntWalk.i64_in _ (by omega)⟩) (by assumption) ?_
            refine wpAnyH_ready (rs := [4]) (by kernel_rfl) (by simp) (AllReadyH.cons rfl (fun K hK => ?_) AllReadyH.nil)
            go_simp
            refine hK _ _ (KK.out _ HBD.out) (fun hHeld => ?_)
            clear hK K hcd
            refine wpAnyH_ready (rs := [5]) (by kernel_rfl) (by simp) (AllReadyH.cons rfl (fun K hK => ?_) AllReadyH.nil)
            go_simp
            go_at_call 12
            refine (HSE.out _ HBD.out).mono ?_
            rintro e w8 ⟨rfl, hb8⟩
            have HB8 := Lib.hid (below_on HBD.out hb8 HBD.out.size)
            clear hb8
            refine hK _ _ (KK.out _ HB8.out) (fun hHeld => ?_)
            clear hK K
            refine wpAnyH_take (i := 6) (v := .bool true) rfl (by kernel_rfl) (by kernel_rfl) (by kernel_rfl) (fun _ _ _ h => h) (Or.inl ⟨by kernel_rfl, fun w hSw => by (try dsimp only at hSw); go_simp; all_goals first | omega | exact IntWalk.i64_in _ (by omega)⟩) (by assumption) ?_
            refine wpAnyH_take (i := 7) (v := .agg #[.int .i64 p, .slice A l.length cap]) rfl (by kernel_rfl) (by kernel_rfl) (by kernel_rfl) (fun _ _ _ h => h) (Or.inl ⟨by kernel_rfl, fun w hSw => by (try dsimp only at hSw); go_simp; all_goals first | omega | exact IntWalk.i64_in _ (by omega)⟩) (by assumption) ?_
            refine wpAnyH_take (i := 8) (v := .int .i64 (k : Int)) rfl (by kernel_rfl) (by kernel_rfl) (by kernel_rfl) (fun _ _ _ h => h) (Or.inl ⟨by kernel_rfl, fun w hSw => by (try dsimp only at hSw); go_simp; all_goals first | omega | exact IntWalk.i64_in _ (by omega)⟩) (by assumption) ?_
            refine wpAnyH_take (i := 9) (v := .int .i64 bar) rfl (by kernel_rfl) (by kernel_rfl) (by kernel_rfl) (fun _ _ _ h => h) (Or.inl ⟨by kernel_rfl, fun w hSw => by (try dsimp only at hSw); go_simp; all_goals first | omega | exact IntWalk.i64_in _ (by omega)⟩) (by assumption) ?_
            refine wpAnyH_take (i := 10) (v := .int .i64 (bar + 1)) rfl (by kernel_rfl) (by kernel_rfl) (by kernel_rfl) (fun _ _ _ h => h) (Or.inl ⟨by kernel_rfl, fun w hSw => by (try dsimp only at hSw); go_simp; all_goals first | omega | exact IntWalk.i64_in _ (by omega)⟩) (by assumption) ?_
            refine wpAnyH_take (i := 11) (v := .slice (some ⟨g, 0, none⟩) k cp) rfl (by kernel_rfl) (by kernel_rfl) (by kernel_rfl) (fun _ _ _ h => h) (Or.inl ⟨by kernel_rfl, fun w hSw => by (try dsimp only at hSw); go_simp; all_goals first | omega | exact IntWalk.i64_in _ (by omega)⟩) (by assumption) ?_
            refine wpAnyH_ready (rs := [12]) (by kernel_rfl) (by simp) (AllReadyH.cons rfl (fun K hK => ?_) AllReadyH.nil)
            go_simp
            go_at_call 90
            refine (HIHW.out _ HB8.out).mono ?_
            rintro e w9 ⟨hf9, ⟨R9, S9, e9, rfl, ht9⟩ | ⟨e9, _, _⟩⟩
            rotate_left
            · cases e9
            injection e9 with e9
            subst e9
            have HF9 := Lib.hid (((FrW.refl _ _ _ _).below HB8.out).trans hf9)
            have HT9 := Lib.hid ht9
            clear hf9 ht9
            refine hK _ _ (HK9.out _ (HFW.out.trans2 HNH.out HF9.out)) (fun hHeld => ?_)
            clear hK K
            refine wpAnyH_take (i := 13) (v := .bool true) rfl (by kernel_rfl) (by kernel_rfl) (by kernel_rfl) (fun _ _ _ h => h) (Or.inl ⟨by kernel_rfl, fun w hSw => by (try dsimp only at hSw); go_simp; all_goals first | omega | exact IntWalk.i64_in _ (by omega)⟩) (by assumption) ?_
            refine wpAnyH_done (by kernel_rfl) ?_ _
            simp only [Act.put, List.getElem_toArray, List.getElem_cons_succ, List.getElem_cons_zero, List.setIfInBounds_toArray, List.set_cons_zero, List.set_cons_succ]
            go_wp2_with fail
            go_ret
            exact ⟨((FrW.refl _ _ _ _).below HNB.out).trans (HFR.out.trans (HFW.out.trans2 HNH.out HF9.out)), .inl ⟨_, S9, HGA.out _ trivial rfl, rfl, HT9.out⟩⟩
      · have hjk : j = k := by omega
        subst hjk
        have hji : ¬ ((j : Int) < (j : Int)) := by omega
        clear hlt2
        go_wp2_with fail
        go_ret
        exact ⟨((FrW.refl _ _ _ _).below HNB.out).trans HFR.out, .inr ⟨(firstK_none _).2 fun x hx => (HTRY.out x hx).1, rfl, HT.out⟩⟩
end Go.Proofs.Ytedjhnedkghhoaa
/- What spec.PackTrees answers. No condition. -/
namespace Go.Proofs.Ytedjhnedkghhoaa
open Go.RowKit

set_option maxHeartbeats 8000000 in
set_option maxRecDepth 100000 in
theorem specPack (p k : Int) (l : List (Int × Int)) (A : Option Addr) (cap : Nat) (w : World) (hl : BarsAt w w.heap.size A l) (hn : l.length ≤ 1048576) :
    Calls Try.prog 20 #[.agg #[.int .i64 p, .slice A l.length cap], .int .i64 k] w (RowsB w (packL p k l) (packB p k l)) := by
  by_cases hyes : tightB p k k l = true ∧ p ≤ 5
  case neg =>
    have HN := Lib.hid (pack_none (packV_no hyes))
    have hwp : 1 ≤ p ∧ p ≤ 8 → IntKind.i64.wrap (p - 1) = p - 1 := fun h => IntWalk.i64_in _ (by omega)
    cases hg : isGB p l with
    | false =>
      clear hyes hwp
      have W0 := Lib.hid (Below.refl w.heap.size w)
      have HB_0 := Lib.hid (bars_in hl)
      clear hl
      have Z1 := Lib.hid (within_alloc w (.cells #[.int .i64 p, (.slice A l.length cap)] 30)).size
      have W1 := Lib.hid (within_on W0.out (within_alloc w (.cells #[.int .i64 p, (.slice A l.length cap)] 30)) W0.out.size (.inr (Nat.le_refl _)))
      have HB_1 := Lib.hid (HB_0.out.within (within_alloc w (.cells #[.int .i64 p, (.slice A l.length cap)] 30)) (by omega))
      have Y1 := Lib.hid (show (w.alloc (.cells #[.int .i64 p, (.slice A l.length cap)] 30)).heap.size = w.heap.size + 1 by simp)
      have hnew := box_new w p (.slice A l.length cap) 30
      have BX_1 := Lib.hid hnew
      clear hnew
      go_enter Try.func20, Try.ntmps20
      obtain ⟨g0_0, g0_1, g0_2⟩ := BX_1.out
      go_wp2_with fail
      clear g0_0 g0_1 g0_2
      generalize (w.alloc (.cells #[.int .i64 p, (.slice A l.length cap)] 30)) = w1 at *
      have HIG := Lib.hid (fun (W : World) (h : Below w1.heap.size w1 W) => show Calls Try.prog 87 #[.agg #[.int .i64 p, .slice A l.length cap]] W fun e w' => e = .returned (.bool false) ∧ Below W.heap.size W w' from by have q := specIsGraph' p l A cap W (HB_1.out.within (within_of h) (.inr (Nat.zero_le _))).at hn; rw [hg] at q; exact q)
      clear hg
      refine (HIG.out _ (Below.refl _ _)).mono ?_
      rintro e w2 ⟨rfl, hb⟩
      have Z2 := Lib.hid (within_of hb).size
      have W2 := Lib.hid (within_on W1.out (within_of hb) W1.out.size (.inr (Nat.le_refl _)))
      have HB_2 := Lib.hid (HB_1.out.within (within_of hb) (by omega))
      have BX_2 := Lib.hid (BX_1.out.within (within_of hb) (by omega))
      clear hb
      obtain ⟨g1_0, g1_1, g1_2⟩ := BX_2.out
      have HW2 := Lib.hid W2.out
      go_wp2_with fail
      refine bodyPost_ret (v := .tuple #[.slice (some ⟨w2.heap.size, 0, none⟩) 0 0, .bool false]) ?_ rfl ⟨_, _, by rw [HN.out.1, HN.out.2]; rfl, ⟨Nat.le_refl _, fun h => by rw [HN.out.1] at h; exact absurd h (by simp)⟩, below_on W2.out (new_below w2 _) W2.out.size⟩
      simp [results, Try.results20, go_sem]
    | true =>
      have hp : 1 ≤ p ∧ p ≤ 8 := by
        have hG : IsG p l := Classical.byContradiction fun g => by rw [isGB_no g] at hg; cases hg
        exact hG.1
      have hwp := hwp hp
      by_cases hk : 1 ≤ k ∧ k ≤ 3
      case neg =>
        have hk : k < 1 ∨ 3 < k := by omega
        clear hyes
        have W0 := Lib.hid (Below.refl w.heap.size w)
        have HB_0 := Lib.hid (bars_in hl)
        clear hl
        have Z1 := Lib.hid (within_alloc w (.cells #[.int .i64 p, (.slice A l.length cap)] 30)).size
        have W1 := Lib.hid (within_on W0.out (within_alloc w (.cells #[.int .i64 p, (.slice A l.length cap)] 30)) W0.out.size (.inr (Nat.le_refl _)))
        have HB_1 := Lib.hid (HB_0.out.within (within_alloc w (.cells #[.int .i64 p, (.slice A l.length cap)] 30)) (by omega))
        have Y1 := Lib.hid (show (w.alloc (.cells #[.int .i64 p, (.slice A l.length cap)] 30)).heap.size = w.heap.size + 1 by simp)
        have hnew := box_new w p (.slice A l.length cap) 30
        have BX_1 := Lib.hid hnew
        clear hnew
        go_enter Try.func20, Try.ntmps20
        obtain ⟨g0_0, g0_1, g0_2⟩ := BX_1.out
        go_wp2_with fail
        clear g0_0 g0_1 g0_2
        generalize (w.alloc (.cells #[.int .i64 p, (.slice A l.length cap)] 30)) = w1 at *
        have HIG := Lib.hid (fun (W : World) (h : Below w1.heap.size w1 W) => show Calls Try.prog 87 #[.agg #[.int .i64 p, .slice A l.length cap]] W fun e w' => e = .returned (.bool true) ∧ Below W.heap.size W w' from by have q := specIsGraph' p l A cap W (HB_1.out.within (within_of h) (.inr (Nat.zero_le _))).at hn; rw [hg] at q; exact q)
        clear hg
        refine (HIG.out _ (Below.refl _ _)).mono ?_
        rintro e w2 ⟨rfl, hb⟩
        have Z2 := Lib.hid (within_of hb).size
        have W2 := Lib.hid (within_on W1.out (within_of hb) W1.out.size (.inr (Nat.le_refl _)))
        have HB_2 := Lib.hid (HB_1.out.within (within_of hb) (by omega))
        have BX_2 := Lib.hid (BX_1.out.within (within_of hb) (by omega))
        clear hb
        obtain ⟨g1_0, g1_1, g1_2⟩ := BX_2.out
        go_wp2_with fail
        refine (l1In_no k 1 3 _ hk).mono ?_
        rintro e w9 ⟨rfl, rfl⟩
        have HW2 := Lib.hid W2.out
        go_wp2_with fail
        refine bodyPost_ret (v := .tuple #[.slice (some ⟨w2.heap.size, 0, none⟩) 0 0, .bool false]) ?_ rfl ⟨_, _, by rw [HN.out.1, HN.out.2]; rfl, ⟨Nat.le_refl _, fun h => by rw [HN.out.1] at h; exact absurd h (by simp)⟩, below_on W2.out (new_below w2 _) W2.out.size⟩
        simp [results, Try.results20, go_sem]
      case pos =>
        have hkp : 0 ≤ k * (p - 1) ∧ k * (p - 1) ≤ 21 := ⟨Int.mul_nonneg (by omega) (by omega), by
          calc k * (p - 1) ≤ 3 * (p - 1) := Int.mul_le_mul_of_nonneg_right (by omega) (by omega)
            _ ≤ 21 := by omega⟩
        have hwk : IntKind.i64.wrap (k * (p - 1)) = k * (p - 1) := IntWalk.i64_in _ (by omega)
        by_cases hl1 : (l.length : Int) = k * (p - 1)
        case neg =>
          have hl2 : ((l.length : Int) == k * (p - 1)) = false := by simpa using hl1
          have hl3 : ((l.length : Int) != k * (p - 1)) = true := by simpa using hl1
          clear hyes hl1 hkp
          have W0 := Lib.hid (Below.refl w.heap.size w)
          have HB_0 := Lib.hid (bars_in hl)
          clear hl
          have Z1 := Lib.hid (within_alloc w (.cells #[.int .i64 p, (.slice A l.length cap)] 30)).size
          have W1 := Lib.hid (within_on W0.out (within_alloc w (.cells #[.int .i64 p, (.slice A l.length cap)] 30)) W0.out.size (.inr (Nat.le_refl _)))
          have HB_1 := Lib.hid (HB_0.out.within (within_alloc w (.cells #[.int .i64 p, (.slice A l.length cap)] 30)) (by omega))
          have Y1 := Lib.hid (show (w.alloc (.cells #[.int .i64 p, (.slice A l.length cap)] 30)).heap.size = w.heap.size + 1 by simp)
          have hnew := box_new w p (.slice A l.length cap) 30
          have BX_1 := Lib.hid hnew
          clear hnew
          go_enter Try.func20, Try.ntmps20
          obtain ⟨g0_0, g0_1, g0_2⟩ := BX_1.out
          go_wp2_with fail
          clear g0_0 g0_1 g0_2
          generalize (w.alloc (.cells #[.int .i64 p, (.slice A l.length cap)] 30)) = w1 at *
          have HIG := Lib.hid (fun (W : World) (h : Below w1.heap.size w1 W) => show Calls Try.prog 87 #[.agg #[.int .i64 p, .slice A l.length cap]] W fun e w' => e = .returned (.bool true) ∧ Below W.heap.size W w' from by have q := specIsGraph' p l A cap W (HB_1.out.within (within_of h) (.inr (Nat.zero_le _))).at hn; rw [hg] at q; exact q)
          clear hg
          refine (HIG.out _ (Below.refl _ _)).mono ?_
          rintro e w2 ⟨rfl, hb⟩
          have Z2 := Lib.hid (within_of hb).size
          have W2 := Lib.hid (within_on W1.out (within_of hb) W1.out.size (.inr (Nat.le_refl _)))
          have HB_2 := Lib.hid (HB_1.out.within (within_of hb) (by omega))
          have BX_2 := Lib.hid (BX_1.out.within (within_of hb) (by omega))
          clear hb
          obtain ⟨g1_0, g1_1, g1_2⟩ := BX_2.out
          go_wp2_with fail
          refine (l1In_yes k 1 3 _ hk.1 hk.2).mono ?_
          rintro e w9 ⟨rfl, rfl⟩
          have HW2 := Lib.hid W2.out
          go_wp2_with fail
          refine bodyPost_ret (v := .tuple #[.slice (some ⟨w2.heap.size, 0, none⟩) 0 0, .bool false]) ?_ rfl ⟨_, _, by rw [HN.out.1, HN.out.2]; rfl, ⟨Nat.le_refl _, fun h => by rw [HN.out.1] at h; exact absurd h (by simp)⟩, below_on W2.out (new_below w2 _) W2.out.size⟩
          simp [results, Try.results20, go_sem]
        case pos =>
          have hl2 : ((l.length : Int) == k * (p - 1)) = true := by simpa using hl1
          have hl3 : ((l.length : Int) != k * (p - 1)) = false := by simpa using hl1
          clear hl1 hkp
          by_cases hp5 : p ≤ 5
          case neg =>
            have hp6 : 5 < p := by omega
            have hp7 : decide (5 < p) = true := decide_eq_true hp6
            clear hyes hp5
            have W0 := Lib.hid (Below.refl w.heap.size w)
            have HB_0 := Lib.hid (bars_in hl)
            clear hl
            have Z1 := Lib.hid (within_alloc w (.cells #[.int .i64 p, (.slice A l.length cap)] 30)).size
            have W1 := Lib.hid (within_on W0.out (within_alloc w (.cells #[.int .i64 p, (.slice A l.length cap)] 30)) W0.out.size (.inr (Nat.le_refl _)))
            have HB_1 := Lib.hid (HB_0.out.within (within_alloc w (.cells #[.int .i64 p, (.slice A l.length cap)] 30)) (by omega))
            have Y1 := Lib.hid (show (w.alloc (.cells #[.int .i64 p, (.slice A l.length cap)] 30)).heap.size = w.heap.size + 1 by simp)
            have hnew := box_new w p (.slice A l.length cap) 30
            have BX_1 := Lib.hid hnew
            clear hnew
            go_enter Try.func20, Try.ntmps20
            obtain ⟨g0_0, g0_1, g0_2⟩ := BX_1.out
            go_wp2_with fail
            clear g0_0 g0_1 g0_2
            generalize (w.alloc (.cells #[.int .i64 p, (.slice A l.length cap)] 30)) = w1 at *
            have HIG := Lib.hid (fun (W : World) (h : Below w1.heap.size w1 W) => show Calls Try.prog 87 #[.agg #[.int .i64 p, .slice A l.length cap]] W fun e w' => e = .returned (.bool true) ∧ Below W.heap.size W w' from by have q := specIsGraph' p l A cap W (HB_1.out.within (within_of h) (.inr (Nat.zero_le _))).at hn; rw [hg] at q; exact q)
            clear hg
            refine (HIG.out _ (Below.refl _ _)).mono ?_
            rintro e w2 ⟨rfl, hb⟩
            have Z2 := Lib.hid (within_of hb).size
            have W2 := Lib.hid (within_on W1.out (within_of hb) W1.out.size (.inr (Nat.le_refl _)))
            have HB_2 := Lib.hid (HB_1.out.within (within_of hb) (by omega))
            have BX_2 := Lib.hid (BX_1.out.within (within_of hb) (by omega))
            clear hb
            obtain ⟨g1_0, g1_1, g1_2⟩ := BX_2.out
            go_wp2_with fail
            refine (l1In_yes k 1 3 _ hk.1 hk.2).mono ?_
            rintro e w9 ⟨rfl, rfl⟩
            have HW2 := Lib.hid W2.out
            go_wp2_with fail
            refine bodyPost_ret (v := .tuple #[.slice (some ⟨w2.heap.size, 0, none⟩) 0 0, .bool false]) ?_ rfl ⟨_, _, by rw [HN.out.1, HN.out.2]; rfl, ⟨Nat.le_refl _, fun h => by rw [HN.out.1] at h; exact absurd h (by simp)⟩, below_on W2.out (new_below w2 _) W2.out.size⟩
            simp [results, Try.results20, go_sem]
          case pos =>
            have hp6 : ¬ 5 < p := by omega
            have hp7 : decide (5 < p) = false := decide_eq_false hp6
            have ht : tightB p k k l = false := by
              cases e : tightB p k k l with
              | false => rfl
              | true => exact absurd ⟨e, hp5⟩ hyes
            clear hyes
            have W0 := Lib.hid (Below.refl w.heap.size w)
            have HB_0 := Lib.hid (bars_in hl)
            clear hl
            have Z1 := Lib.hid (within_alloc w (.cells #[.int .i64 p, (.slice A l.length cap)] 30)).size
            have W1 := Lib.hid (within_on W0.out (within_alloc w (.cells #[.int .i64 p, (.slice A l.length cap)] 30)) W0.out.size (.inr (Nat.le_refl _)))
            have HB_1 := Lib.hid (HB_0.out.within (within_alloc w (.cells #[.int .i64 p, (.slice A l.length cap)] 30)) (by omega))
            have Y1 := Lib.hid (show (w.alloc (.cells #[.int .i64 p, (.slice A l.length cap)] 30)).heap.size = w.heap.size + 1 by simp)
            have hnew := box_new w p (.slice A l.length cap) 30
            have BX_1 := Lib.hid hnew
            clear hnew
            go_enter Try.func20, Try.ntmps20
            obtain ⟨g0_0, g0_1, g0_2⟩ := BX_1.out
            go_wp2_with fail
            clear g0_0 g0_1 g0_2
            generalize (w.alloc (.cells #[.int .i64 p, (.slice A l.length cap)] 30)) = w1 at *
            have HIG := Lib.hid (fun (W : World) (h : Below w1.heap.size w1 W) => show Calls Try.prog 87 #[.agg #[.int .i64 p, .slice A l.length cap]] W fun e w' => e = .returned (.bool true) ∧ Below W.heap.size W w' from by have q := specIsGraph' p l A cap W (HB_1.out.within (within_of h) (.inr (Nat.zero_le _))).at hn; rw [hg] at q; exact q)
            clear hg
            refine (HIG.out _ (Below.refl _ _)).mono ?_
            rintro e w2 ⟨rfl, hb⟩
            have Z2 := Lib.hid (within_of hb).size
            have W2 := Lib.hid (within_on W1.out (within_of hb) W1.out.size (.inr (Nat.le_refl _)))
            have HB_2 := Lib.hid (HB_1.out.within (within_of hb) (by omega))
            have BX_2 := Lib.hid (BX_1.out.within (within_of hb) (by omega))
            clear hb
            have HIT := Lib.hid (fun (W : World) (h : Below w2.heap.size w2 W) => show Calls Try.prog 89 #[.agg #[.int .i64 p, .slice A l.length cap], .int .i64 k, .int .i64 k] W fun e w' => e = .returned (.bool false) ∧ Below W.heap.size W w' from by have q := specTight p k k l A cap W (HB_2.out.within (within_of h) (.inr (Nat.zero_le _))).at hn; rw [ht] at q; exact q)
            clear ht
            obtain ⟨g1_0, g1_1, g1_2⟩ := BX_2.out
            go_wp2_with fail
            refine (l1In_yes k 1 3 _ hk.1 hk.2).mono ?_
            rintro e w9 ⟨rfl, rfl⟩
            go_wp2_with fail
            clear g1_0 g1_1 g1_2
            refine (HIT.out _ (Below.refl _ _)).mono ?_
            rintro e w3 ⟨rfl, hb⟩
            have Z3 := Lib.hid (within_of hb).size
            have W3 := Lib.hid (within_on W2.out (within_of hb) W2.out.size (.inr (Nat.le_refl _)))
            have HB_3 := Lib.hid (HB_2.out.within (within_of hb) (by omega))
            have BX_3 := Lib.hid (BX_2.out.within (within_of hb) (by omega))
            clear hb
            have HW3 := Lib.hid W3.out
            go_wp2_with fail
            refine bodyPost_ret (v := .tuple #[.slice (some ⟨w3.heap.size, 0, none⟩) 0 0, .bool false]) ?_ rfl ⟨_, _, by rw [HN.out.1, HN.out.2]; rfl, ⟨Nat.le_refl _, fun h => by rw [HN.out.1] at h; exact absurd h (by simp)⟩, below_on W3.out (new_below w3 _) W3.out.size⟩
            simp [results, Try.results20, go_sem]
  case pos =>
    obtain ⟨hg, hp, hll, hk, hl1⟩ := tight_facts hyes.1
    have ht := hyes.1
    have hwp : IntKind.i64.wrap (p - 1) = p - 1 := IntWalk.i64_in _ (by omega)
    have hwk : IntKind.i64.wrap (k * (p - 1)) = k * (p - 1) := IntWalk.i64_in _ (by omega)
    have hl2 : ((l.length : Int) == k * (p - 1)) = true := by simpa using hl1
    have hl3 : ((l.length : Int) != k * (p - 1)) = false := by simpa using hl1
    have hp6 : ¬ 5 < p := by have := hyes.2; omega
    have hp7 : decide (5 < p) = false := decide_eq_false hp6
    obtain ⟨K, rfl⟩ : ∃ K : Nat, k = (K : Int) := ⟨k.toNat, by omega⟩
    have HV := Lib.hid (packV_yes hyes)
    have HFIVE := Lib.hid hyes.2
    have HKB := Lib.hid (show 1 ≤ K ∧ K ≤ 3 by omega)
    clear hl1 hyes
    have W0 := Lib.hid (Below.refl w.heap.size w)
    have HB_0 := Lib.hid (bars_in hl)
    clear hl
    have Z1 := Lib.hid (within_alloc w (.cells #[.int .i64 p, (.slice A l.length cap)] 30)).size
    have W1 := Lib.hid (within_on W0.out (within_alloc w (.cells #[.int .i64 p, (.slice A l.length cap)] 30)) W0.out.size (.inr (Nat.le_refl _)))
    have HB_1 := Lib.hid (HB_0.out.within (within_alloc w (.cells #[.int .i64 p, (.slice A l.length cap)] 30)) (by omega))
    have Y1 := Lib.hid (show (w.alloc (.cells #[.int .i64 p, (.slice A l.length cap)] 30)).heap.size = w.heap.size + 1 by simp)
    have hnew := box_new w p (.slice A l.length cap) 30
    have BX_1 := Lib.hid hnew
    clear hnew
    go_enter Try.func20, Try.ntmps20
    obtain ⟨g0_0, g0_1, g0_2⟩ := BX_1.out
    go_wp2_with fail
    clear g0_0 g0_1 g0_2
    generalize (w.alloc (.cells #[.int .i64 p, (.slice A l.length cap)] 30)) = w1 at *
    have HIG := Lib.hid (fun (W : World) (h : Below w1.heap.size w1 W) => show Calls Try.prog 87 #[.agg #[.int .i64 p, .slice A l.length cap]] W fun e w' => e = .returned (.bool true) ∧ Below W.heap.size W w' from by have q := specIsGraph' p l A cap W (HB_1.out.within (within_of h) (.inr (Nat.zero_le _))).at hn; rw [hg] at q; exact q)
    clear hg
    refine (HIG.out _ (Below.refl _ _)).mono ?_
    rintro e w2 ⟨rfl, hb⟩
    have Z2 := Lib.hid (within_of hb).size
    have W2 := Lib.hid (within_on W1.out (within_of hb) W1.out.size (.inr (Nat.le_refl _)))
    have HB_2 := Lib.hid (HB_1.out.within (within_of hb) (by omega))
    have BX_2 := Lib.hid (BX_1.out.within (within_of hb) (by omega))
    clear hb
    have HIT := Lib.hid (fun (W : World) (h : Below w2.heap.size w2 W) => show Calls Try.prog 89 #[.agg #[.int .i64 p, .slice A l.length cap], .int .i64 (K : Int), .int .i64 (K : Int)] W fun e w' => e = .returned (.bool true) ∧ Below W.heap.size W w' from by have q := specTight p (K : Int) (K : Int) l A cap W (HB_2.out.within (within_of h) (.inr (Nat.zero_le _))).at hn; rw [ht] at q; exact q)
    clear ht
    obtain ⟨g1_0, g1_1, g1_2⟩ := BX_2.out
    go_wp2_with fail
    refine (l1In_yes (K : Int) 1 3 _ hk.1 hk.2).mono ?_
    rintro e w9 ⟨rfl, rfl⟩
    go_wp2_with fail
    clear g1_0 g1_1 g1_2
    refine (HIT.out _ (Below.refl _ _)).mono ?_
    rintro e w3 ⟨rfl, hb⟩
    have Z3 := Lib.hid (within_of hb).size
    have W3 := Lib.hid (within_on W2.out (within_of hb) W2.out.size (.inr (Nat.le_refl _)))
    have HB_3 := Lib.hid (HB_2.out.within (within_of hb) (by omega))
    have BX_3 := Lib.hid (BX_2.out.within (within_of hb) (by omega))
    clear hb
    have HAL := Lib.hid (new_below w3 (.cells #[] 25))
    have HZE := Lib.hid (TrW.zero w3)
    have HW3 := Lib.hid W3.out.size
    clear hl2 hl3 hp6 hp7 hwp hwk
    go_wp2_with fail
    go_loopw [6, 7] (fun u i wr => ∃ (j g c : Nat) (S : Nat → Option Addr × Nat), j ≤ K ∧ i = .int .i64 j ∧ u = .slice (some ⟨g, 0, none⟩) j c ∧ w3.heap.size ≤ g ∧ TrW wr w3.heap.size g c (List.replicate j []) S ∧ Below w3.heap.size w3 wr) (fun _ i _ => K - (intOf i).toNat)
    case atStart => exact ⟨0, _, _, _, Nat.zero_le _, rfl, rfl, Nat.le_refl _, HZE.out, HAL.out⟩
    case round =>
      obtain ⟨j, g, c, S, hj, rfl, rfl, hgB, htr, hb⟩ := hrel
      have HT := Lib.hid htr
      have HB := Lib.hid hb
      clear htr hb
      have hKB := HKB.out
      by_cases hlt : j < K
      · have hji : (j : Int) < (K : Int) := by omega
        have hwj : IntKind.i64.wrap ((j : Int) + 1) = (j : Int) + 1 := IntWalk.i64_in _ (by omega)
        have HNB := Lib.hid (new_below wr (.cells #[] 3))
        have HSZ := Lib.hid (show (wr.alloc (.cells #[] 3)).heap.size = wr.heap.size + 1 by simp)
        have HGL := Lib.hid HT.out.lt
        have HOS := Lib.hid (HT.out.new HNB.out).ownS
        have HHL := Lib.hid (show (headsT (List.replicate j []) S).length = j by rw [headsT_len, List.length_replicate])
        have HEM := Lib.hid (World.ownsRow_made (base := 0) (e := 3) (size := 1) wr #[] 0 (Nat.zero_le _) (by unfold maxLen; omega) (by simp))
        go_wp2_with (at_builtin; refine wpList_pushSN _ rfl _ _ rfl g (g + 1) (some ⟨g, 0, none⟩) j c _ (.slice (some ⟨wr.heap.size, 0, none⟩) 0 0) HHL.out rfl rfl HOS.out _ _ HSZ.out rfl (by omega) (by have := HGL.out; have := HSZ.out; omega) ?_; intro A7 c7 w7 lo7 hi7 ho7 hd7 hw7; have HO7 := Lib.hid ho7; have HD7 := Lib.hid hd7; have HW7 := Lib.hid hw7; clear ho7 hd7 hw7)
        obtain ⟨g', rfl, hg', htr'⟩ := TrW.more HT.out hgB HNB.out (Nat.le_refl _) (by have := HSZ.out; omega) HEM.out HO7.out HD7.out HW7.out
        rw [← List.replicate_succ', List.length_replicate] at htr'
        go_roundw
        case rel => exact ⟨j + 1, g', c7, _, by omega, by go_num, rfl, hg', htr', within_on (below_on HB.out HNB.out HB.out.size) HW7.out (below_on HB.out HNB.out HB.out.size).size (.inl hgB)⟩
        case measure => simp [intOf]; omega
      · obtain rfl : j = K := by omega
        have hji : ¬ (j : Int) < (j : Int) := by omega
        have hbx := BX_3.out.within (within_of HB.out) (.inr (Nat.zero_le _))
        have HBL := Lib.hid ((bars_in HB_3.out.at).within (within_of HB.out) (.inr (Nat.zero_le _)))
        have hput := l8Put_c p l A cap j c g w3.heap.size hn (by omega) hgB l.length (Nat.le_refl _) 0 (List.replicate j []) S wr (by simp) List.length_replicate (preT_rep j) (fun i _ => by rw [rep_get]; simp; omega) HBL.out HT.out
        have HPUT := Lib.hid hput
        clear hput hlt
        obtain ⟨q0, q1, q2⟩ := hbx
        go_wp2_with fail
        clear q0 q1 q2
        refine HPUT.out.mono ?_
        rintro e w5 ⟨hf, ⟨R, S', hR, rfl, ht5⟩ | ⟨hR, rfl, ht5⟩⟩
        · rw [← HV.out] at hR
          have HN := Lib.hid (pack_some hR)
          have HRL := Lib.hid (give_len (HV.out ▸ hR)).1
          have HF := Lib.hid (hf.within HT.out List.length_replicate hgB)
          have HT5 := Lib.hid ht5
          clear hf ht5 hR
          go_wp2_with fail
          refine bodyPost_ret (v := .tuple #[.slice (some ⟨g, 0, none⟩) j c, .bool true]) ?_ rfl ⟨_, _, by rw [HN.out.1, HN.out.2, HRL.out], by rw [HN.out.1]; exact ((HT5.out.own hgB).lower HW3.out).reads, below_on W3.out (within_on HB.out HF.out HB.out.size (.inl (Nat.le_refl _))) HW3.out⟩
          simp [results, Try.results20, go_sem]
        · rw [← HV.out] at hR
          have HN := Lib.hid (pack_none hR)
          have HF := Lib.hid (hf.within HT.out List.length_replicate hgB)
          clear hf ht5 hR
          have HW5 := Lib.hid (below_on W3.out (within_on HB.out HF.out HB.out.size (.inl (Nat.le_refl _))) HW3.out)
          go_wp2_with fail
          refine bodyPost_ret (v := .tuple #[.slice (some ⟨w5.heap.size, 0, none⟩) 0 0, .bool false]) ?_ rfl ⟨_, _, by rw [HN.out.1, HN.out.2]; rfl, ⟨Nat.le_refl _, fun h => by rw [HN.out.1] at h; exact absurd h (by simp)⟩, below_on HW5.out (new_below w5 _) HW5.out.size⟩
          simp [results, Try.results20, go_sem]
end Go.Proofs.Ytedjhnedkghhoaa
/- What the function value of impl.PackTrees answers. No condition. -/
namespace Go.Proofs.Ytedjhnedkghhoaa
open Go.RowKit

set_option maxHeartbeats 8000000 in
set_option maxRecDepth 100000 in
theorem give_c (p : Int) (l : List (Int × Int)) (A : Option Addr) (cap k cp g gb tb fb B0 B : Nat) (hn : l.length ≤ 1048576) (hk : k ≤ 1048576) (h1 : gb < B ∧ gb ≠ g) (h2 : tb < B ∧ tb ≠ g) (h3 : fb < B ∧ fb ≠ g) (h4 : B0 ≤ B ∧ B0 ≤ g) : ∀ (r : Nat), r ≤ l.length → ∀ (bar : Int) (T : List (List Int)) (S : Nat → Option Addr × Nat) (w : World), bar = ((l.length - r : Nat) : Int) → T.length = k → (∀ i, i < k → (T.getD i []).length + r ≤ 1048576) → GiW p l A cap gb tb fb g B0 k cp w → TrW w B g cp T S → B ≤ w.heap.size →
    Calls Try.prog 92 #[.int .i64 bar, .pointer (some ⟨gb, 0, none⟩), .pointer (some ⟨tb, 0, none⟩), .pointer (some ⟨fb, 0, none⟩)] w (PutP w B g cp k T S (giveI (indB p 1 1 l) k l.length r T)) := by
  intro r
  induction r with
  | zero =>
    intro _ bar T S w hbar hTk hlen hgi htr hBw
    have hbe : bar = (l.length : Int) := by rw [hbar]; simp
    have HBE := Lib.hid (show (bar == (l.length : Int)) = true by simp [hbe])
    clear hbar
    have HTK := Lib.hid hTk
    have HLEN := Lib.hid hlen
    have HTR := Lib.hid htr
    have HGI := Lib.hid hgi
    have HBW := Lib.hid hBw
    clear hTk hlen htr hgi hBw
    go_enter Try.func92, Try.ntmps92
    obtain ⟨g0, g1, g2⟩ := HGI.out.bx
    have g3 := HGI.out.tx
    rw [hbe]
    clear hbe HBE
    go_wp2_with fail
    clear g0 g1 g2 g3
    go_ret
    exact ⟨FrW.refl _ _ _ _, .inl ⟨T, S, rfl, rfl, HTR.out⟩⟩
  | succ r ih =>
    intro hr bar T S w hbar hTk hlen hgi htr hBw
    have HIH := Lib.hid (ih (by omega))
    clear ih
    have hlt : bar < (l.length : Int) := by rw [hbar]; omega
    have hb0 : 0 ≤ bar := by rw [hbar]; omega
    have hbe : (bar == (l.length : Int)) = false := by simp; omega
    have hwb : IntKind.i64.wrap (bar + 1) = bar + 1 := IntWalk.i64_in _ (by omega)
    have HBAR := Lib.hid hbar
    have HNX := Lib.hid (show bar + 1 = ((l.length - r : Nat) : Int) by rw [hbar]; omega)
    clear hbar
    have HTK := Lib.hid hTk
    have HLEN := Lib.hid hlen
    have HTR := Lib.hid htr
    have HGI := Lib.hid hgi
    have HBW := Lib.hid hBw
    clear hTk hlen htr hgi hBw
    go_enter Try.func92, Try.ntmps92
    obtain ⟨g0, g1, g2⟩ := HGI.out.bx
    have g3 := HGI.out.tx
    go_wp2_with fail
    clear g0 g1 g2 g3
    go_loopw [15] (fun i wr => ∃ j : Nat, j ≤ k ∧ i = .int .i64 j ∧ FrW w wr g k S ∧ TrW wr B g cp T S ∧ GiW p l A cap gb tb fb g B0 k cp wr ∧ ∀ x, x < j → tryI (indB p 1 1 l) k l.length r T x = none) (fun i _ => k - (intOf i).toNat)
    case atStart => exact ⟨0, Nat.zero_le _, rfl, FrW.refl _ _ _ _, HTR.out, HGI.out, fun x hx => absurd hx (by omega)⟩
    case round =>
      obtain ⟨j, hj, rfl, hfr, htr, hgi, htry⟩ := hrel
      have HFR := Lib.hid hfr
      have HT := Lib.hid htr
      have HTRY := Lib.hid htry
      have HGR := Lib.hid hgi
      have HBR := Lib.hid (Nat.le_trans HBW.out hfr.size)
      clear hfr htr htry hgi
      by_cases hlt2 : j < k
      · have hji : (j : Int) < (k : Int) := by omega
        have hjT : j < T.length := by rw [HTK.out]; exact hlt2
        have HJT := Lib.hid hjT
        have hcell := HT.out.cell j hjT
        obtain ⟨AI, hAI⟩ : ∃ x, (S j).1 = x := ⟨_, rfl⟩
        obtain ⟨CI, hCI⟩ : ∃ x, (S j).2 = x := ⟨_, rfl⟩
        obtain ⟨zs, hzs⟩ : ∃ x, T.getD j [] = x := ⟨_, rfl⟩
        obtain ⟨n, hnn⟩ : ∃ x, zs.length = x := ⟨_, rfl⟩
        have hn1 : n + 1 ≤ 1048576 := by have := HLEN.out j hlt2; rw [hzs, hnn] at this; omega
        rw [hAI, hCI, hzs, hnn] at hcell
        have HAI := Lib.hid hAI
        have HCI := Lib.hid hCI
        have HZS := Lib.hid hzs
        have HNN := Lib.hid hnn
        clear hAI hCI hzs hnn
        go_wp2_with fail
        clear hcell
        have HBD := Lib.hid (show Below wr.heap.size wr wr.drew from (Below.refl _ _).drew)
        have KK := Lib.hid (fun (W : World) (h : Below wr.heap.size wr W) => (HGR.out.below h).tx)
        refine wp_region_held_drew (S := (fun W' : World => W'.cell? ⟨tb, 0, none⟩ = some (.slice (some ⟨g, 0, none⟩) k cp))) (by kernel_rfl) ?_ (fun hHeld => ?_)
        · exact KK.out _ HBD.out
        generalize wr.drew = wD at *
        refine wpAnyH_take (i := 0) (v := .slice (some ⟨g, 0, none⟩) k cp) rfl (by kernel_rfl) (by kernel_rfl) (by kernel_rfl) (fun _ _ _ h => h) (Or.inl ⟨by kernel_rfl, fun w hSw => by (try dsimp only at hSw); go_simp; all_goals first | omega | exact IntWalk.i64_in _ (by omega)⟩) (by assumption) ?_
        refine wpAnyH_take (i := 1) (v := .int .i64 (j : Int)) rfl (by kernel_rfl) (by kernel_rfl) (by kernel_rfl) (fun _ _ _ h => h) (Or.inl ⟨by kernel_rfl, fun w hSw => by (try dsimp only at hSw); go_simp; all_goals first | omega | exact IntWalk.i64_in _ (by omega)⟩) (by assumption) ?_
        refine wpAnyH_take (i := 2) (v := .slice AI n CI) rfl (by kernel_rfl) (by kernel_rfl) (by kernel_rfl) (fun _ _ _ h => h) (Or.inl ⟨by kernel_rfl, fun w hSw => by (try dsimp only at hSw); go_simp; all_goals first | omega | exact IntWalk.i64_in _ (by omega)⟩) (by assumption) ?_
        refine wpAnyH_take (i := 3) (v := .int .i64 bar) rfl (by kernel_rfl) (by kernel_rfl) (by kernel_rfl) (fun _ _ _ h => h) (Or.inl ⟨by kernel_rfl, fun w hSw => by (try dsimp only at hSw); go_simp; all_goals first | omega | exact IntWalk.i64_in _ (by omega)⟩) (by assumption) ?_
        refine wpAnyH_ready (rs := [4]) (by kernel_rfl) (by simp) (AllReadyH.cons rfl (fun K hK => ?_) AllReadyH.nil)
        have hal := new_below wD (.cells #[.int .i64 bar] 3)
        have HBA := Lib.hid (below_on HBD.out hal HBD.out.size)
        have HNEW := Lib.hid (show (wD.alloc (.cells #[.int .i64 bar] 3)).cell? ((⟨wD.heap.size, 0, none⟩ : Addr).add 0) = some (.int .i64 bar) from (show (wD.alloc (.cells #[.int .i64 bar] 3)).cell? ⟨wD.heap.size, 0, none⟩ = some (.int .i64 bar) by rw [World.cell?_alloc_at _ _ _ _ rfl]; rfl))
        have HOWN := Lib.hid (show (wD.alloc (.cells #[.int .i64 bar] 3)).ownsRow 0 3 1 (.slice AI n CI) n (intCells zs) from by have q := ((HT.out.new HBA.out).each j HJT.out).row; rw [HAI.out, HCI.out, HZS.out, HNN.out] at q; exact q)
        clear hal
        go_simp
        refine hK _ _ (KK.out _ HBA.out) (fun hHeld => ?_)
        clear hK K
        refine wpAnyH_ready (rs := [5]) (by kernel_rfl) (by simp) (AllReadyH.cons rfl (fun K hK => ?_) AllReadyH.nil)
        refine step_pushT _ (by rfl) _ _ (by rfl) AI CI n (intCells zs) (.int .i64 bar) (by rfl) rfl HOWN.out ⟨wD.heap.size, 0, none⟩ 1 (by rfl) HNEW.out (by omega) ?_
        intro A2 c2 wb ho hd
        have HPU := Lib.hid (HT.out.pushed HBR.out HJT.out HBA.out HZS.out HNN.out HAI.out HCI.out ho hd)
        clear ho hd
        have HTB := Lib.hid (show wb.cell? ⟨tb, 0, none⟩ = some (.slice (some ⟨g, 0, none⟩) k cp) from (World.cell?_of_block (a := ⟨tb, 0, none⟩) ((heap_setCell_other wb ⟨g, j, none⟩ tb (.slice A2 (n + 1) c2) h2.2).symm.trans (HPU.out.2.2.2.2.stand HT.out rfl HGR.out.lt.1 h2.1 h2.2))).trans HGR.out.tx)
        refine hK _ _ HTB.out (fun hHeld => ?_)
        clear hK K
        refine wpAnyH_take (i := 6) (v := .pointer (some ⟨g, j, none⟩)) rfl (by kernel_rfl) (by kernel_rfl) (by kernel_rfl) (fun _ _ _ h => h) (Or.inl ⟨by kernel_rfl, fun w hSw => by (try dsimp only at hSw); go_simp; all_goals first | omega | exact IntWalk.i64_in _ (by omega)⟩) (by assumption) ?_
        refine wpAnyH_ready (rs := [7]) (by kernel_rfl) (by simp) (AllReadyH.cons rfl (fun K hK => ?_) AllReadyH.nil)
        have q0 := HPU.out.1.1
        have q1 := HPU.out.1.2
        have HGD := Lib.hid (show GiW p l A cap gb tb fb g B0 k cp (wb.setCell ⟨g, j, none⟩ (.slice A2 (n + 1) c2)) from HGR.out.keep (fun b x1 x2 x3 => HPU.out.2.2.2.2.stand HT.out rfl x1 x2 x3) HPU.out.2.2.2.2.size HPU.out.2.2.2.2.os HPU.out.2.2.2.2.tape HPU.out.2.2.2.2.output h1 h2 h3 h4)
        go_simp
        clear q0 q1
        refine hK _ _ HGD.out.tx (fun hHeld => ?_)
        clear hK K
        refine wpAnyH_done (by kernel_rfl) ?_ _
        clear hHeld
        go_wp2_with fail
        have HTW := Lib.hid HPU.out.2.1
        have HNH := Lib.hid HPU.out.2.2.1
        have HOH := Lib.hid HPU.out.2.2.2.1
        have HFW := Lib.hid (HTK.out ▸ HPU.out.2.2.2.2)
        clear HPU HTB HOWN HNEW HBA HBD KK
        generalize (wb.setCell ⟨g, j, none⟩ (.slice A2 (n + 1) c2)) = wd at *
        have hcd := HTW.out.pcell HJT.out (n := n) (by rw [HZS.out]; exact HNN.out)
        have HCD := Lib.hid hcd
        clear hcd
        have HPI := Lib.hid (HTW.out.pints HJT.out HZS.out)
        have HL2 := Lib.hid (show (zs ++ [bar]).length = n + 1 by simp [HNN.out])
        have HFO := Lib.hid (show tryI (indB p 1 1 l) k l.length r T j = if (indB p 1 1 l) (zs ++ [bar]) = true then giveI (indB p 1 1 l) k l.length r (putT T j bar) else none by unfold tryI; rw [HZS.out, HBAR.out])
        have HGA := Lib.hid (fun (R : List (List Int)) (h1 : (indB p 1 1 l) (zs ++ [bar]) = true) (h2 : giveI (indB p 1 1 l) k l.length r (putT T j bar) = some R) => give_at (fo := (indB p 1 1 l)) (k := k) (n := l.length) (r := r) (T := T) (i := j) hlt2 (fun x hx => HTRY.out x hx) (by rw [HZS.out, ← HBAR.out]; exact h1) (R := R) (by rw [← HBAR.out]; exact h2))
        obtain ⟨b, hb⟩ : ∃ b, (indB p 1 1 l) (zs ++ [bar]) = b := ⟨_, rfl⟩
        have HSE := Lib.hid (fun (W : World) (h : Below wd.heap.size wd W) => show Calls Try.prog 15 #[.agg #[.int .i64 p, .slice A l.length cap], .slice A2 (n + 1) c2] W fun e w' => e = .returned (.bool b) ∧ Below W.heap.size W w' from by have q := implFor p l (zs ++ [bar]) A A2 cap c2 0 wd.heap.size W ((HGD.out.below h).bars.at) (HPI.out.within (within_of h) (.inr (Nat.zero_le _))) hn (by rw [HL2.out]; exact hn1); rw [HL2.out, hb] at q; exact q)
        have HIHW := Lib.hid (fun (W : World) (h : Below wd.heap.size wd W) => HIH.out (bar + 1) (putT T j bar) (updS S j (A2, c2)) W HNX.out (by rw [putT_len]; exact HTK.out) (fun i hi => by rw [putT_get (by rw [HTK.out]; exact hi)]; have q := HLEN.out i hi; split; (rename_i e; subst e; rw [HZS.out] at q ⊢; rw [HL2.out]; rw [HNN.out] at q; omega); omega) (HGD.out.below h) (HTW.out.new h) (Nat.le_trans HBR.out (Nat.le_trans HFW.out.size h.size)))
        rw [hb] at HFO HGA
        clear hb
        obtain ⟨go, hgo⟩ : ∃ x, giveI (indB p 1 1 l) k l.length r (putT T j bar) = x := ⟨_, rfl⟩
        rw [hgo] at HFO HGA HIHW
        clear hgo
        have HG9 := Lib.hid (fun (W : World) (h : FrW wr W g k S) => HGR.out.keep (fun b x1 x2 x3 => h.stand HT.out HTK.out x1 x2 x3) h.size h.os h.tape h.output h1 h2 h3 h4)
        cases b with
        | false =>
          have HBE := Lib.hid (show Below wd.heap.size wd wd.drew from (Below.refl _ _).drew)
          have KK := Lib.hid (fun (W : World) (h : GiW p l A cap gb tb fb g B0 k cp W) => And.intro h.bx.2.1 (And.intro h.bx.2.2 (And.intro h.tx h.fx)))
          have hcd : wd.drew.cell? ⟨g, j, none⟩ = some (.slice A2 (n + 1) c2) := HCD.out
          refine wp_region_held_drew (S := (fun W' : World => W'.cell? ⟨gb, 0, none⟩ = some (.int .i64 p) ∧ W'.cell? ⟨gb, 1, none⟩ = some (.slice A l.length cap) ∧ W'.cell? ⟨tb, 0, none⟩ = some (.slice (some ⟨g, 0, none⟩) k cp) ∧ W'.cell? ⟨fb, 0, none⟩ = some (.func (.func 92) #[] #[.pointer (some ⟨gb, 0, none⟩), .pointer (some ⟨tb, 0, none⟩), .pointer (some ⟨fb, 0, none⟩)]))) (by kernel_rfl) ?_ (fun hHeld => ?_)
          · exact KK.out _ (HGD.out.below HBE.out)
          generalize wd.drew = wE at *
          refine wpAnyH_take (i := 0) (v := .agg #[.int .i64 p, .slice A l.length cap]) rfl (by kernel_rfl) (by kernel_rfl) (by kernel_rfl) (fun _ _ _ h => h) (Or.inl ⟨by kernel_rfl, fun w hSw => by (try dsimp only at hSw); go_simp; all_goals first | omega | exact IntWalk.i64_in _ (by omega)⟩) (by assumption) ?_
          refine wpAnyH_take (i := 1) (v := .slice (some ⟨g, 0, none⟩) k cp) rfl (by kernel_rfl) (by kernel_rfl) (by kernel_rfl) (fun _ _ _ h => h) (Or.inl ⟨by kernel_rfl, fun w hSw => by (try dsimp only at hSw); go_simp; all_goals first | omega | exact IntWalk.i64_in _ (by omega)⟩) (by assumption) ?_
          refine wpAnyH_take (i := 2) (v := .int .i64 (j : Int)) rfl (by kernel_rfl) (by kernel_rfl) (by kernel_rfl) (fun _ _ _ h => h) (Or.inl ⟨by kernel_rfl, fun w hSw => by (try dsimp only at hSw); go_simp; all_goals first | omega | exact IntWalk.i64_in _ (by omega)⟩) (by assumption) ?_
          refine wpAnyH_take (i := 3) (v := .pointer (some ⟨g, j, none⟩)) rfl (by kernel_rfl) (by kernel_rfl) (by kernel_rfl) (fun _ _ _ h => h) (Or.inl ⟨by kernel_rfl, fun w hSw => by (try dsimp only at hSw); go_simp; all_goals first | omega | exact IntWalk.i64_in _ (by omega)⟩) (by assumption) ?_
          refine wpAnyH_ready (rs := [4]) (by kernel_rfl) (by simp) (AllReadyH.cons rfl (fun K hK => ?_) AllReadyH.nil)
          go_simp
          refine hK _ _ (KK.out _ (HGD.out.below HBE.out)) (fun hHeld => ?_)
          clear hK K hcd
          refine wpAnyH_ready (rs := [5]) (by kernel_rfl) (by simp) (AllReadyH.cons rfl (fun K hK => ?_) AllReadyH.nil)
          go_simp
          go_at_call 15
          refine (HSE.out _ HBE.out).mono ?_
          rintro e w8 ⟨rfl, hb8⟩
          have HB8 := Lib.hid (below_on HBE.out hb8 HBE.out.size)
          clear hb8
          refine hK _ _ (KK.out _ (HGD.out.below HB8.out)) (fun hHeld => ?_)
          clear hK K
          refine wpAnyH_take (i := 6) (v := .bool false) rfl (by kernel_rfl) (by kernel_rfl) (by kernel_rfl) (fun _ _ _ h => h) (Or.inl ⟨by kernel_rfl, fun w hSw => by (try dsimp only at hSw); go_simp; all_goals first | omega | exact IntWalk.i64_in _ (by omega)⟩) (by assumption) ?_
          refine wpAnyH_take (i := 7) (v := undef) rfl (by kernel_rfl) (by kernel_rfl) (by kernel_rfl) (fun _ _ _ h => h) (Or.inr ⟨by kernel_rfl, rfl⟩) (by assumption) ?_
          refine wpAnyH_take (i := 8) (v := undef) rfl (by kernel_rfl) (by kernel_rfl) (by kernel_rfl) (fun _ _ _ h => h) (Or.inr ⟨by kernel_rfl, rfl⟩) (by assumption) ?_
          refine wpAnyH_take (i := 9) (v := undef) rfl (by kernel_rfl) (by kernel_rfl) (by kernel_rfl) (fun _ _ _ h => h) (Or.inr ⟨by kernel_rfl, rfl⟩) (by assumption) ?_
          refine wpAnyH_take (i := 10) (v := undef) rfl (by kernel_rfl) (by kernel_rfl) (by kernel_rfl) (fun _ _ _ h => h) (Or.inr ⟨by kernel_rfl, rfl⟩) (by assumption) ?_
          refine wpAnyH_take (i := 11) (v := .bool false) rfl (by kernel_rfl) (by kernel_rfl) (by kernel_rfl) (fun _ _ _ h => h) (Or.inl ⟨by kernel_rfl, fun w hSw => by (try dsimp only at hSw); go_simp; all_goals first | omega | exact IntWalk.i64_in _ (by omega)⟩) (by assumption) ?_
          refine wpAnyH_done (by kernel_rfl) ?_ _
          simp only [Act.put, List.getElem_toArray, List.getElem_cons_succ, List.getElem_cons_zero, List.setIfInBounds_toArray, List.set_cons_zero, List.set_cons_succ]
          have HK2 := Lib.hid (TrW.back HT.out HJT.out HNH.out HOH.out (HTK.out.symm ▸ HFW.out) (HTK.out.symm ▸ (FrW.refl _ _ _ _).below HB8.out) (HTW.out.new HB8.out))
          have hcf := (HTW.out.new HB8.out).pcell HJT.out (n := n) (by rw [HZS.out]; exact HNN.out)
          have hff := (HTW.out.new HB8.out).row.frozenAt j
          have hbk := HK2.out
          rw [HAI.out, HCI.out, HZS.out, HNN.out, HTK.out] at hbk
          have HBK := Lib.hid hbk
          clear hbk HK2
          have HNO := Lib.hid (show tryI (indB p 1 1 l) k l.length r T j = none from by rw [HFO.out]; rfl)
          have g3 := (HGD.out.below HB8.out).tx
          have hwj : IntKind.i64.wrap ((j : Int) + 1) = (j : Int) + 1 := IntWalk.i64_in _ (by omega)
          go_wp2_with fail
          go_roundw
          case rel => exact ⟨j + 1, by omega, by go_num, HFR.out.trans HBK.out.2, HBK.out.1, HG9.out _ HBK.out.2, try_next HTRY.out HNO.out⟩
          case measure => simp [intOf]; omega
        | true =>
          cases go with
          | none =>
            have HBE := Lib.hid (show Below wd.heap.size wd wd.drew from (Below.refl _ _).drew)
            have KK := Lib.hid (fun (W : World) (h : GiW p l A cap gb tb fb g B0 k cp W) => And.intro h.bx.2.1 (And.intro h.bx.2.2 (And.intro h.tx h.fx)))
            have hcd : wd.drew.cell? ⟨g, j, none⟩ = some (.slice A2 (n + 1) c2) := HCD.out
            refine wp_region_held_drew (S := (fun W' : World => W'.cell? ⟨gb, 0, none⟩ = some (.int .i64 p) ∧ W'.cell? ⟨gb, 1, none⟩ = some (.slice A l.length cap) ∧ W'.cell? ⟨tb, 0, none⟩ = some (.slice (some ⟨g, 0, none⟩) k cp) ∧ W'.cell? ⟨fb, 0, none⟩ = some (.func (.func 92) #[] #[.pointer (some ⟨gb, 0, none⟩), .pointer (some ⟨tb, 0, none⟩), .pointer (some ⟨fb, 0, none⟩)]))) (by kernel_rfl) ?_ (fun hHeld => ?_)
            · exact KK.out _ (HGD.out.below HBE.out)
            generalize wd.drew = wE at *
            refine wpAnyH_take (i := 0) (v := .agg #[.int .i64 p, .slice A l.length cap]) rfl (by kernel_rfl) (by kernel_rfl) (by kernel_rfl) (fun _ _ _ h => h) (Or.inl ⟨by kernel_rfl, fun w hSw => by (try dsimp only at hSw); go_simp; all_goals first | omega | exact IntWalk.i64_in _ (by omega)⟩) (by assumption) ?_
            refine wpAnyH_take (i := 1) (v := .slice (some ⟨g, 0, none⟩) k cp) rfl (by kernel_rfl) (by kernel_rfl) (by kernel_rfl) (fun _ _ _ h => h) (Or.inl ⟨by kernel_rfl, fun w hSw => by (try dsimp only at hSw); go_simp; all_goals first | omega | exact IntWalk.i64_in _ (by omega)⟩) (by assumption) ?_
            refine wpAnyH_take (i := 2) (v := .int .i64 (j : Int)) rfl (by kernel_rfl) (by kernel_rfl) (by kernel_rfl) (fun _ _ _ h => h) (Or.inl ⟨by kernel_rfl, fun w hSw => by (try dsimp only at hSw); go_simp; all_goals first | omega | exact IntWalk.i64_in _ (by omega)⟩) (by assumption) ?_
            refine wpAnyH_take (i := 3) (v := .pointer (some ⟨g, j, none⟩)) rfl (by kernel_rfl) (by kernel_rfl) (by kernel_rfl) (fun _ _ _ h => h) (Or.inl ⟨by kernel_rfl, fun w hSw => by (try dsimp only at hSw); go_simp; all_goals first | omega | exact IntWalk.i64_in _ (by omega)⟩) (by assumption) ?_
            refine wpAnyH_ready (rs := [4]) (by kernel_rfl) (by simp) (AllReadyH.cons rfl (fun K hK => ?_) AllReadyH.nil)
            go_simp
            refine hK _ _ (KK.out _ (HGD.out.below HBE.out)) (fun hHeld => ?_)
            clear hK K hcd
            refine wpAnyH_ready (rs := [5]) (by kernel_rfl) (by simp) (AllReadyH.cons rfl (fun K hK => ?_) AllReadyH.nil)
            go_simp
            go_at_call 15
            refine (HSE.out _ HBE.out).mono ?_
            rintro e w8 ⟨rfl, hb8⟩
            have HB8 := Lib.hid (below_on HBE.out hb8 HBE.out.size)
            clear hb8
            refine hK _ _ (KK.out _ (HGD.out.below HB8.out)) (fun hHeld => ?_)
            clear hK K
            refine wpAnyH_take (i := 6) (v := .bool true) rfl (by kernel_rfl) (by kernel_rfl) (by kernel_rfl) (fun _ _ _ h => h) (Or.inl ⟨by kernel_rfl, fun w hSw => by (try dsimp only at hSw); go_simp; all_goals first | omega | exact IntWalk.i64_in _ (by omega)⟩) (by assumption) ?_
            refine wpAnyH_take (i := 7) (v := .func (.func 92) #[] #[.pointer (some ⟨gb, 0, none⟩), .pointer (some ⟨tb, 0, none⟩), .pointer (some ⟨fb, 0, none⟩)]) rfl (by kernel_rfl) (by kernel_rfl) (by kernel_rfl) (fun _ _ _ h => h) (Or.inl ⟨by kernel_rfl, fun w hSw => by (try dsimp only at hSw); go_simp; all_goals first | omega | exact IntWalk.i64_in _ (by omega)⟩) (by assumption) ?_
            refine wpAnyH_take (i := 8) (v := .int .i64 bar) rfl (by kernel_rfl) (by kernel_rfl) (by kernel_rfl) (fun _ _ _ h => h) (Or.inl ⟨by kernel_rfl, fun w hSw => by (try dsimp only at hSw); go_simp; all_goals first | omega | exact IntWalk.i64_in _ (by omega)⟩) (by assumption) ?_
            refine wpAnyH_take (i := 9) (v := .int .i64 (bar + 1)) rfl (by kernel_rfl) (by kernel_rfl) (by kernel_rfl) (fun _ _ _ h => h) (Or.inl ⟨by kernel_rfl, fun w hSw => by (try dsimp only at hSw); go_simp; all_goals first | omega | exact IntWalk.i64_in _ (by omega)⟩) (by assumption) ?_
            refine wpAnyH_ready (rs := [10]) (by kernel_rfl) (by simp) (AllReadyH.cons rfl (fun K hK => ?_) AllReadyH.nil)
            go_simp
            go_at_call 92
            refine (HIHW.out _ HB8.out).mono ?_
            rintro e w9 ⟨hf9, ⟨R9, S9, e9, _, _⟩ | ⟨_, rfl, ht9⟩⟩
            · cases e9
            have HF9 := Lib.hid (((FrW.refl _ _ _ _).below HB8.out).trans hf9)
            have HT9 := Lib.hid ht9
            clear hf9 ht9
            refine hK _ _ (KK.out _ (HG9.out _ (HFW.out.trans2 HNH.out HF9.out))) (fun hHeld => ?_)
            clear hK K
            refine wpAnyH_take (i := 11) (v := .bool false) rfl (by kernel_rfl) (by kernel_rfl) (by kernel_rfl) (fun _ _ _ h => h) (Or.inl ⟨by kernel_rfl, fun w hSw => by (try dsimp only at hSw); go_simp; all_goals first | omega | exact IntWalk.i64_in _ (by omega)⟩) (by assumption) ?_
            refine wpAnyH_done (by kernel_rfl) ?_ _
            simp only [Act.put, List.getElem_toArray, List.getElem_cons_succ, List.getElem_cons_zero, List.setIfInBounds_toArray, List.set_cons_zero, List.set_cons_succ]
            have HK2 := Lib.hid (TrW.back HT.out HJT.out HNH.out HOH.out (HTK.out.symm ▸ HFW.out) (HTK.out.symm ▸ HF9.out) (HT9.out))
            have hcf := (HT9.out).pcell HJT.out (n := n) (by rw [HZS.out]; exact HNN.out)
            have hff := (HT9.out).row.frozenAt j
            have hbk := HK2.out
            rw [HAI.out, HCI.out, HZS.out, HNN.out, HTK.out] at hbk
            have HBK := Lib.hid hbk
            clear hbk HK2
            have HNO := Lib.hid (show tryI (indB p 1 1 l) k l.length r T j = none from by rw [HFO.out]; rfl)
            have g3 := (HG9.out _ (HFW.out.trans2 HNH.out HF9.out)).tx
            have hwj : IntKind.i64.wrap ((j : Int) + 1) = (j : Int) + 1 := IntWalk.i64_in _ (by omega)
            go_wp2_with fail
            go_roundw
            case rel => exact ⟨j + 1, by omega, by go_num, HFR.out.trans HBK.out.2, HBK.out.1, HG9.out _ HBK.out.2, try_next HTRY.out HNO.out⟩
            case measure => simp [intOf]; omega
          | some R =>
            have HBE := Lib.hid (show Below wd.heap.size wd wd.drew from (Below.refl _ _).drew)
            have KK := Lib.hid (fun (W : World) (h : GiW p l A cap gb tb fb g B0 k cp W) => And.intro h.bx.2.1 (And.intro h.bx.2.2 (And.intro h.tx h.fx)))
            have hcd : wd.drew.cell? ⟨g, j, none⟩ = some (.slice A2 (n + 1) c2) := HCD.out
            refine wp_region_held_drew (S := (fun W' : World => W'.cell? ⟨gb, 0, none⟩ = some (.int .i64 p) ∧ W'.cell? ⟨gb, 1, none⟩ = some (.slice A l.length cap) ∧ W'.cell? ⟨tb, 0, none⟩ = some (.slice (some ⟨g, 0, none⟩) k cp) ∧ W'.cell? ⟨fb, 0, none⟩ = some (.func (.func 92) #[] #[.pointer (some ⟨gb, 0, none⟩), .pointer (some ⟨tb, 0, none⟩), .pointer (some ⟨fb, 0, none⟩)]))) (by kernel_rfl) ?_ (fun hHeld => ?_)
            · exact KK.out _ (HGD.out.below HBE.out)
            generalize wd.drew = wE at *
            refine wpAnyH_take (i := 0) (v := .agg #[.int .i64 p, .slice A l.length cap]) rfl (by kernel_rfl) (by kernel_rfl) (by kernel_rfl) (fun _ _ _ h => h) (Or.inl ⟨by kernel_rfl, fun w hSw => by (try dsimp only at hSw); go_simp; all_goals first | omega | exact IntWalk.i64_in _ (by omega)⟩) (by assumption) ?_
            refine wpAnyH_take (i := 1) (v := .slice (some ⟨g, 0, none⟩) k cp) rfl (by kernel_rfl) (by kernel_rfl) (by kernel_rfl) (fun _ _ _ h => h) (Or.inl ⟨by kernel_rfl, fun w hSw => by (try dsimp only at hSw); go_simp; all_goals first | omega | exact IntWalk.i64_in _ (by omega)⟩) (by assumption) ?_
            refine wpAnyH_take (i := 2) (v := .int .i64 (j : Int)) rfl (by kernel_rfl) (by kernel_rfl) (by kernel_rfl) (fun _ _ _ h => h) (Or.inl ⟨by kernel_rfl, fun w hSw => by (try dsimp only at hSw); go_simp; all_goals first | omega | exact IntWalk.i64_in _ (by omega)⟩) (by assumption) ?_
            refine wpAnyH_take (i := 3) (v := .pointer (some ⟨g, j, none⟩)) rfl (by kernel_rfl) (by kernel_rfl) (by kernel_rfl) (fun _ _ _ h => h) (Or.inl ⟨by kernel_rfl, fun w hSw => by (try dsimp only at hSw); go_simp; all_goals first | omega | exact IntWalk.i64_in _ (by omega)⟩) (by assumption) ?_
            refine wpAnyH_ready (rs := [4]) (by kernel_rfl) (by simp) (AllReadyH.cons rfl (fun K hK => ?_) AllReadyH.nil)
            go_simp
            refine hK _ _ (KK.out _ (HGD.out.below HBE.out)) (fun hHeld => ?_)
            clear hK K hcd
            refine wpAnyH_ready (rs := [5]) (by kernel_rfl) (by simp) (AllReadyH.cons rfl (fun K hK => ?_) AllReadyH.nil)
            go_simp
            go_at_call 15
            refine (HSE.out _ HBE.out).mono ?_
            rintro e w8 ⟨rfl, hb8⟩
            have HB8 := Lib.hid (below_on HBE.out hb8 HBE.out.size)
            clear hb8
            refine hK _ _ (KK.out _ (HGD.out.below HB8.out)) (fun hHeld => ?_)
            clear hK K
            refine wpAnyH_take (i := 6) (v := .bool true) rfl (by kernel_rfl) (by kernel_rfl) (by kernel_rfl) (fun _ _ _ h => h) (Or.inl ⟨by kernel_rfl, fun w hSw => by (try dsimp only at hSw); go_simp; all_goals first | omega | exact IntWalk.i64_in _ (by omega)⟩) (by assumption) ?_
            refine wpAnyH_take (i := 7) (v := .func (.func 92) #[] #[.pointer (some ⟨gb, 0, none⟩), .pointer (some ⟨tb, 0, none⟩), .pointer (some ⟨fb, 0, none⟩)]) rfl (by kernel_rfl) (by kernel_rfl) (by kernel_rfl) (fun _ _ _ h => h) (Or.inl ⟨by kernel_rfl, fun w hSw => by (try dsimp only at hSw); go_simp; all_goals first | omega | exact IntWalk.i64_in _ (by omega)⟩) (by assumption) ?_
            refine wpAnyH_take (i := 8) (v := .int .i64 bar) rfl (by kernel_rfl) (by kernel_rfl) (by kernel_rfl) (fun _ _ _ h => h) (Or.inl ⟨by kernel_rfl, fun w hSw => by (try dsimp only at hSw); go_simp; all_goals first | omega | exact IntWalk.i64_in _ (by omega)⟩) (by assumption) ?_
            refine wpAnyH_take (i := 9) (v := .int .i64 (bar + 1)) rfl (by kernel_rfl) (by kernel_rfl) (by kernel_rfl) (fun _ _ _ h => h) (Or.inl ⟨by kernel_rfl, fun w hSw => by (try dsimp only at hSw); go_simp; all_goals first | omega | exact IntWalk.i64_in _ (by omega)⟩) (by assumption) ?_
            refine wpAnyH_ready (rs := [10]) (by kernel_rfl) (by simp) (AllReadyH.cons rfl (fun K hK => ?_) AllReadyH.nil)
            go_simp
            go_at_call 92
            refine (HIHW.out _ HB8.out).mono ?_
            rintro e w9 ⟨hf9, ⟨R9, S9, e9, rfl, ht9⟩ | ⟨e9, _, _⟩⟩
            rotate_left
            · cases e9
            injection e9 with e9
            subst e9
            have HF9 := Lib.hid (((FrW.refl _ _ _ _).below HB8.out).trans hf9)
            have HT9 := Lib.hid ht9
            clear hf9 ht9
            refine hK _ _ (KK.out _ (HG9.out _ (HFW.out.trans2 HNH.out HF9.out))) (fun hHeld => ?_)
            clear hK K
            refine wpAnyH_take (i := 11) (v := .bool true) rfl (by kernel_rfl) (by kernel_rfl) (by kernel_rfl) (fun _ _ _ h => h) (Or.inl ⟨by kernel_rfl, fun w hSw => by (try dsimp only at hSw); go_simp; all_goals first | omega | exact IntWalk.i64_in _ (by omega)⟩) (by assumption) ?_
            refine wpAnyH_done (by kernel_rfl) ?_ _
            simp only [Act.put, List.getElem_toArray, List.getElem_cons_succ, List.getElem_cons_zero, List.setIfInBounds_toArray, List.set_cons_zero, List.set_cons_succ]
            go_wp2_with fail
            go_ret
            exact ⟨HFR.out.trans (HFW.out.trans2 HNH.out HF9.out), .inl ⟨_, S9, HGA.out _ trivial rfl, rfl, HT9.out⟩⟩
      · have hjk : j = k := by omega
        subst hjk
        have hji : ¬ ((j : Int) < (j : Int)) := by omega
        clear hlt2
        go_wp2_with fail
        go_ret
        exact ⟨HFR.out, .inr ⟨(firstK_none _).2 HTRY.out, rfl, HT.out⟩⟩
end Go.Proofs.Ytedjhnedkghhoaa
/- What impl.PackTrees answers. No condition. -/
namespace Go.Proofs.Ytedjhnedkghhoaa
open Go.RowKit

theorem trees_nil {W : World} {base g K : Nat} (h : W.ownsRow base 25 1 (.slice (some ⟨g, 0, none⟩) K K) K (List.replicate K (.slice none 0 0))) (B : Nat) : TrW W B g K (List.replicate K []) (fun _ => (none, 0)) := by
  have h1 : headsT (List.replicate K []) (fun _ => (none, 0)) = List.replicate K (.slice none 0 0) := by
    refine List.ext_getElem? fun i => ?_
    by_cases c : i < K
    · rw [headsT_get _ _ i (by rw [List.length_replicate]; exact c), rep_get, List.getElem?_replicate, if_pos c]
      rfl
    · rw [List.getElem?_eq_none (by rw [headsT_len, List.length_replicate]; omega), List.getElem?_eq_none (by rw [List.length_replicate]; omega)]
  refine ⟨?_, fun i _ => .inl ⟨rfl, rfl, rep_get K i⟩, fun _ _ _ _ _ a e => by cases e⟩
  rw [h1, List.length_replicate]
  exact own_rebase h (Nat.zero_le _)

set_option maxHeartbeats 8000000 in
set_option maxRecDepth 100000 in
theorem implPack (p k : Int) (l : List (Int × Int)) (A : Option Addr) (cap : Nat) (w : World) (hl : BarsAt w w.heap.size A l) (hn : l.length ≤ 1048576) :
    Calls Try.prog 21 #[.agg #[.int .i64 p, .slice A l.length cap], .int .i64 k] w (RowsBO w (packL p k l) (packB p k l)) := by
  by_cases hyes : tightB p k k l = true ∧ p ≤ 5
  case neg =>
    have HN := Lib.hid (pack_none (packV_no hyes))
    by_cases hp5 : p ≤ 5
    case neg =>
      have hp6 : 5 < p := by omega
      have hp7 : decide (5 < p) = true := decide_eq_true hp6
      clear hyes hp5
      have W0 := Lib.hid (Below.refl w.heap.size w)
      have HB_0 := Lib.hid (bars_in hl)
      clear hl
      have Z1 := Lib.hid (within_alloc w (.cells #[.int .i64 p, (.slice A l.length cap)] 30)).size
      have W1 := Lib.hid (within_on W0.out (within_alloc w (.cells #[.int .i64 p, (.slice A l.length cap)] 30)) W0.out.size (.inr (Nat.le_refl _)))
      have HB_1 := Lib.hid (HB_0.out.within (within_alloc w (.cells #[.int .i64 p, (.slice A l.length cap)] 30)) (by omega))
      have Y1 := Lib.hid (show (w.alloc (.cells #[.int .i64 p, (.slice A l.length cap)] 30)).heap.size = w.heap.size + 1 by simp)
      have hnew := box_new w p (.slice A l.length cap) 30
      have BX_1 := Lib.hid hnew
      clear hnew
      go_enter Try.func21, Try.ntmps21
      obtain ⟨g0_0, g0_1, g0_2⟩ := BX_1.out
      go_wp2_with fail
      clear g0_0 g0_1 g0_2
      generalize (w.alloc (.cells #[.int .i64 p, (.slice A l.length cap)] 30)) = w1 at *
      refine bodyPost_ret (v := .tuple #[.slice none 0 0, .bool false]) ?_ rfl ⟨_, _, by rw [HN.out.1, HN.out.2]; rfl, ⟨Nat.le_refl _, fun h => by rw [HN.out.1] at h; exact absurd h (by simp)⟩, W1.out⟩
      simp [results, Try.results21, go_sem]
    case pos =>
      have hp6 : ¬ 5 < p := by omega
      have hp7 : decide (5 < p) = false := decide_eq_false hp6
      have ht : tightB p k k l = false := by
        cases e : tightB p k k l with
        | false => rfl
        | true => exact absurd ⟨e, hp5⟩ hyes
      clear hyes
      have W0 := Lib.hid (Below.refl w.heap.size w)
      have HB_0 := Lib.hid (bars_in hl)
      clear hl
      have Z1 := Lib.hid (within_alloc w (.cells #[.int .i64 p, (.slice A l.length cap)] 30)).size
      have W1 := Lib.hid (within_on W0.out (within_alloc w (.cells #[.int .i64 p, (.slice A l.length cap)] 30)) W0.out.size (.inr (Nat.le_refl _)))
      have HB_1 := Lib.hid (HB_0.out.within (within_alloc w (.cells #[.int .i64 p, (.slice A l.length cap)] 30)) (by omega))
      have Y1 := Lib.hid (show (w.alloc (.cells #[.int .i64 p, (.slice A l.length cap)] 30)).heap.size = w.heap.size + 1 by simp)
      have hnew := box_new w p (.slice A l.length cap) 30
      have BX_1 := Lib.hid hnew
      clear hnew
      go_enter Try.func21, Try.ntmps21
      obtain ⟨g0_0, g0_1, g0_2⟩ := BX_1.out
      go_wp2_with fail
      clear g0_0 g0_1 g0_2
      generalize (w.alloc (.cells #[.int .i64 p, (.slice A l.length cap)] 30)) = w1 at *
      have HIT := Lib.hid (fun (W : World) (h : Below w1.heap.size w1 W) => show Calls Try.prog 91 #[.agg #[.int .i64 p, .slice A l.length cap], .int .i64 k, .int .i64 k] W fun e w' => e = .returned (.bool false) ∧ Below W.heap.size W w' from by have q := implTight p k k l A cap W (HB_1.out.within (within_of h) (.inr (Nat.zero_le _))).at hn; rw [ht] at q; exact q)
      clear ht
      refine (HIT.out _ (Below.refl _ _)).mono ?_
      rintro e w2 ⟨rfl, hb⟩
      have Z2 := Lib.hid (within_of hb).size
      have W2 := Lib.hid (within_on W1.out (within_of hb) W1.out.size (.inr (Nat.le_refl _)))
      have HB_2 := Lib.hid (HB_1.out.within (within_of hb) (by omega))
      have BX_2 := Lib.hid (BX_1.out.within (within_of hb) (by omega))
      clear hb
      go_wp2_with fail
      refine bodyPost_ret (v := .tuple #[.slice none 0 0, .bool false]) ?_ rfl ⟨_, _, by rw [HN.out.1, HN.out.2]; rfl, ⟨Nat.le_refl _, fun h => by rw [HN.out.1] at h; exact absurd h (by simp)⟩, W2.out⟩
      simp [results, Try.results21, go_sem]
  case pos =>
    obtain ⟨hg, hp, hll, hk, hl1⟩ := tight_facts hyes.1
    have ht := hyes.1
    have hp6 : ¬ 5 < p := by have := hyes.2; omega
    have hp7 : decide (5 < p) = false := decide_eq_false hp6
    obtain ⟨K, rfl⟩ : ∃ K : Nat, k = (K : Int) := ⟨k.toNat, by omega⟩
    have HV := Lib.hid (packV_yes hyes)
    have HKB := Lib.hid (show 1 ≤ K ∧ K ≤ 3 by omega)
    clear hl1 hyes hg hp hll
    have W0 := Lib.hid (Below.refl w.heap.size w)
    have HB_0 := Lib.hid (bars_in hl)
    clear hl
    have Z1 := Lib.hid (within_alloc w (.cells #[.int .i64 p, (.slice A l.length cap)] 30)).size
    have W1 := Lib.hid (within_on W0.out (within_alloc w (.cells #[.int .i64 p, (.slice A l.length cap)] 30)) W0.out.size (.inr (Nat.le_refl _)))
    have HB_1 := Lib.hid (HB_0.out.within (within_alloc w (.cells #[.int .i64 p, (.slice A l.length cap)] 30)) (by omega))
    have Y1 := Lib.hid (show (w.alloc (.cells #[.int .i64 p, (.slice A l.length cap)] 30)).heap.size = w.heap.size + 1 by simp)
    have hnew := box_new w p (.slice A l.length cap) 30
    have BX_1 := Lib.hid hnew
    clear hnew
    go_enter Try.func21, Try.ntmps21
    obtain ⟨g0_0, g0_1, g0_2⟩ := BX_1.out
    go_wp2_with fail
    clear g0_0 g0_1 g0_2
    generalize (w.alloc (.cells #[.int .i64 p, (.slice A l.length cap)] 30)) = w1 at *
    have HIT := Lib.hid (fun (W : World) (h : Below w1.heap.size w1 W) => show Calls Try.prog 91 #[.agg #[.int .i64 p, .slice A l.length cap], .int .i64 (K : Int), .int .i64 (K : Int)] W fun e w' => e = .returned (.bool true) ∧ Below W.heap.size W w' from by have q := implTight p (K : Int) (K : Int) l A cap W (HB_1.out.within (within_of h) (.inr (Nat.zero_le _))).at hn; rw [ht] at q; exact q)
    clear ht
    refine (HIT.out _ (Below.refl _ _)).mono ?_
    rintro e w2 ⟨rfl, hb⟩
    have Z2 := Lib.hid (within_of hb).size
    have W2 := Lib.hid (within_on W1.out (within_of hb) W1.out.size (.inr (Nat.le_refl _)))
    have HB_2 := Lib.hid (HB_1.out.within (within_of hb) (by omega))
    have BX_2 := Lib.hid (BX_1.out.within (within_of hb) (by omega))
    clear hb
    have hmf : ∀ (fn : Fn) (first cap : Array Value) (w : World), (Instr.makeFunc fn first cap).run Try.prog w = .ok (.func fn first cap) w := fun _ _ _ _ => rfl
    go_wp2_with (at_make; refine wpList_mkn _ rfl _ _ 36 rfl w2.heap.size 25 (.slice none 0 0) 24 Try.underlying36 infoInts rfl _ _ _ _ K rfl rfl rfl rfl (by omega) (by unfold maxLen; omega) (Nat.le_refl _) ?_; intro w3 hown0 hb0; have HOW := Lib.hid hown0; have HB3 := Lib.hid hb0; clear hown0 hb0)
    have hn1 := new_below w3 (.cells #[.slice (some ⟨w2.heap.size, 0, none⟩) K K] 36)
    have hs1 : (w3.alloc (.cells #[.slice (some ⟨w2.heap.size, 0, none⟩) K K] 36)).heap.size = w3.heap.size + 1 := by simp
    obtain ⟨W5, hW5⟩ : ∃ W5, ((w3.alloc (.cells #[.slice (some ⟨w2.heap.size, 0, none⟩) K K] 36)).alloc (.cells #[.func (.func 92) #[] #[.pointer (some ⟨w.heap.size, 0, none⟩), .pointer (some ⟨w3.heap.size, 0, none⟩), .pointer (some ⟨w3.heap.size + 1, 0, none⟩)]] 97)) = W5 := ⟨_, rfl⟩
    have hn2 := new_below (w3.alloc (.cells #[.slice (some ⟨w2.heap.size, 0, none⟩) K K] 36)) (.cells #[.func (.func 92) #[] #[.pointer (some ⟨w.heap.size, 0, none⟩), .pointer (some ⟨w3.heap.size, 0, none⟩), .pointer (some ⟨w3.heap.size + 1, 0, none⟩)]] 97)
    have hs2 : W5.heap.size = w3.heap.size + 2 := by rw [← hW5]; simp
    have hfx : W5.cell? ⟨w3.heap.size + 1, 0, none⟩ = some (.func (.func 92) #[] #[.pointer (some ⟨w.heap.size, 0, none⟩), .pointer (some ⟨w3.heap.size, 0, none⟩), .pointer (some ⟨w3.heap.size + 1, 0, none⟩)]) := by rw [← hW5, World.cell?_alloc_at _ _ _ _ (by simp)]; rfl
    have htx1 : (w3.alloc (.cells #[.slice (some ⟨w2.heap.size, 0, none⟩) K K] 36)).cell? ⟨w3.heap.size, 0, none⟩ = some (.slice (some ⟨w2.heap.size, 0, none⟩) K K) := by rw [World.cell?_alloc_at _ _ _ _ rfl]; rfl
    rw [hW5] at hn2 ⊢
    clear hW5
    have htx := (hn2.cell (p := ⟨w3.heap.size, 0, none⟩) (show w3.heap.size < _ by omega)).trans htx1
    have h5 := below_on hn1 hn2 hn1.size
    clear hn1 hn2 hs1 htx1
    have hg3 := (HOW.out.lt w2.heap.size rfl).2
    have hgb := BX_2.out.1
    have HT := Lib.hid ((trees_nil HOW.out (w3.heap.size + 2)).new h5)
    have HGI := Lib.hid (show GiW p l A cap w.heap.size w3.heap.size (w3.heap.size + 1) w2.heap.size w2.heap.size K K W5 from ⟨(BX_2.out.kept HB3.out).kept h5, htx, hfx, ((bars_in HB_2.out.at).within (within_of HB3.out) (.inr (Nat.zero_le _))).within (within_of h5) (.inr (Nat.zero_le _)), by omega⟩)
    have HW5 := Lib.hid (below_on (below_on W2.out HB3.out W2.out.size) h5 (below_on W2.out HB3.out W2.out.size).size)
    have HSZ := Lib.hid (And.intro hg3 (And.intro hgb hs2))
    have hput := give_c p l A cap K K w2.heap.size w.heap.size w3.heap.size (w3.heap.size + 1) w2.heap.size (w3.heap.size + 2) hn (by omega) (by omega) (by omega) (by omega) (by omega) l.length (Nat.le_refl _) 0 (List.replicate K []) (fun _ => (none, 0)) W5 (by simp) List.length_replicate (fun i _ => by rw [rep_get]; simp; omega) HGI.out HT.out (by omega)
    have HPUT := Lib.hid hput
    clear hput htx hfx h5 hg3 hgb hs2
    refine HPUT.out.mono ?_
    rintro e w6 ⟨hf, ⟨R, S', hR, rfl, ht6⟩ | ⟨hR, rfl, ht6⟩⟩
    · have HF := Lib.hid hf
      have HG6 := Lib.hid (HGI.out.keep (fun b x1 x2 x3 => hf.stand HT.out List.length_replicate x1 x2 x3) hf.size hf.os hf.tape hf.output (by have := HSZ.out; omega) (by have := HSZ.out; omega) (by have := HSZ.out; omega) (by have := HSZ.out; omega))
      have HB6 := Lib.hid (show Below w.heap.size W5 w6 from ⟨hf.os, hf.tape, hf.output, hf.size, fun b hb => hf.stand HT.out List.length_replicate (by have := HSZ.out; omega) (by have := HSZ.out; omega) (by have := HSZ.out; omega)⟩)
      rw [← HV.out] at hR
      have HN := Lib.hid (pack_some hR)
      have HRL := Lib.hid (give_len (HV.out ▸ hR)).1
      have HT6 := Lib.hid ht6
      have q0 := HG6.out.tx
      clear hf ht6 hR
      go_wp2_with fail
      refine bodyPost_ret (v := .tuple #[.slice (some ⟨w2.heap.size, 0, none⟩) K K, .bool true]) ?_ rfl ⟨_, _, by rw [HN.out.1, HN.out.2, HRL.out], by rw [HN.out.1]; exact ((HT6.out.low (by have := HSZ.out; omega)).own (Nat.le_refl _)).lower (by have := HSZ.out; omega), HW5.out.trans HB6.out⟩
      simp [results, Try.results21, go_sem]
    · have HF := Lib.hid hf
      have HG6 := Lib.hid (HGI.out.keep (fun b x1 x2 x3 => hf.stand HT.out List.length_replicate x1 x2 x3) hf.size hf.os hf.tape hf.output (by have := HSZ.out; omega) (by have := HSZ.out; omega) (by have := HSZ.out; omega) (by have := HSZ.out; omega))
      have HB6 := Lib.hid (show Below w.heap.size W5 w6 from ⟨hf.os, hf.tape, hf.output, hf.size, fun b hb => hf.stand HT.out List.length_replicate (by have := HSZ.out; omega) (by have := HSZ.out; omega) (by have := HSZ.out; omega)⟩)
      rw [← HV.out] at hR
      have HN := Lib.hid (pack_none hR)
      clear hf ht6 hR
      go_wp2_with fail
      refine bodyPost_ret (v := .tuple #[.slice none 0 0, .bool false]) ?_ rfl ⟨_, _, by rw [HN.out.1, HN.out.2]; rfl, ⟨Nat.le_refl _, fun h => by rw [HN.out.1] at h; exact absurd h (by simp)⟩, HW5.out.trans HB6.out⟩
      simp [results, Try.results21, go_sem]
end Go.Proofs.Ytedjhnedkghhoaa
/- The law FnExactPackTrees returns true at every input. No condition. -/
namespace Go.Proofs.Ytedjhnedkghhoaa
open Go.RowKit
theorem packL_facts (p k : Int) (l : List (Int × Int)) : (packL p k l).length ≤ 3 ∧ ∀ j, j < (packL p k l).length → ((packL p k l).getD j []).length ≤ 24 := by
  cases e : packV p k l with
  | none => rw [(pack_none e).1]; exact ⟨by simp, fun j hj => absurd hj (by simp)⟩
  | some R =>
    rw [(pack_some e).1]
    by_cases hy : tightB p k k l = true ∧ p ≤ 5
    case neg => rw [packV_no hy] at e; cases e
    case pos =>
      obtain ⟨_, _, hl, hk, _⟩ := tight_facts hy.1
      obtain ⟨K, rfl⟩ : ∃ K : Nat, k = (K : Int) := ⟨k.toNat, by omega⟩
      rw [packV_yes hy] at e
      obtain ⟨h1, h2⟩ := give_len e
      exact ⟨by omega, fun j hj => Nat.le_trans (h2 j (by omega)) hl⟩
theorem packL_len (p k : Int) (l : List (Int × Int)) : (packL p k l).length ≤ 3 := (packL_facts p k l).1
theorem packL_row (p k : Int) (l : List (Int × Int)) (j : Nat) (h : j < (packL p k l).length) : ((packL p k l).getD j []).length ≤ 24 := (packL_facts p k l).2 j h
theorem packL_tot (p k : Int) (l : List (Int × Int)) : (1 : Int) + (tot (packL p k l) (packL p k l).length : Int) ≤ 10000000 := by
  have h1 := tot_bound (packL p k l) 24 (packL p k l).length fun j hj => packL_row p k l j hj
  have h2 := packL_len p k l
  omega

set_option maxHeartbeats 2000000 in
set_option maxRecDepth 100000 in
theorem lawPackTrees (q : Int) (A : Option Addr) (cap : Nat) (l : List (Int × Int)) (a1 : Int) (w : World) (hl : l.length ≤ maxLen) (hb : BarsAt w w.heap.size A l) (_w1 : (Lit.int .i64 a1).wf = true) :
    Calls Try.prog 5 #[.agg #[.int .i64 q, .slice A l.length cap], .int .i64 a1] w fun e w' => e = .returned (.bool true) ∧ Below w.heap.size w w' := by
  have HB_0 := Lib.hid (bars_in hb)
  clear hb
  have HSP := fun (B : Option Addr) (cb : Nat) (W : World) (h : BarsAt W W.heap.size B l) (h2 : l.length ≤ 1048576) => specPack q a1 l B cb W h h2
  have HIP := fun (B : Option Addr) (cb : Nat) (W : World) (h : BarsAt W W.heap.size B l) (h2 : l.length ≤ 1048576) => implPack q a1 l B cb W h h2
  obtain ⟨rb, hrb⟩ : ∃ rb, packB q a1 l = rb := ⟨_, rfl⟩
  rw [hrb] at HSP HIP
  clear hrb
  by_cases hn : l.length ≤ 1048576
  · have W0 := Lib.hid (Below.refl w.heap.size w)
    have hz : (packL q a1 l).length ≤ 1048576 := (Nat.le_trans (packL_len q a1 l) (by omega))
    have hrr : ∀ k, k < (packL q a1 l).length → ((packL q a1 l).getD k []).length ≤ 1048576 := (fun k hk => Nat.le_trans (packL_row q a1 l k hk) (by omega))
    have htt : (1 : Int) + (tot (packL q a1 l) (packL q a1 l).length : Int) ≤ 10000000 := (packL_tot q a1 l)
    have HRR := Lib.hid hrr
    clear hrr
    have hal := new_below w (.cells #[.int .i64 q, .slice A l.length cap] 24)
    have Z1 := Lib.hid (within_of hal).size
    have W1 := Lib.hid (within_on W0.out (within_of hal) W0.out.size (.inr (Nat.le_refl _)))
    have HB_1 := Lib.hid (HB_0.out.within (within_of hal) (by omega))
    clear hal
    have hsz : (w.alloc (.cells #[.int .i64 q, .slice A l.length cap] 24)).heap.size = w.heap.size + 1 := by simp
    have Y1 := Lib.hid hsz
    clear hsz
    have BX_1 := Lib.hid (box_new w q (.slice A l.length cap) 24)
    go_enter Try.func5, Try.ntmps5
    go_wp2_with fail
    generalize (w.alloc (.cells #[.int .i64 q, .slice A l.length cap] 24)) = w1 at *
    refine (szGraph_c q A l.length cap 1048576 _ (by omega) (by omega)).mono ?_
    rintro e w2 ⟨rfl, hb⟩
    have Z2 := Lib.hid (within_of hb).size
    have W2 := Lib.hid (within_on W1.out (within_of hb) W1.out.size (.inr (Nat.le_refl _)))
    have HB_2 := Lib.hid (HB_1.out.within (within_of hb) (by omega))
    have BX_2 := Lib.hid (BX_1.out.within (within_of hb) (by omega))
    clear hb
    have hnn : ¬ (1048576 : Int) - (l.length : Int) < 0 := by omega
    obtain ⟨g01, g02, g03⟩ := BX_2.out
    go_wp2_with fail
    clear g01 g02 g03
    refine (toGraph_c q l A cap _ HB_2.out.at hn).mono ?_
    rintro e w3 ⟨g0, rfl, ho, hb⟩
    have Z3 := Lib.hid (within_of hb).size
    have W3 := Lib.hid (within_on W2.out (within_of hb) W2.out.size (.inr (Nat.le_refl _)))
    have HB_3 := Lib.hid (HB_2.out.within (within_of hb) (by omega))
    have BX_3 := Lib.hid (BX_2.out.within (within_of hb) (by omega))
    have SG_3 := Lib.hid ((own_in ho).bars)
    clear ho hb
    go_wp2_with fail
    refine (HSP (some ⟨g0, 0, none⟩) l.length _ SG_3.out.at hn).mono ?_
    rintro e w4 ⟨AS, cs, rfl, hs, hb⟩
    have Z4 := Lib.hid (within_of hb).size
    have W4 := Lib.hid (within_on W3.out (within_of hb) W3.out.size (.inr (Nat.le_refl _)))
    have HB_4 := Lib.hid (HB_3.out.within (within_of hb) (by omega))
    have BX_4 := Lib.hid (BX_3.out.within (within_of hb) (by omega))
    have SG_4 := Lib.hid (SG_3.out.within (within_of hb) (by omega))
    have SR_4 := Lib.hid (hs)
    clear hs hb
    obtain ⟨g01, g02, g03⟩ := BX_4.out
    go_wp2_with fail
    clear g01 g02 g03
    refine (toGraph_c q l A cap _ HB_4.out.at hn).mono ?_
    rintro e w5 ⟨x0, rfl, ho, hb⟩
    have Z5 := Lib.hid (within_of hb).size
    have W5 := Lib.hid (within_on W4.out (within_of hb) W4.out.size (.inr (Nat.le_refl _)))
    have HB_5 := Lib.hid (HB_4.out.within (within_of hb) (by omega))
    have BX_5 := Lib.hid (BX_4.out.within (within_of hb) (by omega))
    have SG_5 := Lib.hid (SG_4.out.within (within_of hb) (by omega))
    have SR_5 := Lib.hid (SR_4.out.within (within_of hb) (by omega))
    have SX_5 := Lib.hid (own_in ho)
    clear ho hb
    go_wp2_with fail
    have hal := new_below w5 (.cells #[.int .i64 q, .slice (some ⟨x0, 0, none⟩) l.length l.length] 30)
    have Z6 := Lib.hid (within_of hal).size
    have W6 := Lib.hid (within_on W5.out (within_of hal) W5.out.size (.inr (Nat.le_refl _)))
    have HB_6 := Lib.hid (HB_5.out.within (within_of hal) (by omega))
    have BX_6 := Lib.hid (BX_5.out.within (within_of hal) (by omega))
    have SG_6 := Lib.hid (SG_5.out.within (within_of hal) (by omega))
    have SR_6 := Lib.hid (SR_5.out.within (within_of hal) (by omega))
    have SX_6 := Lib.hid (SX_5.out.within (within_of hal) (by omega))
    clear hal
    have hsz : (w5.alloc (.cells #[.int .i64 q, .slice (some ⟨x0, 0, none⟩) l.length l.length] 30)).heap.size = w5.heap.size + 1 := by simp
    have Y6 := Lib.hid hsz
    clear hsz
    have XX_6 := Lib.hid (box_new w5 q (.slice (some ⟨x0, 0, none⟩) l.length l.length) 30)
    generalize (w5.alloc (.cells #[.int .i64 q, .slice (some ⟨x0, 0, none⟩) l.length l.length] 30)) = w6 at *
    refine (HIP (some ⟨x0, 0, none⟩) l.length _ SX_6.out.bars.at hn).mono ?_
    rintro e w7 ⟨AG, cg, rfl, ho, hb⟩
    have Z7 := Lib.hid (within_of hb).size
    have W7 := Lib.hid (within_on W6.out (within_of hb) W6.out.size (.inr (Nat.le_refl _)))
    have HB_7 := Lib.hid (HB_6.out.within (within_of hb) (by omega))
    have BX_7 := Lib.hid (BX_6.out.within (within_of hb) (by omega))
    have SG_7 := Lib.hid (SG_6.out.within (within_of hb) (by omega))
    have SR_7 := Lib.hid (SR_6.out.within (within_of hb) (by omega))
    have SX_7 := Lib.hid (SX_6.out.within (within_of hb) (by omega))
    have XX_7 := Lib.hid (XX_6.out.within (within_of hb) (by omega))
    have SO_7 := Lib.hid (ho)
    clear ho hb
    go_wp2_with fail
    refine (eqRows_c (packL q a1 l) AG AS cg cs _ _ _ _ _ SO_7.out.reads SR_7.out hz HRR.out).mono ?_
    rintro e w8 ⟨rfl, hb⟩
    have Z8 := Lib.hid (within_of hb).size
    have W8 := Lib.hid (within_on W7.out (within_of hb) W7.out.size (.inr (Nat.le_refl _)))
    have HB_8 := Lib.hid (HB_7.out.within (within_of hb) (by omega))
    have BX_8 := Lib.hid (BX_7.out.within (within_of hb) (by omega))
    have SG_8 := Lib.hid (SG_7.out.within (within_of hb) (by omega))
    have SR_8 := Lib.hid (SR_7.out.within (within_of hb) (by omega))
    have SX_8 := Lib.hid (SX_7.out.within (within_of hb) (by omega))
    have XX_8 := Lib.hid (XX_7.out.within (within_of hb) (by omega))
    have SO_8 := Lib.hid (SO_7.out.within (within_of hb) (by omega))
    clear hb
    have kk0 := box2 BX_8.out XX_8.out
    have kk := box2 BX_8.out XX_8.out
    have hdr : Below w8.heap.size w8 w8.drew := (Below.refl _ _).drew
    have Z9 := Lib.hid (within_of hdr).size
    have W9 := Lib.hid (within_on W8.out (within_of hdr) W8.out.size (.inr (Nat.le_refl _)))
    have HB_9 := Lib.hid (HB_8.out.within (within_of hdr) (by omega))
    have BX_9 := Lib.hid (BX_8.out.within (within_of hdr) (by omega))
    have SG_9 := Lib.hid (SG_8.out.within (within_of hdr) (by omega))
    have SR_9 := Lib.hid (SR_8.out.within (within_of hdr) (by omega))
    have SX_9 := Lib.hid (SX_8.out.within (within_of hdr) (by omega))
    have XX_9 := Lib.hid (XX_8.out.within (within_of hdr) (by omega))
    have SO_9 := Lib.hid (SO_8.out.within (within_of hdr) (by omega))
    clear hdr
    go_wp2_with fail
    go_region_held3 (fun W' => W'.cell? ⟨w.heap.size, 0, none⟩ = some (.int .i64 q) ∧ W'.cell? ⟨w.heap.size, 1, none⟩ = some ((.slice A l.length cap)) ∧ W'.cell? ⟨w5.heap.size, 0, none⟩ = some (.int .i64 q) ∧ W'.cell? ⟨w5.heap.size, 1, none⟩ = some ((.slice (some ⟨x0, 0, none⟩) l.length l.length)))
      (first | exact kk | exact box2 BX_10.out XX_10.out | exact box2 BX_11.out XX_11.out | fail)
      (first
        | (go_at_call 13; refine (toGraph_c q l A cap _ ?_ hn).mono ?_; (exact HB_9.out.at); rintro e w10 ⟨y0, rfl, ho, hb⟩; have Z10 := Lib.hid (within_of hb).size; have W10 := Lib.hid (within_on W9.out (within_of hb) W9.out.size (.inr (Nat.le_refl _))); have HB_10 := Lib.hid (HB_9.out.within (within_of hb) (by omega)); have BX_10 := Lib.hid (BX_9.out.within (within_of hb) (by omega)); have SG_10 := Lib.hid (SG_9.out.within (within_of hb) (by omega)); have SR_10 := Lib.hid (SR_9.out.within (within_of hb) (by omega)); have SX_10 := Lib.hid (SX_9.out.within (within_of hb) (by omega)); have XX_10 := Lib.hid (XX_9.out.within (within_of hb) (by omega)); have SO_10 := Lib.hid (SO_9.out.within (within_of hb) (by omega)); have YY := Lib.hid (own_bars ho); clear ho hb)
        | (go_at_call 16; refine (eqGraph_c q l _ _ l.length l.length _ ?_ ?_ hn).mono ?_; (exact SX_10.out.bars.at); (exact YY.out); rintro e w11 ⟨rfl, hb⟩; have Z11 := Lib.hid (within_of hb).size; have W11 := Lib.hid (within_on W10.out (within_of hb) W10.out.size (.inr (Nat.le_refl _))); have HB_11 := Lib.hid (HB_10.out.within (within_of hb) (by omega)); have BX_11 := Lib.hid (BX_10.out.within (within_of hb) (by omega)); have SG_11 := Lib.hid (SG_10.out.within (within_of hb) (by omega)); have SR_11 := Lib.hid (SR_10.out.within (within_of hb) (by omega)); have SX_11 := Lib.hid (SX_10.out.within (within_of hb) (by omega)); have XX_11 := Lib.hid (XX_10.out.within (within_of hb) (by omega)); have SO_11 := Lib.hid (SO_10.out.within (within_of hb) (by omega)); clear hb))
    obtain ⟨g01, g02, g03⟩ := XX_11.out
    go_wp2_with fail
    clear g01 g02 g03
    refine (markGraph_o q (some ⟨x0, 0, none⟩) l.length l 1 w4.heap.size w5.heap.size _ SX_11.out hn (by omega) (by omega)).mono ?_
    rintro e w12 ⟨rfl, hin, hox⟩
    have Z12 := Lib.hid (hin).size
    have W12 := Lib.hid (within_on W11.out (hin) W11.out.size (by have := W11.out.size; have := Z1.out; have := Z2.out; have := Z3.out; have := Z4.out; have := Z5.out; have := Z6.out; have := Z7.out; have := Z8.out; have := Z9.out; have := Z10.out; have := Z11.out; have := Z12.out; have := Y1.out; have := Y6.out; omega))
    have HB_12 := Lib.hid (HB_11.out.within (hin) (by have := Z1.out; have := Z2.out; have := Z3.out; have := Z4.out; have := Z5.out; have := Z6.out; have := Z7.out; have := Z8.out; have := Z9.out; have := Z10.out; have := Z11.out; have := Z12.out; have := Y1.out; have := Y6.out; omega))
    have BX_12 := Lib.hid (BX_11.out.within (hin) (by have := Z1.out; have := Z2.out; have := Z3.out; have := Z4.out; have := Z5.out; have := Z6.out; have := Z7.out; have := Z8.out; have := Z9.out; have := Z10.out; have := Z11.out; have := Z12.out; have := Y1.out; have := Y6.out; omega))
    have SG_12 := Lib.hid (SG_11.out.within (hin) (by have := Z1.out; have := Z2.out; have := Z3.out; have := Z4.out; have := Z5.out; have := Z6.out; have := Z7.out; have := Z8.out; have := Z9.out; have := Z10.out; have := Z11.out; have := Z12.out; have := Y1.out; have := Y6.out; omega))
    have SR_12 := Lib.hid (SR_11.out.within (hin) (by have := Z1.out; have := Z2.out; have := Z3.out; have := Z4.out; have := Z5.out; have := Z6.out; have := Z7.out; have := Z8.out; have := Z9.out; have := Z10.out; have := Z11.out; have := Z12.out; have := Y1.out; have := Y6.out; omega))
    have XX_12 := Lib.hid (XX_11.out.within (hin) (by have := Z1.out; have := Z2.out; have := Z3.out; have := Z4.out; have := Z5.out; have := Z6.out; have := Z7.out; have := Z8.out; have := Z9.out; have := Z10.out; have := Z11.out; have := Z12.out; have := Y1.out; have := Y6.out; omega))
    have SO_12 := Lib.hid (SO_11.out.within (hin) (by have := Z1.out; have := Z2.out; have := Z3.out; have := Z4.out; have := Z5.out; have := Z6.out; have := Z7.out; have := Z8.out; have := Z9.out; have := Z10.out; have := Z11.out; have := Z12.out; have := Y1.out; have := Y6.out; omega))
    clear hox hin
    have hk1 : ¬ (1 : Int) + 2 * (l.length : Int) < 0 := by omega
    go_wp2_with fail
    refine (eqRows_c (packL q a1 l) AG AS cg cs _ _ _ _ _ SO_12.out.reads SR_12.out hz HRR.out).mono ?_
    rintro e w13 ⟨rfl, hb⟩
    have Z13 := Lib.hid (within_of hb).size
    have W13 := Lib.hid (within_on W12.out (within_of hb) W12.out.size (.inr (Nat.le_refl _)))
    have HB_13 := Lib.hid (HB_12.out.within (within_of hb) (by omega))
    have BX_13 := Lib.hid (BX_12.out.within (within_of hb) (by omega))
    have SG_13 := Lib.hid (SG_12.out.within (within_of hb) (by omega))
    have SR_13 := Lib.hid (SR_12.out.within (within_of hb) (by omega))
    have XX_13 := Lib.hid (XX_12.out.within (within_of hb) (by omega))
    have SO_13 := Lib.hid (SO_12.out.within (within_of hb) (by omega))
    clear hb
    go_wp2_with fail
    refine (markRows_c (packL q a1 l) AG cg w6.heap.size w7.heap.size 1 _ SO_13.out hz HRR.out (by omega) htt).mono ?_
    rintro e w14 ⟨rfl, hin, hog⟩
    have Z14 := Lib.hid (hin).size
    have W14 := Lib.hid (within_on W13.out (hin) W13.out.size (by have := W13.out.size; have := Z1.out; have := Z2.out; have := Z3.out; have := Z4.out; have := Z5.out; have := Z6.out; have := Z7.out; have := Z8.out; have := Z9.out; have := Z10.out; have := Z11.out; have := Z12.out; have := Z13.out; have := Z14.out; have := Y1.out; have := Y6.out; omega))
    have HB_14 := Lib.hid (HB_13.out.within (hin) (by have := Z1.out; have := Z2.out; have := Z3.out; have := Z4.out; have := Z5.out; have := Z6.out; have := Z7.out; have := Z8.out; have := Z9.out; have := Z10.out; have := Z11.out; have := Z12.out; have := Z13.out; have := Z14.out; have := Y1.out; have := Y6.out; omega))
    have BX_14 := Lib.hid (BX_13.out.within (hin) (by have := Z1.out; have := Z2.out; have := Z3.out; have := Z4.out; have := Z5.out; have := Z6.out; have := Z7.out; have := Z8.out; have := Z9.out; have := Z10.out; have := Z11.out; have := Z12.out; have := Z13.out; have := Z14.out; have := Y1.out; have := Y6.out; omega))
    have SG_14 := Lib.hid (SG_13.out.within (hin) (by have := Z1.out; have := Z2.out; have := Z3.out; have := Z4.out; have := Z5.out; have := Z6.out; have := Z7.out; have := Z8.out; have := Z9.out; have := Z10.out; have := Z11.out; have := Z12.out; have := Z13.out; have := Z14.out; have := Y1.out; have := Y6.out; omega))
    have SR_14 := Lib.hid (SR_13.out.within (hin) (by have := Z1.out; have := Z2.out; have := Z3.out; have := Z4.out; have := Z5.out; have := Z6.out; have := Z7.out; have := Z8.out; have := Z9.out; have := Z10.out; have := Z11.out; have := Z12.out; have := Z13.out; have := Z14.out; have := Y1.out; have := Y6.out; omega))
    have XX_14 := Lib.hid (XX_13.out.within (hin) (by have := Z1.out; have := Z2.out; have := Z3.out; have := Z4.out; have := Z5.out; have := Z6.out; have := Z7.out; have := Z8.out; have := Z9.out; have := Z10.out; have := Z11.out; have := Z12.out; have := Z13.out; have := Z14.out; have := Y1.out; have := Y6.out; omega))
    have SM_14 := Lib.hid (hog)
    clear hog hin
    have hk2 : ¬ (1 : Int) + (tot (packL q a1 l) (packL q a1 l).length : Int) < 0 := by omega
    go_wp2_with fail
    refine (heldRows_c (packL q a1 l) AG cg _ _ 1 _ SM_14.out.reads hz HRR.out (by omega) htt).mono ?_
    rintro e w15 ⟨rfl, hb⟩
    have Z15 := Lib.hid (within_of hb).size
    have W15 := Lib.hid (within_on W14.out (within_of hb) W14.out.size (.inr (Nat.le_refl _)))
    have HB_15 := Lib.hid (HB_14.out.within (within_of hb) (by omega))
    have BX_15 := Lib.hid (BX_14.out.within (within_of hb) (by omega))
    have SG_15 := Lib.hid (SG_14.out.within (within_of hb) (by omega))
    have SR_15 := Lib.hid (SR_14.out.within (within_of hb) (by omega))
    have XX_15 := Lib.hid (XX_14.out.within (within_of hb) (by omega))
    have SM_15 := Lib.hid (SM_14.out.within (within_of hb) (by omega))
    clear hb
    obtain ⟨g01, g02, g03⟩ := BX_15.out
    go_wp2_with fail
    clear g01 g02 g03
    refine (toGraph_c q l A cap _ HB_15.out.at hn).mono ?_
    rintro e w16 ⟨z0, rfl, ho, hb⟩
    have Z16 := Lib.hid (within_of hb).size
    have W16 := Lib.hid (within_on W15.out (within_of hb) W15.out.size (.inr (Nat.le_refl _)))
    have HB_16 := Lib.hid (HB_15.out.within (within_of hb) (by omega))
    have BX_16 := Lib.hid (BX_15.out.within (within_of hb) (by omega))
    have SG_16 := Lib.hid (SG_15.out.within (within_of hb) (by omega))
    have SR_16 := Lib.hid (SR_15.out.within (within_of hb) (by omega))
    have XX_16 := Lib.hid (XX_15.out.within (within_of hb) (by omega))
    have SM_16 := Lib.hid (SM_15.out.within (within_of hb) (by omega))
    have ST_16 := Lib.hid ((own_in ho).bars)
    clear ho hb
    go_wp2_with fail
    refine (HIP (some ⟨z0, 0, none⟩) l.length _ ST_16.out.at hn).mono ?_
    rintro e w17 ⟨AH, ch, rfl, ho, hb⟩
    have Z17 := Lib.hid (within_of hb).size
    have W17 := Lib.hid (within_on W16.out (within_of hb) W16.out.size (.inr (Nat.le_refl _)))
    have HB_17 := Lib.hid (HB_16.out.within (within_of hb) (by omega))
    have BX_17 := Lib.hid (BX_16.out.within (within_of hb) (by omega))
    have SG_17 := Lib.hid (SG_16.out.within (within_of hb) (by omega))
    have SR_17 := Lib.hid (SR_16.out.within (within_of hb) (by omega))
    have XX_17 := Lib.hid (XX_16.out.within (within_of hb) (by omega))
    have SM_17 := Lib.hid (SM_16.out.within (within_of hb) (by omega))
    have ST_17 := Lib.hid (ST_16.out.within (within_of hb) (by omega))
    have SH_17 := Lib.hid (ho.reads)
    clear ho hb
    go_wp2_with fail
    refine (eqRows_c (packL q a1 l) AH AS ch cs _ _ _ _ _ SH_17.out SR_17.out hz HRR.out).mono ?_
    rintro e w18 ⟨rfl, hb⟩
    have Z18 := Lib.hid (within_of hb).size
    have W18 := Lib.hid (within_on W17.out (within_of hb) W17.out.size (.inr (Nat.le_refl _)))
    have HB_18 := Lib.hid (HB_17.out.within (within_of hb) (by omega))
    have BX_18 := Lib.hid (BX_17.out.within (within_of hb) (by omega))
    have SG_18 := Lib.hid (SG_17.out.within (within_of hb) (by omega))
    have SR_18 := Lib.hid (SR_17.out.within (within_of hb) (by omega))
    have XX_18 := Lib.hid (XX_17.out.within (within_of hb) (by omega))
    have SM_18 := Lib.hid (SM_17.out.within (within_of hb) (by omega))
    have ST_18 := Lib.hid (ST_17.out.within (within_of hb) (by omega))
    have SH_18 := Lib.hid (SH_17.out.within (within_of hb) (by omega))
    clear hb
    go_wp2_with fail
    refine (heldRows_c (packL q a1 l) AG cg _ _ 1 _ SM_18.out.reads hz HRR.out (by omega) htt).mono ?_
    rintro e w19 ⟨rfl, hb⟩
    have Z19 := Lib.hid (within_of hb).size
    have W19 := Lib.hid (within_on W18.out (within_of hb) W18.out.size (.inr (Nat.le_refl _)))
    have HB_19 := Lib.hid (HB_18.out.within (within_of hb) (by omega))
    have BX_19 := Lib.hid (BX_18.out.within (within_of hb) (by omega))
    have SG_19 := Lib.hid (SG_18.out.within (within_of hb) (by omega))
    have SR_19 := Lib.hid (SR_18.out.within (within_of hb) (by omega))
    have XX_19 := Lib.hid (XX_18.out.within (within_of hb) (by omega))
    have SM_19 := Lib.hid (SM_18.out.within (within_of hb) (by omega))
    have ST_19 := Lib.hid (ST_18.out.within (within_of hb) (by omega))
    have SH_19 := Lib.hid (SH_18.out.within (within_of hb) (by omega))
    clear hb
    go_wp2_with fail
    go_ret
    exact ⟨rfl, W19.out⟩
  · have hx : (1048576 : Int) < (l.length : Int) := by omega
    have h63 : l.length ≤ 9223372036854775807 := by unfold maxLen at hl; omega
    have HA := Lib.hid (new_below w (.cells #[.int .i64 q, .slice A l.length cap] 24))
    go_enter Try.func5, Try.ntmps5
    go_wp2_with fail
    refine (szGraph_no q A l.length cap 1048576 _ h63 hx (by omega)).mono ?_
    rintro e w1 ⟨rfl, hb1⟩
    have W1 := Lib.hid (below_on HA.out hb1 HA.out.size)
    clear hb1
    go_wp2_with fail
    go_ret
    exact ⟨rfl, W1.out⟩
end Go.Proofs.Ytedjhnedkghhoaa
