/- Rows of ints of the call's own, the empty ones too: what an append onto them asks. No condition. -/
import Derived.Test.YtcfgljfpkhefmaaPebO
import Derived.Test.YtcfgljfpkhefmaaNewPI
namespace Go.Proofs.Ytcfgljfpkhefmaa
open Go.RowKit

/-- A row of the call's own in a block from lo to hi, or no block; an empty one too can be appended to. -/
def OwnR (W : World) (lo hi : Nat) (A : Option Addr) (cap : Nat) (zs : List Int) : Prop :=
  hi ≤ W.heap.size ∧ ((A = none ∧ cap = 0 ∧ zs = []) ∨ ∃ g, A = some ⟨g, 0, none⟩ ∧ lo ≤ g ∧ g < hi ∧ W.ownsRow lo 3 1 (.slice (some ⟨g, 0, none⟩) zs.length cap) zs.length (intCells zs))
theorem OwnR.within {W W' : World} {lo hi lo' hi' : Nat} {A : Option Addr} {cap : Nat} {zs : List Int} (h : OwnR W lo hi A cap zs) (hw : Within lo' hi' W W') (hd : hi ≤ lo' ∨ hi' ≤ lo) : OwnR W' lo hi A cap zs :=
  ⟨Nat.le_trans h.1 hw.size, by
    rcases h.2 with h2 | ⟨g, e, h1, h2, ho⟩
    · exact .inl h2
    · exact .inr ⟨g, e, h1, h2, own_block ho (hw.block g (Nat.lt_of_lt_of_le h2 h.1) (by omega))⟩⟩
theorem OwnR.ints {W : World} {lo hi : Nat} {A : Option Addr} {cap : Nat} {zs : List Int} (h : OwnR W lo hi A cap zs) : OwnInts W lo hi A cap zs :=
  ⟨h.1, by
    rcases h.2 with ⟨_, _, h2⟩ | h2
    · exact .inl h2
    · exact .inr h2⟩
/-- What an append onto the row asks. -/
theorem OwnR.row {W : World} {lo hi : Nat} {A : Option Addr} {cap : Nat} {zs : List Int} (h : OwnR W lo hi A cap zs) : W.ownsRow lo 3 1 (.slice A zs.length cap) zs.length (intCells zs) := by
  rcases h.2 with ⟨rfl, rfl, rfl⟩ | ⟨g, rfl, _, _, ho⟩
  · exact ⟨rfl, .inl ⟨rfl, rfl⟩⟩
  · exact ho
theorem own_r {w' : World} {base : Nat} {A : Option Addr} {cap : Nat} {zs : List Int} (h : w'.ownsRow base 3 1 (.slice A zs.length cap) zs.length (intCells zs)) : OwnR w' base w'.heap.size A cap zs := by
  rcases h.2 with ⟨h1, h0⟩ | ⟨g, cap', cur, h1, h2⟩
  · injection h1 with e1 e2 e3
    exact ⟨Nat.le_refl _, .inl ⟨e1, e3, List.eq_nil_of_length_eq_zero h0⟩⟩
  · cases h1
    exact ⟨Nat.le_refl _, .inr ⟨g, rfl, (h.lt g rfl).1, (h.lt g rfl).2, h⟩⟩
/-- A state of the call's own whose rows, the empty ones too, can be appended to. -/
def Own3R (W : World) (lo hi : Nat) (AF : Option Addr) (cF : Nat) (AT : Option Addr) (cT : Nat) (AZ : Option Addr) (cZ : Nat) (F T Z : List Int) : Prop :=
  ∃ f t z : Nat × Nat, OwnR W f.1 f.2 AF cF F ∧ OwnR W t.1 t.2 AT cT T ∧ OwnR W z.1 z.2 AZ cZ Z ∧ Dis f t ∧ Dis f z ∧ Dis t z ∧ (lo ≤ f.1 ∧ f.2 ≤ hi) ∧ (lo ≤ t.1 ∧ t.2 ≤ hi) ∧ (lo ≤ z.1 ∧ z.2 ≤ hi) ∧ hi ≤ W.heap.size
theorem Own3R.own3 {W : World} {lo hi : Nat} {AF AT AZ : Option Addr} {cF cT cZ : Nat} {F T Z : List Int} (h : Own3R W lo hi AF cF AT cT AZ cZ F T Z) : Own3 W lo hi AF cF AT cT AZ cZ F T Z := by
  obtain ⟨f, t, z, h1, h2, h3, r⟩ := h
  exact ⟨f, t, z, h1.ints, h2.ints, h3.ints, r⟩
theorem Own3R.within {W W' : World} {lo hi lo' hi' : Nat} {AF AT AZ : Option Addr} {cF cT cZ : Nat} {F T Z : List Int} (h : Own3R W lo hi AF cF AT cT AZ cZ F T Z) (hw : Within lo' hi' W W') (hd : hi ≤ lo' ∨ hi' ≤ lo) : Own3R W' lo hi AF cF AT cT AZ cZ F T Z := by
  obtain ⟨f, t, z, h1, h2, h3, d1, d2, d3, b1, b2, b3, h4⟩ := h
  exact ⟨f, t, z, h1.within hw (by omega), h2.within hw (by omega), h3.within hw (by omega), d1, d2, d3, b1, b2, b3, Nat.le_trans h4 hw.size⟩
/-- The answer: a row of the call's own that can be appended to. -/
def IntsR (w : World) (zs : List Int) (e : Ending) (w' : World) : Prop :=
  ∃ A cap, e = .returned (.slice A zs.length cap) ∧ OwnR w' w.heap.size w'.heap.size A cap zs ∧ Below w.heap.size w w'
/-- The answer: a state of the call's own that can be appended to. -/
def PebR (w : World) (F T Z : List Int) (e : Ending) (w' : World) : Prop :=
  ∃ AF cF AT cT AZ cZ, e = .returned (pebV AF F.length cF AT T.length cT AZ Z.length cZ) ∧ Own3R w' w.heap.size w'.heap.size AF cF AT cT AZ cZ F T Z ∧ Below w.heap.size w w'

set_option maxHeartbeats 2000000 in
set_option maxRecDepth 100000 in
theorem slCloneR (zs : List Int) (A : Option Addr) (cap lo hi : Nat) (w : World) (hz : IntsIn w lo hi A zs) (hn : zs.length ≤ 1048576) :
    Calls Try.prog 105 #[.slice A zs.length cap] w (IntsR w zs) := by
  obtain ⟨i0, hi0, hz0, hz1, hz2⟩ := info_parts infoInt
  have q : ∀ (w : World) (a : Option Addr) (n c n' c' : Nat), (binOp .eql 28 (.slice a n c) (.slice none n' c')).run Try.prog w = .ok (.bool a.isNone) w := fun w a n c n' c' => Go.Lib.run_eql_slice_nil w _ _ a n c n' c' Try.underlying28
  have hm := World.ownsRow_made (base := w.heap.size) (e := 3) (size := 1) w #[] 0 (Nat.le_refl _) (by unfold maxLen; omega) (by simp)
  have HM := Lib.hid hm
  clear hm
  cases A with
  | none =>
    have h0 : zs = [] := by
      refine List.eq_nil_of_length_eq_zero (Nat.eq_zero_of_not_pos fun h => ?_)
      obtain ⟨b, off, e, _⟩ := hz.2 h
      cases e
    subst h0
    clear hz
    go_enter Try.func105, Try.ntmps105
    go_wp2_with fail
    go_ret
    exact ⟨none, 0, rfl, own_r ⟨rfl, .inl ⟨rfl, rfl⟩⟩, Below.refl _ _⟩
  | some a =>
    have HC := Lib.hid (news_ints (hz.within (within_alloc w (.cells #[] 3)) (.inr (Nat.zero_le _))))
    clear hz
    go_enter Try.func105, Try.ntmps105
    go_wp2_with (at_builtin; refine wpList_append_own _ rfl _ _ 28 rfl w.heap.size 3 i0 _ 1 8 Try.underlying28 hi0 hz0 hz1 hz2 rfl (by omega) _ 0 [] rfl HM.out a zs.length cap (intCells zs) rfl (by rw [intCells_len]; omega) HC.out (intCells_one zs) (by unfold maxLen; omega) (by omega) (by simp) ?_; intro v' w' ho hg hnil; rw [Nat.zero_add, List.nil_append] at ho; obtain ⟨A2, c2, rfl⟩ := own_shape ho; have HO := Lib.hid (own_r ho); have HG := Lib.hid (show Below w.heap.size w w' from (new_below w (.cells #[] 3)).grown hg (by simp) fun k hk => by cases hk; exact Nat.le_refl _); clear ho hg hnil)
    go_ret
    exact ⟨A2, c2, rfl, HO.out, HG.out⟩
end Go.Proofs.Ytcfgljfpkhefmaa
