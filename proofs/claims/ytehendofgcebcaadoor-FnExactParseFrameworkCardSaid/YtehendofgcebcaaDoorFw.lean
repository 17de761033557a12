/- A framework by value: how a law's argument is opened; the laws' copies, sizes, comparisons and marks of frameworks; what the walks carry from call to call. No condition. -/
import Derived.Test.YtehendofgcebcaaDoorPlc
import Derived.Test.YtehendofgcebcaaDoorCel3
namespace Go.Proofs.YtehendofgcebcaaDoor
open Go.RowKit

/-- A framework by value lies in the block b. -/
def Box3 (W : World) (b : Nat) (q : Int) (v u : Value) : Prop := b < W.heap.size ∧ W.cell? ⟨b, 0, none⟩ = some (.int .i64 q) ∧ W.cell? ⟨b, 1, none⟩ = some v ∧ W.cell? ⟨b, 2, none⟩ = some u
theorem Box3.within {W W' : World} {b lo hi : Nat} {q : Int} {v u : Value} (h : Box3 W b q v u) (hw : Within lo hi W W') (hd : b < lo ∨ hi ≤ b) : Box3 W' b q v u :=
  ⟨Nat.lt_of_lt_of_le h.1 hw.size, (World.cell?_of_block (hw.block b h.1 hd)).trans h.2.1, (World.cell?_of_block (hw.block b h.1 hd)).trans h.2.2.1, (World.cell?_of_block (hw.block b h.1 hd)).trans h.2.2.2⟩
theorem Box3.kept {W W' : World} {b : Nat} {q : Int} {v u : Value} (h : Box3 W b q v u) (hb : Below W.heap.size W W') : Box3 W' b q v u :=
  ⟨Nat.lt_of_lt_of_le h.1 hb.size, (hb.cell (p := ⟨b, 0, none⟩) h.1).trans h.2.1, (hb.cell (p := ⟨b, 1, none⟩) h.1).trans h.2.2.1, (hb.cell (p := ⟨b, 2, none⟩) h.1).trans h.2.2.2⟩
theorem box3_new (w : World) (q : Int) (v u : Value) (t : TypeId) : Box3 (w.alloc (.cells #[.int .i64 q, v, u] t)) w.heap.size q v u :=
  ⟨by simp, by rw [World.cell?_alloc_at _ _ _ _ rfl]; rfl, by rw [World.cell?_alloc_at _ _ _ _ rfl]; rfl, by rw [World.cell?_alloc_at _ _ _ _ rfl]; rfl⟩
theorem box3s2 {W : World} {b1 b2 : Nat} {q1 q2 : Int} {v1 v2 u1 u2 : Value} (h1 : Box3 W b1 q1 v1 u1) (h2 : Box3 W b2 q2 v2 u2) :
    W.cell? ⟨b1, 0, none⟩ = some (.int .i64 q1) ∧ W.cell? ⟨b1, 1, none⟩ = some v1 ∧ W.cell? ⟨b1, 2, none⟩ = some u1 ∧ W.cell? ⟨b2, 0, none⟩ = some (.int .i64 q2) ∧ W.cell? ⟨b2, 1, none⟩ = some v2 ∧ W.cell? ⟨b2, 2, none⟩ = some u2 := ⟨h1.2.1, h1.2.2.1, h1.2.2.2, h2.2.1, h2.2.2.1, h2.2.2.2⟩
/-- A framework that is read: its rows lie in blocks from lo to hi. -/
structure FwIn (W : World) (lo hi : Nat) (A : Option Addr) (l : List (Int × Int)) (B : Option Addr) (m : List (Int × Int)) : Prop where
  b : BarsIn W lo hi A l
  p : BarsIn W lo hi B m
theorem FwIn.within {W W' : World} {lo hi lo' hi' : Nat} {A B : Option Addr} {l m : List (Int × Int)} (h : FwIn W lo hi A l B m) (hw : Within lo' hi' W W') (hd : hi ≤ lo' ∨ hi' ≤ lo) : FwIn W' lo hi A l B m := ⟨h.b.within hw hd, h.p.within hw hd⟩
theorem fw_in {W : World} {A B : Option Addr} {l m : List (Int × Int)} (h : BarsAt W W.heap.size A l) (k : BarsAt W W.heap.size B m) : FwIn W 0 W.heap.size A l B m := ⟨bars_in h, bars_in k⟩
theorem BarsIn.widen {W : World} {lo hi lo' hi' : Nat} {A : Option Addr} {l : List (Int × Int)} (h : BarsIn W lo hi A l) (h1 : lo' ≤ lo) (h2 : hi ≤ hi') (h3 : hi' ≤ W.heap.size) : BarsIn W lo' hi' A l :=
  ⟨h3, fun hl => by
    obtain ⟨b, off, e, g1, g2, hc⟩ := h.2 hl
    exact ⟨b, off, e, by omega, by omega, hc⟩⟩
/-- A framework of the call's own: its rows lie in blocks of their own, between lo and hi. -/
def OwnFw (W : World) (lo hi : Nat) (A : Option Addr) (ca : Nat) (l : List (Int × Int)) (B : Option Addr) (cb : Nat) (m : List (Int × Int)) : Prop :=
  ∃ f t : Nat × Nat, OwnIn W f.1 f.2 A ca l ∧ OwnPl W t.1 t.2 B cb m ∧ (f.2 ≤ t.1 ∨ t.2 ≤ f.1) ∧ (lo ≤ f.1 ∧ f.2 ≤ hi) ∧ (lo ≤ t.1 ∧ t.2 ≤ hi) ∧ hi ≤ W.heap.size
theorem OwnFw.within {W W' : World} {lo hi lo' hi' : Nat} {A B : Option Addr} {ca cb : Nat} {l m : List (Int × Int)} (h : OwnFw W lo hi A ca l B cb m) (hw : Within lo' hi' W W') (hd : hi ≤ lo' ∨ hi' ≤ lo) : OwnFw W' lo hi A ca l B cb m := by
  obtain ⟨f, t, h1, h2, d, b1, b2, h3⟩ := h
  exact ⟨f, t, h1.within hw (by omega), h2.within hw (by omega), d, b1, b2, Nat.le_trans h3 hw.size⟩
theorem OwnFw.reads {W : World} {lo hi : Nat} {A B : Option Addr} {ca cb : Nat} {l m : List (Int × Int)} (h : OwnFw W lo hi A ca l B cb m) : FwIn W lo hi A l B m := by
  obtain ⟨f, t, h1, h2, d, b1, b2, h3⟩ := h
  exact ⟨h1.bars.widen b1.1 b1.2 h3, h2.bars.widen b2.1 b2.2 h3⟩
theorem OwnFw.widen {W : World} {lo hi lo' hi' : Nat} {A B : Option Addr} {ca cb : Nat} {l m : List (Int × Int)} (h : OwnFw W lo hi A ca l B cb m) (h1 : lo' ≤ lo) (h2 : hi ≤ hi') (h3 : hi' ≤ W.heap.size) : OwnFw W lo' hi' A ca l B cb m := by
  obtain ⟨f, t, g1, g2, d, b1, b2, _⟩ := h
  exact ⟨f, t, g1, g2, d, by omega, by omega, h3⟩
/-- What a function returns that answers with a framework: one that is read, one of the call's own. -/
def FwR (w : World) (p : Int) (l m : List (Int × Int)) (e : Ending) (w' : World) : Prop :=
  ∃ A ca B cb, e = .returned (.agg #[.int .i64 p, .slice A l.length ca, .slice B m.length cb]) ∧ FwIn w' 0 w'.heap.size A l B m ∧ Below w.heap.size w w'
def FwO (w : World) (p : Int) (l m : List (Int × Int)) (e : Ending) (w' : World) : Prop :=
  ∃ A ca B cb, e = .returned (.agg #[.int .i64 p, .slice A l.length ca, .slice B m.length cb]) ∧ OwnFw w' w.heap.size w'.heap.size A ca l B cb m ∧ Below w.heap.size w w'
def FwRB (w : World) (p : Int) (l m : List (Int × Int)) (r : Bool) (e : Ending) (w' : World) : Prop :=
  ∃ A ca B cb, e = .returned (.tuple #[.agg #[.int .i64 p, .slice A l.length ca, .slice B m.length cb], .bool r]) ∧ FwIn w' 0 w'.heap.size A l B m ∧ Below w.heap.size w w'
def FwOB (w : World) (p : Int) (l m : List (Int × Int)) (r : Bool) (e : Ending) (w' : World) : Prop :=
  ∃ A ca B cb, e = .returned (.tuple #[.agg #[.int .i64 p, .slice A l.length ca, .slice B m.length cb], .bool r]) ∧ OwnFw w' w.heap.size w'.heap.size A ca l B cb m ∧ Below w.heap.size w w'

theorem szFw_c (p : Int) (A : Option Addr) (n ca : Nat) (B : Option Addr) (k cb : Nat) (left : Int) (w : World) (h0 : ((n + k : Nat) : Int) ≤ left) (h1 : left ≤ 1048576) :
    Calls Tryd.prog 5 #[.agg #[.int .i64 p, .slice A n ca, .slice B k cb], .int .i64 left] w fun e w' => e = .returned (.int .i64 (left - n - k)) ∧ Below w.heap.size w w' := by
  have hA := new_below w (.cells #[.int .i64 p, .slice A n ca, .slice B k cb] 27)
  have HA := Lib.hid hA
  have HX := Lib.hid (box3_new w p (.slice A n ca) (.slice B k cb) 27)
  have hnn : ¬ left - (n : Int) < 0 := by omega
  have hnk : ¬ left - (n : Int) - (k : Int) < 0 := by omega
  clear hA
  go_enter Tryd.func5, Tryd.ntmps5
  go_wp2_with fail
  generalize (w.alloc (.cells #[.int .i64 p, .slice A n ca, .slice B k cb] 27)) = w1 at *
  refine (szGraph_c p A n ca left _ (by omega) h1).mono ?_
  rintro e w2 ⟨rfl, hb⟩
  obtain ⟨_, x0, x1, x2⟩ := HX.out.kept hb
  have HB := Lib.hid (below_on HA.out hb HA.out.size)
  clear hb
  go_wp2_with fail
  refine (szPlaceS_c B k cb (left - (n : Int)) _ (by omega) (by omega)).mono ?_
  rintro e w3 ⟨rfl, rfl⟩
  go_wp2_with fail
  go_ret
  exact ⟨rfl, HB.out⟩
theorem szFw_no (p : Int) (A : Option Addr) (n ca : Nat) (B : Option Addr) (k cb : Nat) (left : Int) (w : World) (hn : n ≤ maxLen) (hk : k ≤ maxLen) (h0 : left < ((n + k : Nat) : Int)) (h1 : 0 ≤ left) (hl : left ≤ 1048576) :
    Calls Tryd.prog 5 #[.agg #[.int .i64 p, .slice A n ca, .slice B k cb], .int .i64 left] w fun e w' => e = .returned (.int .i64 (-1)) ∧ Below w.heap.size w w' := by
  have hA := new_below w (.cells #[.int .i64 p, .slice A n ca, .slice B k cb] 27)
  have HA := Lib.hid hA
  have HX := Lib.hid (box3_new w p (.slice A n ca) (.slice B k cb) 27)
  clear hA
  unfold maxLen at hn hk
  by_cases hx : left < (n : Int)
  · go_enter Tryd.func5, Tryd.ntmps5
    go_wp2_with fail
    generalize (w.alloc (.cells #[.int .i64 p, .slice A n ca, .slice B k cb] 27)) = w1 at *
    refine (szGraph_no p A n ca left _ (by omega) hx h1).mono ?_
    rintro e w2 ⟨rfl, hb⟩
    have HB := Lib.hid (below_on HA.out hb HA.out.size)
    clear hb
    go_wp2_with fail
    go_ret
    exact ⟨rfl, HB.out⟩
  · have hnn : ¬ left - (n : Int) < 0 := by omega
    go_enter Tryd.func5, Tryd.ntmps5
    go_wp2_with fail
    generalize (w.alloc (.cells #[.int .i64 p, .slice A n ca, .slice B k cb] 27)) = w1 at *
    refine (szGraph_c p A n ca left _ (by omega) hl).mono ?_
    rintro e w2 ⟨rfl, hb⟩
    obtain ⟨_, x0, x1, x2⟩ := HX.out.kept hb
    have HB := Lib.hid (below_on HA.out hb HA.out.size)
    clear hb
    go_wp2_with fail
    refine (szPlaceS_no B k cb (left - (n : Int)) _ (by omega) (by omega) (by omega)).mono ?_
    rintro e w3 ⟨rfl, rfl⟩
    go_wp2_with fail
    go_ret
    exact ⟨rfl, HB.out⟩

set_option maxHeartbeats 2000000 in
set_option maxRecDepth 100000 in
theorem toFw_c (p : Int) (l m : List (Int × Int)) (A : Option Addr) (ca : Nat) (B : Option Addr) (cb : Nat) (lo hi : Nat) (w : World) (hl : FwIn w lo hi A l B m) (hn : l.length + m.length ≤ 1048576) :
    Calls Tryd.prog 7 #[.agg #[.int .i64 p, .slice A l.length ca, .slice B m.length cb]] w fun e w' => ∃ g h, e = .returned (.agg #[.int .i64 p, .slice (some ⟨g, 0, none⟩) l.length l.length, .slice (some ⟨h, 0, none⟩) m.length m.length]) ∧ OwnFw w' w.heap.size w'.heap.size (some ⟨g, 0, none⟩) l.length l (some ⟨h, 0, none⟩) m.length m ∧ Below w.heap.size w w' := by
  have HL := Lib.hid hl
  clear hl
  have hA1 := new_below w (.cells #[.int .i64 p, .slice A l.length ca, .slice B m.length cb] 27)
  have HX := Lib.hid (box3_new w p (.slice A l.length ca) (.slice B m.length cb) 27)
  have hs1 : (w.alloc (.cells #[.int .i64 p, .slice A l.length ca, .slice B m.length cb] 27)).heap.size = w.heap.size + 1 := by simp
  have HA1 := Lib.hid hA1
  clear hA1
  go_enter Tryd.func7, Tryd.ntmps7
  go_wp2_with fail
  generalize (w.alloc (.cells #[.int .i64 p, .slice A l.length ca, .slice B m.length cb] 27)) = w1 at *
  have hr := cel3_new w1 (.int .i64 0) (.slice none 0 0) (.slice none 0 0) 35
  have hr2 := new_below w1 (.cells #[.int .i64 0, .slice none 0 0, .slice none 0 0] 35)
  have hs2 : (w1.alloc (.cells #[.int .i64 0, .slice none 0 0, .slice none 0 0] 35)).heap.size = w1.heap.size + 1 := by simp
  generalize (w1.alloc (.cells #[.int .i64 0, .slice none 0 0, .slice none 0 0] 35)) = w2 at *
  have ho := cel3_new w2 (.int .i64 0) (.slice none 0 0) (.slice none 0 0) 35
  have ho2 := new_below w2 (.cells #[.int .i64 0, .slice none 0 0, .slice none 0 0] 35)
  have hs3 : (w2.alloc (.cells #[.int .i64 0, .slice none 0 0, .slice none 0 0] 35)).heap.size = w2.heap.size + 1 := by simp
  generalize (w2.alloc (.cells #[.int .i64 0, .slice none 0 0, .slice none 0 0] 35)) = w3 at *
  rw [hs2, hs1] at ho
  rw [hs1] at hr
  have hB3 := below_on (below_on HA1.out hr2 (by omega)) ho2 (by omega)
  have hX3 := (HX.out.kept hr2).kept ho2
  have hL3 := HL.out.within (within_of hB3) (.inr (Nat.zero_le _))
  have hR3 := hr.kept ho2
  have HX3 := Lib.hid hX3
  have HL3 := Lib.hid hL3
  have HR3 := Lib.hid hR3
  have HO3 := Lib.hid ho
  have HB3 := Lib.hid hB3
  have HS3 := Lib.hid (show w3.heap.size = w.heap.size + 3 by omega)
  clear hX3 hL3 hR3 ho hB3 hr hr2 ho2 hs1 hs2 hs3 HX HA1
  refine (toGraph_c p l A ca _ HL3.out.b.at (by omega)).mono ?_
  rintro e w4 ⟨g, rfl, og, hb⟩
  have HZ4 := Lib.hid hb.size
  have HX4 := Lib.hid (HX3.out.kept hb)
  have HL4 := Lib.hid (HL3.out.within (within_of hb) (.inr (Nat.zero_le _)))
  have HR4 := Lib.hid (HR3.out.kept hb)
  have HO4 := Lib.hid (HO3.out.kept hb)
  have HB4 := Lib.hid (below_on HB3.out hb HB3.out.size)
  have HG4 := Lib.hid (own_in og)
  clear og hb HX3 HL3 HR3 HO3 HB3
  obtain ⟨_, x0, x1, x2⟩ := HX4.out
  obtain ⟨o0, o1, o2, f0, f1, f2⟩ := HO4.out.cells
  go_wp2_with fail
  clear x0 x1 x2 o0 o1 o2 f0 f1 f2
  have hO5 := (HO4.out.set0 (.int .i64 p)).set1 (.slice (some ⟨g, 0, none⟩) l.length l.length)
  have hW5 := (within_set w4 (w.heap.size + 1 + 1) 0 (.int .i64 p)).trans (within_set _ (w.heap.size + 1 + 1) 1 (.slice (some ⟨g, 0, none⟩) l.length l.length))
  generalize ((w4.setCell ⟨w.heap.size + 1 + 1, 0, none⟩ (.int .i64 p)).setCell ⟨w.heap.size + 1 + 1, 1, none⟩ (.slice (some ⟨g, 0, none⟩) l.length l.length)) = w5 at *
  have hS3 := HS3.out
  have HO5 := Lib.hid hO5
  have HB5 := Lib.hid (within_on HB4.out hW5 HB4.out.size (.inl (by omega)))
  have HL5 := Lib.hid (show FwIn w5 0 w5.heap.size A l B m from
    have h0 := (HL.out.b.at.kept HB5.out).more HB5.out.size
    have h1 := (HL.out.p.at.kept HB5.out).more HB5.out.size
    ⟨bars_in h0, bars_in h1⟩)
  have HR5 := Lib.hid (show Cel3 w5 (w.heap.size + 1) 35 (.int .i64 0) (.slice none 0 0) (.slice none 0 0) from HR4.out.within hW5 (.inl (by omega)))
  have HG5 := Lib.hid (HG4.out.within hW5 (.inr (by omega)))
  have HZ5 := Lib.hid hW5.size
  clear hO5 hW5 HO4 HB4 HL4 HR4 HG4 HX4
  refine (toPlaceS_c m B cb _ HL5.out.p.at (by omega)).mono ?_
  rintro e w6 ⟨h, rfl, og, hb⟩
  have HR6 := Lib.hid (HR5.out.kept hb)
  have HO6 := Lib.hid (HO5.out.kept hb)
  have HB6 := Lib.hid (below_on HB5.out hb HB5.out.size)
  have HG6 := Lib.hid (HG5.out.within (within_of hb) (.inr (Nat.zero_le _)))
  have HP6 := Lib.hid (own_pl og)
  have HZ6 := Lib.hid hb.size
  clear og hb HR5 HO5 HB5 HG5
  obtain ⟨o0, o1, o2, f0, f1, f2⟩ := HO6.out.cells
  obtain ⟨r0, r1, r2, e0, e1, e2⟩ := HR6.out.cells
  go_wp2_with fail
  clear o0 o1 o2 f0 f1 f2 r0 r1 r2 e0 e1 e2
  have hW7 := within_set w6 (w.heap.size + 1 + 1) 2 (.slice (some ⟨h, 0, none⟩) m.length m.length)
  have hR7 := HR6.out.within hW7 (.inl (by omega))
  have hB7 := within_on HB6.out hW7 HB6.out.size (.inl (by omega))
  have hG7 := HG6.out.within hW7 (.inr (by omega))
  have hZ4 := HZ4.out
  have hZ5 := HZ5.out
  have hZ6 := HZ6.out
  have hP7 := HP6.out.within hW7 (.inr (by omega))
  have hZ7 := hW7.size
  generalize (w6.setCell ⟨w.heap.size + 1 + 1, 2, none⟩ (.slice (some ⟨h, 0, none⟩) m.length m.length)) = w7 at *
  obtain ⟨hc, hw⟩ := ret3 hR7 (.int .i64 p) (.slice (some ⟨g, 0, none⟩) l.length l.length) (.slice (some ⟨h, 0, none⟩) m.length m.length)
  have hw7 := hw.size
  generalize ((w7.setCell ⟨w.heap.size + 1, 0, none⟩ (.int .i64 p)).setCell ⟨w.heap.size + 1, 1, none⟩ (.slice (some ⟨g, 0, none⟩) l.length l.length)).setCell ⟨w.heap.size + 1, 2, none⟩ (.slice (some ⟨h, 0, none⟩) m.length m.length) = w8 at *
  obtain ⟨c0, c1, c2, _, _, _⟩ := hc.cells
  refine bodyPost_ret (v := .agg #[.int .i64 p, .slice (some ⟨g, 0, none⟩) l.length l.length, .slice (some ⟨h, 0, none⟩) m.length m.length]) ?_ rfl ⟨g, h, rfl, ⟨(w3.heap.size, w4.heap.size), (w5.heap.size, w6.heap.size), hG7.within hw (.inr (by omega)), hP7.within hw (.inr (by omega)), .inl hZ5, ⟨by omega, by omega⟩, ⟨by omega, by omega⟩, Nat.le_refl _⟩, within_on hB7 hw hB7.size (.inl (by omega))⟩
  simp [results, Tryd.results7, go_sem, c0, c1, c2]

set_option maxHeartbeats 2000000 in
set_option maxRecDepth 100000 in
theorem eqFw_c (p : Int) (l m : List (Int × Int)) (A A' : Option Addr) (ca ca' : Nat) (B B' : Option Addr) (cb cb' : Nat) (lo hi lo' hi' : Nat) (w : World) (hl : FwIn w lo hi A l B m) (hl' : FwIn w lo' hi' A' l B' m) (hn : l.length + m.length ≤ 1048576) :
    Calls Tryd.prog 9 #[.agg #[.int .i64 p, .slice A l.length ca, .slice B m.length cb], .agg #[.int .i64 p, .slice A' l.length ca', .slice B' m.length cb']] w fun e w' => e = .returned (.bool true) ∧ Below w.heap.size w w' := by
  have HL := Lib.hid hl
  have HL' := Lib.hid hl'
  clear hl hl'
  have hA1 := new_below w (.cells #[.int .i64 p, .slice A l.length ca, .slice B m.length cb] 35)
  have hA2 := new_below (w.alloc (.cells #[.int .i64 p, .slice A l.length ca, .slice B m.length cb] 35)) (.cells #[.int .i64 p, .slice A' l.length ca', .slice B' m.length cb'] 35)
  have hs1 : (w.alloc (.cells #[.int .i64 p, .slice A l.length ca, .slice B m.length cb] 35)).heap.size = w.heap.size + 1 := by simp
  have hX := (box3_new w p (.slice A l.length ca) (.slice B m.length cb) 35).kept hA2
  have hY := box3_new (w.alloc (.cells #[.int .i64 p, .slice A l.length ca, .slice B m.length cb] 35)) p (.slice A' l.length ca') (.slice B' m.length cb') 35
  rw [hs1] at hY
  have HX := Lib.hid hX
  have HY := Lib.hid hY
  have HB := Lib.hid (below_on hA1 hA2 hA1.size)
  clear hA1 hA2 hs1 hX hY
  go_enter Tryd.func9, Tryd.ntmps9
  go_wp2_with fail
  generalize ((w.alloc (.cells #[.int .i64 p, .slice A l.length ca, .slice B m.length cb] 35)).alloc (.cells #[.int .i64 p, .slice A' l.length ca', .slice B' m.length cb'] 35)) = w1 at *
  have HL1 := Lib.hid (HL.out.within (within_of HB.out) (.inr (Nat.zero_le _)))
  have HL1' := Lib.hid (HL'.out.within (within_of HB.out) (.inr (Nat.zero_le _)))
  refine (eqGraph_c p l A A' ca ca' _ HL1.out.b.at HL1'.out.b.at (by omega)).mono ?_
  rintro e w2 ⟨rfl, hb⟩
  have HL2 := Lib.hid (HL1.out.within (within_of hb) (.inr (Nat.zero_le _)))
  have HL2' := Lib.hid (HL1'.out.within (within_of hb) (.inr (Nat.zero_le _)))
  obtain ⟨_, x0, x1, x2⟩ := HX.out.kept hb
  obtain ⟨_, y0, y1, y2⟩ := HY.out.kept hb
  have HB2 := Lib.hid (below_on HB.out hb HB.out.size)
  clear hb
  go_wp2_with fail
  refine (eqPlaceS_c m B B' cb cb' _ HL2.out.p.at HL2'.out.p.at (by omega)).mono ?_
  rintro e w3 ⟨rfl, hb⟩
  have HB3 := Lib.hid (below_on HB2.out hb HB2.out.size)
  clear hb
  go_wp2_with fail
  go_ret
  exact ⟨rfl, HB3.out⟩

set_option maxHeartbeats 2000000 in
set_option maxRecDepth 100000 in
theorem markFw_o (p : Int) (l m : List (Int × Int)) (A : Option Addr) (ca : Nat) (B : Option Addr) (cb : Nat) (k : Int) (lo hi : Nat) (w : World) (h : OwnFw w lo hi A ca l B cb m) (hn : l.length + m.length ≤ 1048576) (hk0 : 0 ≤ k) (hk1 : k ≤ 5000000) :
    Calls Tryd.prog 12 #[.agg #[.int .i64 p, .slice A l.length ca, .slice B m.length cb], .int .i64 k] w fun e w' => e = .returned (.int .i64 (k + 2 * (l.length : Int) + 2 * (m.length : Int))) ∧ Within lo hi w w' ∧ OwnFw w' lo hi A ca (marks k l.length) B cb (marks (k + 2 * (l.length : Int)) m.length) := by
  obtain ⟨f, t, h1, h2, d, b1, b2, h3⟩ := h
  have hA1 := new_below w (.cells #[.int .i64 p, .slice A l.length ca, .slice B m.length cb] 35)
  have HX := Lib.hid (box3_new w p (.slice A l.length ca) (.slice B m.length cb) 35)
  have HG := Lib.hid (h1.within (within_of hA1) (.inr (Nat.zero_le _)))
  have HP := Lib.hid (h2.within (within_of hA1) (.inr (Nat.zero_le _)))
  have HA := Lib.hid (show Within lo hi w (w.alloc (.cells #[.int .i64 p, .slice A l.length ca, .slice B m.length cb] 35)) from ⟨hA1.os, hA1.tape, hA1.output, hA1.size, fun k hk _ => hA1.block k hk⟩)
  have hsz : w.heap.size < (w.alloc (.cells #[.int .i64 p, .slice A l.length ca, .slice B m.length cb] 35)).heap.size := by simp
  have HD := Lib.hid (And.intro d (And.intro b1 (And.intro b2 h3)))
  clear h1 h2 hA1 d b1 b2 h3
  go_enter Tryd.func12, Tryd.ntmps12
  go_wp2_with fail
  generalize (w.alloc (.cells #[.int .i64 p, .slice A l.length ca, .slice B m.length cb] 35)) = w1 at *
  refine (markGraph_o p A ca l k f.1 f.2 _ HG.out (by omega) hk0 (by omega)).mono ?_
  rintro e w2 ⟨rfl, hin, hog⟩
  have HG2 := Lib.hid hog
  have HP2 := Lib.hid (HP.out.within hin (by have := HD.out.1; omega))
  obtain ⟨_, x0, x1, x2⟩ := HX.out.within hin (by have := HD.out.2; omega)
  have HA2 := Lib.hid (HA.out.trans (hin.widen (.inr ⟨HD.out.2.1.1, HD.out.2.1.2⟩)))
  clear hog hin HG HP HA
  go_wp2_with fail
  refine (markPlaceS_o B cb m (k + 2 * (l.length : Int)) t.1 t.2 _ HP2.out (by omega) (by omega) (by omega)).mono ?_
  rintro e w3 ⟨rfl, hin, hog⟩
  have HG3 := Lib.hid (HG2.out.within hin (by have := HD.out.1; omega))
  have HP3 := Lib.hid hog
  have HA3 := Lib.hid (HA2.out.trans (hin.widen (.inr ⟨HD.out.2.2.1.1, HD.out.2.2.1.2⟩)))
  clear hog hin HG2 HP2 HA2
  go_wp2_with fail
  go_ret
  exact ⟨rfl, HA3.out, f, t, HG3.out, HP3.out, HD.out.1, HD.out.2.1, HD.out.2.2.1, Nat.le_trans HD.out.2.2.2 HA3.out.size⟩

set_option maxHeartbeats 2000000 in
set_option maxRecDepth 100000 in
theorem heldFw_o (p : Int) (n k' : Nat) (A : Option Addr) (ca : Nat) (B : Option Addr) (cb : Nat) (k : Int) (lo hi : Nat) (w : World) (h : OwnFw w lo hi A ca (marks k n) B cb (marks (k + 2 * (n : Int)) k')) (hn : n + k' ≤ 1048576) (hk0 : 0 ≤ k) (hk1 : k ≤ 5000000) :
    Calls Tryd.prog 13 #[.agg #[.int .i64 p, .slice A n ca, .slice B k' cb], .int .i64 k] w fun e w' => e = .returned (.int .i64 (k + 2 * (n : Int) + 2 * (k' : Int))) ∧ Below w.heap.size w w' := by
  have hA1 := new_below w (.cells #[.int .i64 p, .slice A n ca, .slice B k' cb] 35)
  have HX := Lib.hid (box3_new w p (.slice A n ca) (.slice B k' cb) 35)
  have HL := Lib.hid (h.reads.within (within_of hA1) (.inr (Nat.zero_le _)))
  have HA := Lib.hid hA1
  have hnn : ¬ k + 2 * (n : Int) < 0 := by omega
  have hnk : ¬ k + 2 * (n : Int) + 2 * (k' : Int) < 0 := by omega
  clear h hA1
  go_enter Tryd.func13, Tryd.ntmps13
  go_wp2_with fail
  generalize (w.alloc (.cells #[.int .i64 p, .slice A n ca, .slice B k' cb] 35)) = w1 at *
  refine (heldGraph_c p n A ca k _ HL.out.b.at (by omega) hk0 (by omega)).mono ?_
  rintro e w2 ⟨rfl, hb⟩
  have HL2 := Lib.hid (HL.out.within (within_of hb) (.inr (Nat.zero_le _)))
  obtain ⟨_, x0, x1, x2⟩ := HX.out.kept hb
  have HA2 := Lib.hid (below_on HA.out hb HA.out.size)
  clear hb HL HA
  go_wp2_with fail
  refine (heldPlaceS_c k' B cb (k + 2 * (n : Int)) _ _ HL2.out.p.at (by omega) (by omega) (by omega)).mono ?_
  rintro e w3 ⟨rfl, rfl⟩
  go_wp2_with fail
  go_ret
  exact ⟨rfl, HA2.out⟩

/-- What the walks over a framework's box carry. -/
structure FbI (w wr : World) (lo hi : Nat) (p : Int) (A : Option Addr) (ca : Nat) (l : List (Int × Int)) (B : Option Addr) (cb : Nat) (m : List (Int × Int)) : Prop where
  b : Below w.heap.size w wr
  x : Box3 wr w.heap.size p (.slice A l.length ca) (.slice B m.length cb)
  f : FwIn wr lo hi A l B m
theorem FbI.below {w a b : World} {lo hi : Nat} {p : Int} {A B : Option Addr} {ca cb : Nat} {l m : List (Int × Int)} (h : FbI w a lo hi p A ca l B cb m) (hb : Below a.heap.size a b) : FbI w b lo hi p A ca l B cb m :=
  ⟨below_on h.b hb h.b.size, h.x.kept hb, h.f.within (within_of hb) (.inr (Nat.zero_le _))⟩
theorem FbI.new {w : World} {lo hi : Nat} {p : Int} {A B : Option Addr} {ca cb : Nat} {l m : List (Int × Int)} (h : FwIn w lo hi A l B m) (t : TypeId) :
    FbI w (w.alloc (.cells #[.int .i64 p, .slice A l.length ca, .slice B m.length cb] t)) lo hi p A ca l B cb m :=
  ⟨new_below _ _, box3_new _ _ _ _ _, h.within (within_of (new_below _ _)) (.inr (Nat.zero_le _))⟩
theorem FbI.place {w wr : World} {lo hi : Nat} {p : Int} {A B : Option Addr} {ca cb : Nat} {l m : List (Int × Int)} (h : FbI w wr lo hi p A ca l B cb m) {k : Nat} (hk : k < m.length) :
    ∃ b off, B = some ⟨b, off, none⟩ ∧ b < wr.heap.size ∧ ∀ j, j < m.length → wr.cell? ⟨b, off + j * 2, none⟩ = some (.int .i64 (m.getD j (0, 0)).1) ∧ wr.cell? ⟨b, off + j * 2 + 1, none⟩ = some (.int .i64 (m.getD j (0, 0)).2) := by
  obtain ⟨b, off, e, _, h2, hc⟩ := h.f.p.2 (by omega)
  exact ⟨b, off, e, Nat.lt_of_lt_of_le h2 h.f.p.1, hc⟩
theorem FbI.bar {w wr : World} {lo hi : Nat} {p : Int} {A B : Option Addr} {ca cb : Nat} {l m : List (Int × Int)} (h : FbI w wr lo hi p A ca l B cb m) {k : Nat} (hk : k < l.length) :
    ∃ b off, A = some ⟨b, off, none⟩ ∧ b < wr.heap.size ∧ ∀ j, j < l.length → wr.cell? ⟨b, off + j * 2, none⟩ = some (.int .i64 (l.getD j (0, 0)).1) ∧ wr.cell? ⟨b, off + j * 2 + 1, none⟩ = some (.int .i64 (l.getD j (0, 0)).2) := by
  obtain ⟨b, off, e, _, h2, hc⟩ := h.f.b.2 (by omega)
  exact ⟨b, off, e, Nat.lt_of_lt_of_le h2 h.f.b.1, hc⟩

section
open Go.Joins Go.ChangeShapes Go.WideShapes Go.Deep
variable {H : Type} {enc : TypeId × Value → H} {w : World}
set_option maxRecDepth 100000 in
theorem open_fw {r : Reach} {b0 : Nat} {v : Value} {d : DataW H} {p : List MemPlace} (hv : Value.okWide Tryd.prog w r b0 27 v) (h : DataW.Trod enc Tryd.prog w 0 (fun _ => true) true 27 v d p) :
    ∃ (q : Int) (A : Option Addr) (ca : Nat) (l : List (Int × Int)) (B : Option Addr) (cb : Nat) (m : List (Int × Int)), v = .agg #[.int .i64 q, .slice A l.length ca, .slice B m.length cb] ∧ (l.length ≤ maxLen ∧ m.length ≤ maxLen) ∧ BarsAt w w.heap.size A l ∧ BarsAt w w.heap.size B m := by
  have ce : Tryd.prog.cellsOf 27 = 3 := by kernel_rfl
  have cg : Tryd.prog.cellsOf 24 = 2 := by kernel_rfl
  have cp : Tryd.prog.cellsOf 25 = 1 := by kernel_rfl
  have cr : Tryd.prog.cellsOf 22 = 1 := by kernel_rfl
  have ci : Tryd.prog.cellsOf 3 = 1 := by kernel_rfl
  obtain ⟨cs, rfl, hsz⟩ := okWide_struct Tryd.underlying27 hv
  rw [ce] at hsz
  obtain ⟨v0, v1, v2, rfl⟩ := array3 hsz
  obtain ⟨fuel, hg⟩ := h
  obtain ⟨y0, y1, n, _, _, h0, h1⟩ := trod_struct2 Tryd.underlying27 hg
  simp [Value.cells, cg, cp] at h0 h1
  obtain ⟨z0, z1, n', _, _, h2, h3⟩ := trod_struct2 Tryd.underlying24 h0
  simp [cr, ci] at h2 h3
  obtain ⟨q, e0, _⟩ := DataW.trod_int Tryd.underlying3 h2
  obtain ⟨A, ca, l, e1, hl, hb⟩ := open_bars h3
  obtain ⟨B, cb, m, e2, hm, hc⟩ := open_places h1
  subst e1 e2
  have e0' : v0 = .int .i64 q := by simpa using e0
  subst e0'
  exact ⟨q, A, ca, l, B, cb, m, rfl, ⟨hl, hm⟩, hb, hc⟩
end
end Go.Proofs.YtehendofgcebcaaDoor
