/- What EqualFrameworks answers, the specification's and the program's; what the walks over two frameworks carry. No condition. -/
import Derived.Test.YtehendofgcebcaaOffs
import Derived.Test.YtehendofgcebcaaFw
namespace Go.Proofs.Ytehendofgcebcaa
open Go.RowKit
attribute [local go_sem ↓] neqPl guardPl

/-- What the walks over two frameworks' boxes carry. -/
structure F2I (w wr : World) (lo hi lo' hi' : Nat) (p : Int) (A : Option Addr) (ca : Nat) (l : List (Int × Int)) (B : Option Addr) (cb : Nat) (m : List (Int × Int)) (r : Int) (C : Option Addr) (cc : Nat) (x : List (Int × Int)) (D : Option Addr) (cd : Nat) (y : List (Int × Int)) : Prop where
  bel : Below w.heap.size w wr
  bxa : Box3 wr w.heap.size p (.slice A l.length ca) (.slice B m.length cb)
  bxb : Box3 wr (w.heap.size + 1) r (.slice C x.length cc) (.slice D y.length cd)
  fa : FwIn wr lo hi A l B m
  fb : FwIn wr lo' hi' C x D y
section
variable {w a b : World} {lo hi lo' hi' : Nat} {p r : Int} {A B C D : Option Addr} {ca cb cc cd : Nat} {l m x y : List (Int × Int)}
theorem F2I.below (h : F2I w a lo hi lo' hi' p A ca l B cb m r C cc x D cd y) (hb : Below a.heap.size a b) : F2I w b lo hi lo' hi' p A ca l B cb m r C cc x D cd y :=
  ⟨below_on h.bel hb h.bel.size, h.bxa.kept hb, h.bxb.kept hb, h.fa.within (within_of hb) (.inr (Nat.zero_le _)), h.fb.within (within_of hb) (.inr (Nat.zero_le _))⟩
theorem F2I.new (hf : FwIn w lo hi A l B m) (hg : FwIn w lo' hi' C x D y) (t : TypeId) :
    F2I w ((w.alloc (.cells #[.int .i64 p, .slice A l.length ca, .slice B m.length cb] t)).alloc (.cells #[.int .i64 r, .slice C x.length cc, .slice D y.length cd] t)) lo hi lo' hi' p A ca l B cb m r C cc x D cd y := by
  have h1 := new_below w (.cells #[.int .i64 p, .slice A l.length ca, .slice B m.length cb] t)
  have h2 := new_below (w.alloc (.cells #[.int .i64 p, .slice A l.length ca, .slice B m.length cb] t)) (.cells #[.int .i64 r, .slice C x.length cc, .slice D y.length cd] t)
  have hs : (w.alloc (.cells #[.int .i64 p, .slice A l.length ca, .slice B m.length cb] t)).heap.size = w.heap.size + 1 := by simp
  have hy := box3_new (w.alloc (.cells #[.int .i64 p, .slice A l.length ca, .slice B m.length cb] t)) r (.slice C x.length cc) (.slice D y.length cd) t
  rw [hs] at hy
  have hb := below_on h1 h2 h1.size
  exact ⟨hb, (box3_new _ _ _ _ _).kept h2, hy, hf.within (within_of hb) (.inr (Nat.zero_le _)), hg.within (within_of hb) (.inr (Nat.zero_le _))⟩
end

/-- Two frameworks are equal. -/
def eqFB (p : Int) (l m : List (Int × Int)) (r : Int) (x y : List (Int × Int)) : Bool := decide ((p = r ∧ l = x) ∧ m = y)
theorem eqG_iff {p r : Int} {l x : List (Int × Int)} : eqG p r l x = true ↔ p = r ∧ l = x := by unfold eqG; exact decide_eq_true_iff

set_option maxHeartbeats 2000000 in
set_option maxRecDepth 100000 in
theorem implEqF (p : Int) (l m : List (Int × Int)) (r : Int) (x y : List (Int × Int)) (A : Option Addr) (ca : Nat) (B : Option Addr) (cb : Nat) (C : Option Addr) (cc : Nat) (D : Option Addr) (cd : Nat) (lo hi lo' hi' : Nat) (w : World) (hl : FwIn w lo hi A l B m) (hk : FwIn w lo' hi' C x D y) (hn : l.length + m.length ≤ 1048576) (_hm : x.length + y.length ≤ 1048576) :
    Calls Try.prog 67 #[.agg #[.int .i64 p, .slice A l.length ca, .slice B m.length cb], .agg #[.int .i64 r, .slice C x.length cc, .slice D y.length cd]] w fun e w' => e = .returned (.bool (eqFB p l m r x y)) ∧ Below w.heap.size w w' := by
  have HF := Lib.hid (F2I.new (p := p) (r := r) (ca := ca) (cb := cb) (cc := cc) (cd := cd) hl hk 63)
  clear hl hk
  have HE := Lib.hid fun (W : World) (h : BarsAt W W.heap.size A l) (k : BarsAt W W.heap.size C x) => implEqual p r l x A C ca cc W h k (by omega)
  have HP := Lib.hid fun (W : World) (h : BarsAt W W.heap.size B m) (k : BarsAt W W.heap.size D y) => slEqualP m y B D cb cd W h k (by omega)
  go_enter Try.func67, Try.ntmps67
  go_wp2_with fail
  generalize ((w.alloc (.cells #[.int .i64 p, .slice A l.length ca, .slice B m.length cb] 63)).alloc (.cells #[.int .i64 r, .slice C x.length cc, .slice D y.length cd] 63)) = w1 at *
  by_cases h : eqG p r l x = true
  · rw [h] at HE
    have hg := eqG_iff.1 h
    refine (HE.out _ HF.out.fa.b.at HF.out.fb.b.at).mono ?_
    rintro e w2 ⟨rfl, hb⟩
    have HF2 := Lib.hid (HF.out.below hb)
    obtain ⟨_, x0, x1, x2⟩ := HF2.out.bxa
    obtain ⟨_, y0, y1, y2⟩ := HF2.out.bxb
    have HQ := Lib.hid (show eqFB p l m r x y = sameL m y from by unfold eqFB sameL; simp [hg])
    clear hb HF HE h hg
    go_wp2_with fail
    refine (HP.out _ HF2.out.fa.p.at HF2.out.fb.p.at).mono ?_
    rintro e w3 ⟨rfl, hb⟩
    have HF3 := Lib.hid (HF2.out.below hb)
    clear hb
    go_wp2_with fail
    go_ret
    exact ⟨by rw [HQ.out]; rfl, HF3.out.bel⟩
  · have HQ := Lib.hid (show eqFB p l m r x y = false from decide_eq_false fun hh => h (eqG_iff.2 hh.1))
    rw [show eqG p r l x = false by simpa using h] at HE
    clear h
    refine (HE.out _ HF.out.fa.b.at HF.out.fb.b.at).mono ?_
    rintro e w2 ⟨rfl, hb⟩
    have HF2 := Lib.hid (HF.out.below hb)
    clear hb
    go_wp2_with fail
    go_ret
    exact ⟨by rw [HQ.out]; rfl, HF2.out.bel⟩

set_option maxHeartbeats 2000000 in
set_option maxRecDepth 100000 in
theorem specEqF (p : Int) (l m : List (Int × Int)) (r : Int) (x y : List (Int × Int)) (A : Option Addr) (ca : Nat) (B : Option Addr) (cb : Nat) (C : Option Addr) (cc : Nat) (D : Option Addr) (cd : Nat) (lo hi lo' hi' : Nat) (w : World) (hl : FwIn w lo hi A l B m) (hk : FwIn w lo' hi' C x D y) (hn : l.length + m.length ≤ 1048576) (_hm : x.length + y.length ≤ 1048576) :
    Calls Try.prog 66 #[.agg #[.int .i64 p, .slice A l.length ca, .slice B m.length cb], .agg #[.int .i64 r, .slice C x.length cc, .slice D y.length cd]] w fun e w' => e = .returned (.bool (eqFB p l m r x y)) ∧ Below w.heap.size w w' := by
  have HF := Lib.hid (F2I.new (p := p) (r := r) (ca := ca) (cb := cb) (cc := cc) (cd := cd) hl hk 63)
  clear hl hk
  have HE := Lib.hid fun (W : World) (h : BarsAt W W.heap.size A l) (k : BarsAt W W.heap.size C x) => specEqual p r l x A C ca cc W h k (by omega)
  go_enter Try.func66, Try.ntmps66
  go_wp2_with fail
  generalize ((w.alloc (.cells #[.int .i64 p, .slice A l.length ca, .slice B m.length cb] 63)).alloc (.cells #[.int .i64 r, .slice C x.length cc, .slice D y.length cd] 63)) = w1 at *
  by_cases h : eqG p r l x = true
  · rw [h] at HE
    have hg := eqG_iff.1 h
    refine (HE.out _ HF.out.fa.b.at HF.out.fb.b.at).mono ?_
    rintro e w2 ⟨rfl, hb⟩
    have HF2 := Lib.hid (HF.out.below hb)
    obtain ⟨_, x0, x1, x2⟩ := HF2.out.bxa
    obtain ⟨_, y0, y1, y2⟩ := HF2.out.bxb
    have HG := Lib.hid hg
    clear hb HF HE h hg
    by_cases hlen : m.length = y.length
    · have hne : ((m.length : Int) != (y.length : Int)) = false := by simp [hlen]
      have HLEN := Lib.hid hlen
      clear hlen
      go_wp2_with fail
      clear x0 x1 x2 y0 y1 y2 hne
      go_loopw [5] (fun i wr => ∃ k : Nat, k ≤ m.length ∧ i = .int .i64 k ∧ (∀ j, j < k → m.getD j (0, 0) = y.getD j (0, 0)) ∧ F2I w wr lo hi lo' hi' p A ca l B cb m r C cc x D cd y) (fun i _ => m.length - (intOf i).toNat)
      case atStart => exact ⟨0, by omega, rfl, fun j hj => absurd hj (by omega), HF2.out⟩
      case round =>
        clear HF2
        obtain ⟨k, hk, rfl, hall, hf⟩ := hrel
        have HALL := Lib.hid hall
        have HF := Lib.hid hf
        clear hall hf
        obtain ⟨_, x0, x1, x2⟩ := HF.out.bxa
        obtain ⟨_, y0, y1, y2⟩ := HF.out.bxb
        by_cases hlt : k < m.length
        · have hi : (k : Int) < (m.length : Int) := by omega
          have hi' : (k : Int) < (y.length : Int) := by have := HLEN.out; omega
          obtain ⟨b, off, rfl, _, _, hcell⟩ := HF.out.fa.p.2 (by omega)
          obtain ⟨b', off', rfl, _, _, hcell'⟩ := HF.out.fb.p.2 (by omega)
          obtain ⟨hc1, hc2⟩ := hcell k hlt
          obtain ⟨hc3, hc4⟩ := hcell' k (by omega)
          clear hcell hcell'
          have HN := Lib.hid (show m.getD k (0, 0) ≠ y.getD k (0, 0) → eqFB p l m r x y = false from fun hne => decide_eq_false fun hh => hne (by rw [hh.2]))
          have HS := Lib.hid (show m.getD k (0, 0) = y.getD k (0, 0) → ∀ j, j < k + 1 → m.getD j (0, 0) = y.getD j (0, 0) from fun h j hj => by
            by_cases e : j = k
            · rw [e]; exact h
            · exact HALL.out j (by omega))
          obtain ⟨u, hu⟩ : ∃ u, m.getD k (0, 0) = u := ⟨_, rfl⟩
          obtain ⟨v, hv⟩ : ∃ v, y.getD k (0, 0) = v := ⟨_, rfl⟩
          rw [hu] at hc1 hc2 HN HS
          rw [hv] at hc3 hc4 HN HS
          clear hu hv HALL
          by_cases he : u = v
          · have hne := neB_no he
            have HSS := Lib.hid (HS.out he)
            clear HN HS he
            obtain ⟨u1, u2⟩ := u
            obtain ⟨v1, v2⟩ := v
            go_wp2_with fail
            go_quiet (fail)
            go_wp2_with fail
            go_roundw
            case rel => exact ⟨k + 1, by omega, by go_num, HSS.out, HF.out.below (below_drewN _ _ _)⟩
            case measure => simp [intOf]; omega
          · have hne := neB_yes he
            have HNN := Lib.hid (HN.out he)
            clear HN HS he
            obtain ⟨u1, u2⟩ := u
            obtain ⟨v1, v2⟩ := v
            go_wp2_with fail
            go_quiet (fail)
            go_wp2_with fail
            go_ret
            exact ⟨by rw [HNN.out]; rfl, HF.out.bel.trans (below_drewN _ _ _)⟩
        · obtain rfl : k = m.length := by omega
          have HQ := Lib.hid (show eqFB p l m r x y = true from decide_eq_true ⟨HG.out, list_eq m y HLEN.out HALL.out⟩)
          go_wp2_with fail
          go_ret
          exact ⟨by rw [HQ.out]; rfl, HF.out.bel⟩
    · have hne : ((m.length : Int) != (y.length : Int)) = true := by simp; omega
      have HQ := Lib.hid (show eqFB p l m r x y = false from decide_eq_false fun hh => hlen (by rw [hh.2]))
      clear hlen
      go_wp2_with fail
      go_ret
      exact ⟨by rw [HQ.out]; rfl, HF2.out.bel⟩
  · have HQ := Lib.hid (show eqFB p l m r x y = false from decide_eq_false fun hh => h (eqG_iff.2 hh.1))
    rw [show eqG p r l x = false by simpa using h] at HE
    clear h
    refine (HE.out _ HF.out.fa.b.at HF.out.fb.b.at).mono ?_
    rintro e w2 ⟨rfl, hb⟩
    have HF2 := Lib.hid (HF.out.below hb)
    clear hb
    go_wp2_with fail
    go_ret
    exact ⟨by rw [HQ.out]; rfl, HF2.out.bel⟩
end Go.Proofs.Ytehendofgcebcaa
