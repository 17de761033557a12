/- The law FnExactMoveJoint returns true at every input. No condition. -/
import Derived.Test.YtehendofgcebcaaMovS
import Derived.Test.YtehendofgcebcaaMovI
import Derived.Deep.RegionHeld3
namespace Go.Proofs.Ytehendofgcebcaa
open Go.RowKit

/-- What a region leaves that asks for a framework: it lies in a box, its rows of the call's own; the flag. -/
def BoxF (c : World) (p : Int) (l m : List (Int × Int)) (r : Bool) (b1 b2 : Value) (wx : World) : Prop :=
  ∃ (gb : Nat) (A : Option Addr) (ca : Nat) (B : Option Addr) (cb : Nat) (lo hi : Nat), b1 = .pointer (some ⟨gb, 0, none⟩) ∧ b2 = .bool r ∧ Below c.heap.size c wx ∧ (c.heap.size ≤ lo ∧ c.heap.size ≤ gb ∧ (gb < lo ∨ hi ≤ gb)) ∧ Box3 wx gb p (.slice A l.length ca) (.slice B m.length cb) ∧ OwnFw wx lo hi A ca l B cb m
theorem OwnFw.hi {W : World} {lo hi : Nat} {A B : Option Addr} {ca cb : Nat} {l m : List (Int × Int)} (h : OwnFw W lo hi A ca l B cb m) : hi ≤ W.heap.size := by
  obtain ⟨_, _, _, _, _, _, _, h⟩ := h
  exact h
theorem boxF_in {c d W : World} {gb lo : Nat} {p : Int} {l m : List (Int × Int)} {r : Bool} {A B : Option Addr} {ca cb : Nat} {a0 a1 a2 : Value} (hd : Below c.heap.size c d) (hB : Below d.heap.size d W) (hX : Cel3 W gb 63 a0 a1 a2) (hge : d.heap.size ≤ gb) (_hlo : d.heap.size ≤ lo) (ho : OwnFw W lo W.heap.size A ca l B cb m) (hl : gb + 1 ≤ lo) :
    BoxF c p l m r (.pointer (some ⟨gb, 0, none⟩)) (.bool r) (((W.setCell ⟨gb, 0, none⟩ (.int .i64 p)).setCell ⟨gb, 1, none⟩ (.slice A l.length ca)).setCell ⟨gb, 2, none⟩ (.slice B m.length cb)) := by
  obtain ⟨hc, hw⟩ := ret3 hX (.int .i64 p) (.slice A l.length ca) (.slice B m.length cb)
  have hdc := hd.size
  obtain ⟨c0, c1, c2, _, _, _⟩ := hc.cells
  exact ⟨gb, A, ca, B, cb, lo, W.heap.size, rfl, rfl, within_on (below_on hd hB hd.size) hw (Nat.le_trans hd.size hB.size) (.inl (by omega)), ⟨by omega, by omega, .inl (by omega)⟩, ⟨hc.lt, c0, c1, c2⟩, ho.within hw (.inr hl)⟩
theorem boxF_new {c d W : World} {lo : Nat} {p : Int} {l m : List (Int × Int)} {r : Bool} {A B : Option Addr} {ca cb : Nat} (hd : Below c.heap.size c d) (hB : Below d.heap.size d W) (hlo : d.heap.size ≤ lo) (ho : OwnFw W lo W.heap.size A ca l B cb m) :
    BoxF c p l m r (.pointer (some ⟨W.heap.size, 0, none⟩)) (.bool r) (W.alloc (.cells #[.int .i64 p, .slice A l.length ca, .slice B m.length cb] 63)) := by
  have hal := new_below W (.cells #[.int .i64 p, .slice A l.length ca, .slice B m.length cb] 63)
  have hcd := below_on hd hB hd.size
  exact ⟨W.heap.size, A, ca, B, cb, lo, W.heap.size, rfl, rfl, below_on hcd hal hcd.size, ⟨Nat.le_trans hd.size hlo, hcd.size, .inr (Nat.le_refl _)⟩, box3_new W _ _ _ _, ho.within (within_of hal) (.inr (Nat.zero_le _))⟩

set_option maxHeartbeats 4000000 in
set_option maxRecDepth 100000 in
theorem lawMoveJoint (q : Int) (A : Option Addr) (cap : Nat) (l : List (Int × Int)) (B : Option Addr) (cb : Nat) (m : List (Int × Int)) (a1 px py : Int) (w : World) (hl : l.length ≤ maxLen ∧ m.length ≤ maxLen) (hb : BarsAt w w.heap.size A l) (hc : BarsAt w w.heap.size B m) (_w1 : (Lit.int .i64 a1).wf = true) :
    Calls Try.prog 10 #[.agg #[.int .i64 q, .slice A l.length cap, .slice B m.length cb], .int .i64 a1, .agg #[.int .i64 px, .int .i64 py]] w fun e w' => e = .returned (.bool true) ∧ Below w.heap.size w w' := by
  have HB_0 := Lib.hid (fw_in hb hc)
  clear hb hc
  by_cases hn : l.length + m.length ≤ 1048576
  · have W0 := Lib.hid (Below.refl w.heap.size w)
    obtain ⟨ms, R, hml, hsp, him⟩ : ∃ (ms : List (Int × Int)) (R : Bool), ms.length = m.length ∧ (∀ (A B : Addr) (lo hi : Nat) (W : World) (h : FwIn W lo hi (some A) l (some B) m), Calls Try.prog 61 #[.agg #[.int .i64 q, .slice (some A) l.length l.length, .slice (some B) m.length m.length], .int .i64 a1, .agg #[.int .i64 px, .int .i64 py]] W (FwOB W q l ms R)) ∧ (∀ (A B : Option Addr) (lo hi : Nat) (W : World) (h : FwIn W lo hi A l B m), Calls Try.prog 63 #[.agg #[.int .i64 q, .slice A l.length l.length, .slice B m.length m.length], .int .i64 a1, .agg #[.int .i64 px, .int .i64 py]] W (FwOB W q l ms R)) :=
      ⟨movL q l m a1 (px, py), movB q l m a1 (px, py), movL_len q l m a1 (px, py), fun A B lo hi W h => specMov q l m a1 px py A l.length B m.length lo hi W h hn, fun A B lo hi W h => implMov q l m a1 px py A l.length B m.length lo hi W h hn⟩
    have hnm : l.length + ms.length ≤ 1048576 := by omega
    have HML := Lib.hid hml
    have HSP := Lib.hid hsp
    have HIM := Lib.hid him
    clear hsp him hml
    have hal := new_below w (.cells #[.int .i64 q, .slice A l.length cap, .slice B m.length cb] 58)
    have Z1 := Lib.hid (within_of hal).size
    have W1 := Lib.hid (within_on W0.out (within_of hal) W0.out.size (.inr (Nat.le_refl _)))
    have HB_1 := Lib.hid (HB_0.out.within (within_of hal) (by omega))
    clear hal
    have hsz : (w.alloc (.cells #[.int .i64 q, .slice A l.length cap, .slice B m.length cb] 58)).heap.size = w.heap.size + 1 := by simp
    have Y1 := Lib.hid hsz
    clear hsz
    have BX_1 := Lib.hid (box3_new w q (.slice A l.length cap) (.slice B m.length cb) 58)
    have hal := new_below (w.alloc (.cells #[.int .i64 q, .slice A l.length cap, .slice B m.length cb] 58)) (.cells #[.int .i64 px, .int .i64 py] 73)
    have Z2 := Lib.hid (within_of hal).size
    have W2 := Lib.hid (within_on W1.out (within_of hal) W1.out.size (.inr (Nat.le_refl _)))
    have HB_2 := Lib.hid (HB_1.out.within (within_of hal) (by omega))
    have BX_2 := Lib.hid (BX_1.out.within (within_of hal) (by omega))
    clear hal
    have hsz : ((w.alloc (.cells #[.int .i64 q, .slice A l.length cap, .slice B m.length cb] 58)).alloc (.cells #[.int .i64 px, .int .i64 py] 73)).heap.size = (w.alloc (.cells #[.int .i64 q, .slice A l.length cap, .slice B m.length cb] 58)).heap.size + 1 := by simp
    have Y2 := Lib.hid hsz
    clear hsz
    have hbp := box_new (w.alloc (.cells #[.int .i64 q, .slice A l.length cap, .slice B m.length cb] 58)) px (.int .i64 py) 73
    rw [Y1.out] at hbp
    have BP_2 := Lib.hid hbp
    clear hbp
    go_enter Try.func10, Try.ntmps10
    go_wp2_with fail
    generalize ((w.alloc (.cells #[.int .i64 q, .slice A l.length cap, .slice B m.length cb] 58)).alloc (.cells #[.int .i64 px, .int .i64 py] 73)) = w2 at *
    generalize (w.alloc (.cells #[.int .i64 q, .slice A l.length cap, .slice B m.length cb] 58)) = w1 at *
    refine (szFw_c q A l.length cap B m.length cb 1048576 _ (by omega) (by omega)).mono ?_
    rintro e w3 ⟨rfl, hb⟩
    have Z3 := Lib.hid (within_of hb).size
    have W3 := Lib.hid (within_on W2.out (within_of hb) W2.out.size (.inr (Nat.le_refl _)))
    have HB_3 := Lib.hid (HB_2.out.within (within_of hb) (by omega))
    have BX_3 := Lib.hid (BX_2.out.within (within_of hb) (by omega))
    have BP_3 := Lib.hid (BP_2.out.within (within_of hb) (by omega))
    clear hb
    have hnn : ¬ (1048576 : Int) - (l.length : Int) - (m.length : Int) < 0 := by omega
    have hdr : Below w3.heap.size w3 w3.drew := (Below.refl _ _).drew
    have Hd := Lib.hid ((HB_3.out).within (within_of hdr) (.inr (Nat.zero_le _)))
    have HS := Lib.hid (fun (W : World) (hb : Below w3.drew.heap.size w3.drew W) => (show (fun W' => W'.cell? ⟨w.heap.size, 0, none⟩ = some (.int .i64 q) ∧ W'.cell? ⟨w.heap.size, 1, none⟩ = some (.slice A l.length cap) ∧ W'.cell? ⟨w.heap.size, 2, none⟩ = some (.slice B m.length cb) ∧ W'.cell? ⟨w.heap.size + 1, 0, none⟩ = some (.int .i64 px) ∧ W'.cell? ⟨w.heap.size + 1, 1, none⟩ = some (.int .i64 py)) W from ⟨((BX_3.out.kept hdr).kept hb).2.1, ((BX_3.out.kept hdr).kept hb).2.2.1, ((BX_3.out.kept hdr).kept hb).2.2.2, ((BP_3.out.kept hdr).kept hb).2.1, ((BP_3.out.kept hdr).kept hb).2.2⟩))
    clear hdr
    go_wp2_with fail
    go_cut [8, 9] (fun b1 b2 wx => BoxF w3 q l ms R b1 b2 wx)
    case first =>
      go_region_held3 (fun W' => W'.cell? ⟨w.heap.size, 0, none⟩ = some (.int .i64 q) ∧ W'.cell? ⟨w.heap.size, 1, none⟩ = some (.slice A l.length cap) ∧ W'.cell? ⟨w.heap.size, 2, none⟩ = some (.slice B m.length cb) ∧ W'.cell? ⟨w.heap.size + 1, 0, none⟩ = some (.int .i64 px) ∧ W'.cell? ⟨w.heap.size + 1, 1, none⟩ = some (.int .i64 py))
        (first | exact HS.out _ (Below.refl _ _) | exact HS.out _ (new_below _ _) | exact HS.out _ BwA.out | exact HS.out _ (below_on BwA.out (new_below _ _) BwA.out.size) | exact HS.out _ BwB.out | exact HS.out _ (below_on BwB.out (new_below _ _) BwB.out.size) | exact HS.out _ BwC.out | exact HS.out _ (below_on BwC.out (new_below _ _) BwC.out.size) | exact HS.out _ (((BwC.out.setCell (p := ⟨_, 0, none⟩) HGE.out _).setCell (p := ⟨_, 1, none⟩) HGE.out _).setCell (p := ⟨_, 2, none⟩) HGE.out _) | exact HS.out _ ((((below_on BwC.out (new_below _ _) BwC.out.size).setCell (p := ⟨_, 0, none⟩) BwC.out.size _).setCell (p := ⟨_, 1, none⟩) BwC.out.size _).setCell (p := ⟨_, 2, none⟩) BwC.out.size _))
        (first
          | (go_at_call 61; refine (HSP.out _ _ _ _ wB GwB.out).mono ?_; rintro e wC ⟨AS, cS, BS, dS, rfl, ho, hb⟩; have BwC := Lib.hid (show Below w3.drew.heap.size w3.drew wC from (below_on BwB.out hb BwB.out.size)); have SwC := Lib.hid (ho); have LO := Lib.hid (show w3.drew.heap.size ≤ wB.heap.size from BwB.out.size); (first | (have XwC := Lib.hid (XwB.out.kept hb); have HGL3 := Lib.hid (Nat.succ_le_of_lt HGL.out); have HGL := Lib.hid (Nat.lt_of_lt_of_le HGL.out hb.size); have HGL2 := HGL) | skip); (first | (obtain ⟨_, _, _, _, _, _⟩ := XwC.out.cells) | (obtain ⟨_, _, _, _, _, _⟩ := (cel3_new wC (.int .i64 0) (.slice none 0 0) (.slice none 0 0) 63).cells)); clear ho hb)
          | (go_at_call 61; have hal := new_below wB (.cells #[.int .i64 0, .slice none 0 0, .slice none 0 0] 63); refine (HSP.out _ _ _ _ (wB.alloc (.cells #[.int .i64 0, .slice none 0 0, .slice none 0 0] 63)) (GwB.out.within (within_alloc wB (.cells #[.int .i64 0, .slice none 0 0, .slice none 0 0] 63)) (.inr (Nat.zero_le _)))).mono ?_; rintro e wC ⟨AS, cS, BS, dS, rfl, ho, hb⟩; have BwC := Lib.hid (show Below w3.drew.heap.size w3.drew wC from (below_on (below_on BwB.out hal BwB.out.size) hb (below_on BwB.out hal BwB.out.size).size)); have SwC := Lib.hid (ho); have LO := Lib.hid (show w3.drew.heap.size ≤ (wB.alloc (.cells #[.int .i64 0, .slice none 0 0, .slice none 0 0] 63)).heap.size from (below_on BwB.out hal BwB.out.size).size); have XwC := Lib.hid (show Cel3 wC (wB.heap.size) 63 (.int .i64 0) (.slice none 0 0) (.slice none 0 0) from (cel3_new wB (.int .i64 0) (.slice none 0 0) (.slice none 0 0) 63).kept hb); have hge : w3.drew.heap.size ≤ wB.heap.size := BwB.out.size; have hgl : wB.heap.size < (wB.alloc (.cells #[.int .i64 0, .slice none 0 0, .slice none 0 0] 63)).heap.size := (by simp); have HGE := Lib.hid hge; have HGL := Lib.hid (Nat.lt_of_lt_of_le hgl hb.size); have HGM := Lib.hid (show wB.heap.size + 1 ≤ (wB.alloc (.cells #[.int .i64 0, .slice none 0 0, .slice none 0 0] 63)).heap.size from hgl); clear hge hgl; (first | (obtain ⟨_, _, _, _, _, _⟩ := XwC.out.cells) | (obtain ⟨_, _, _, _, _, _⟩ := (cel3_new wC (.int .i64 0) (.slice none 0 0) (.slice none 0 0) 63).cells)); clear ho hb)
          | (go_at_call 62; refine (toPlace_c px py wA).mono ?_; rintro e wB ⟨rfl, hb⟩; have BwB := Lib.hid (show Below w3.drew.heap.size w3.drew wB from (below_on BwA.out hb BwA.out.size)); have GwB := Lib.hid (GwA.out.within (within_of hb) (.inr (Nat.zero_le _))); (first | (have XwB := Lib.hid (XwA.out.kept hb); have HGL3 := Lib.hid (Nat.succ_le_of_lt HGL.out); have HGL := Lib.hid (Nat.lt_of_lt_of_le HGL.out hb.size); have HGL2 := HGL) | skip); clear hb)
          | (go_at_call 62; have hal := new_below wA (.cells #[.int .i64 0, .slice none 0 0, .slice none 0 0] 63); refine (toPlace_c px py (wA.alloc (.cells #[.int .i64 0, .slice none 0 0, .slice none 0 0] 63))).mono ?_; rintro e wB ⟨rfl, hb⟩; have BwB := Lib.hid (show Below w3.drew.heap.size w3.drew wB from (below_on (below_on BwA.out hal BwA.out.size) hb (below_on BwA.out hal BwA.out.size).size)); have GwB := Lib.hid ((GwA.out.within (within_alloc wA (.cells #[.int .i64 0, .slice none 0 0, .slice none 0 0] 63)) (.inr (Nat.zero_le _))).within (within_of hb) (.inr (Nat.zero_le _))); have XwB := Lib.hid (show Cel3 wB (wA.heap.size) 63 (.int .i64 0) (.slice none 0 0) (.slice none 0 0) from (cel3_new wA (.int .i64 0) (.slice none 0 0) (.slice none 0 0) 63).kept hb); have hge : w3.drew.heap.size ≤ wA.heap.size := BwA.out.size; have hgl : wA.heap.size < (wA.alloc (.cells #[.int .i64 0, .slice none 0 0, .slice none 0 0] 63)).heap.size := (by simp); have HGE := Lib.hid hge; have HGL := Lib.hid (Nat.lt_of_lt_of_le hgl hb.size); have HGM := Lib.hid (show wA.heap.size + 1 ≤ (wA.alloc (.cells #[.int .i64 0, .slice none 0 0, .slice none 0 0] 63)).heap.size from hgl); clear hge hgl; clear hb)
          | (go_at_call 45; refine (toFw_c q l m A cap B cb _ _ w3.drew Hd.out hn).mono ?_; rintro e wA ⟨g0, g1, rfl, ho, hb⟩; have BwA := Lib.hid (show Below w3.drew.heap.size w3.drew wA from hb); have GwA := Lib.hid (ho.reads); clear ho hb)
          | (go_at_call 45; have hal := new_below w3.drew (.cells #[.int .i64 0, .slice none 0 0, .slice none 0 0] 63); refine (toFw_c q l m A cap B cb _ _ (w3.drew.alloc (.cells #[.int .i64 0, .slice none 0 0, .slice none 0 0] 63)) (Hd.out.within (within_alloc w3.drew (.cells #[.int .i64 0, .slice none 0 0, .slice none 0 0] 63)) (.inr (Nat.zero_le _))) hn).mono ?_; rintro e wA ⟨g0, g1, rfl, ho, hb⟩; have BwA := Lib.hid (show Below w3.drew.heap.size w3.drew wA from (below_on (below_on (Below.refl w3.drew.heap.size w3.drew) hal (Below.refl w3.drew.heap.size w3.drew).size) hb (below_on (Below.refl w3.drew.heap.size w3.drew) hal (Below.refl w3.drew.heap.size w3.drew).size).size)); have GwA := Lib.hid (ho.reads); have XwA := Lib.hid (show Cel3 wA (w3.heap.size) 63 (.int .i64 0) (.slice none 0 0) (.slice none 0 0) from (cel3_new w3.drew (.int .i64 0) (.slice none 0 0) (.slice none 0 0) 63).kept hb); have hge : w3.drew.heap.size ≤ w3.heap.size := (Below.refl w3.drew.heap.size w3.drew).size; have hgl : w3.heap.size < (w3.drew.alloc (.cells #[.int .i64 0, .slice none 0 0, .slice none 0 0] 63)).heap.size := (by simp); have HGE := Lib.hid hge; have HGL := Lib.hid (Nat.lt_of_lt_of_le hgl hb.size); have HGM := Lib.hid (show w3.heap.size + 1 ≤ (w3.drew.alloc (.cells #[.int .i64 0, .slice none 0 0, .slice none 0 0] 63)).heap.size from hgl); clear hge hgl; clear ho hb))
      all_goals (
        go_wp2_with fail
        go_meet
        case rel =>
          first
            | exact boxF_in ((Below.refl _ _).drew) BwC.out XwC.out HGE.out LO.out SwC.out HGL3.out
            | exact boxF_in ((Below.refl _ _).drew) BwC.out XwC.out HGE.out LO.out SwC.out HGM.out
            | exact boxF_new ((Below.refl _ _).drew) BwC.out LO.out SwC.out)
    case rest =>
      obtain ⟨gb1, ABW, cBW, DBW, dBW, lo1, hi1, rfl, rfl, hb, hg, hcb, ho⟩ := hcut
      obtain ⟨w4, hwn⟩ : ∃ x, x = wc := ⟨_, rfl⟩
      subst hwn
      have Z4 := Lib.hid (within_of hb).size
      have W4 := Lib.hid (within_on W3.out (within_of hb) W3.out.size (.inr (Nat.le_refl _)))
      have HB_4 := Lib.hid (HB_3.out.within (within_of hb) (by omega))
      have BX_4 := Lib.hid (BX_3.out.within (within_of hb) (by omega))
      have BP_4 := Lib.hid (BP_3.out.within (within_of hb) (by omega))
      have BW_4 := Lib.hid hcb
      have SR_4 := Lib.hid ho
      have hoh := OwnFw.hi ho
      have Y4 := Lib.hid (And.intro hg (And.intro hcb.1 hoh))
      clear hb hg hcb ho hoh HS Hd
      obtain ⟨g01, g02, g03, g04⟩ := BX_4.out
      go_wp2_with fail
      clear g01 g02 g03 g04
      refine (toFw_c q l m A cap B cb _ _ _ HB_4.out hn).mono ?_
      rintro e w5 ⟨x0, x1, rfl, ho, hb⟩
      have Z5 := Lib.hid (within_of hb).size
      have W5 := Lib.hid (within_on W4.out (within_of hb) W4.out.size (.inr (Nat.le_refl _)))
      have HB_5 := Lib.hid (HB_4.out.within (within_of hb) (by omega))
      have BX_5 := Lib.hid (BX_4.out.within (within_of hb) (by omega))
      have BP_5 := Lib.hid (BP_4.out.within (within_of hb) (by omega))
      have BW_5 := Lib.hid (BW_4.out.within (within_of hb) (by omega))
      have SR_5 := Lib.hid (SR_4.out.within (within_of hb) (by omega))
      have SX_5 := Lib.hid (ho)
      clear ho hb
      go_wp2_with fail
      have hal := new_below w5 (.cells #[.int .i64 q, .slice (some ⟨x0, 0, none⟩) l.length l.length, .slice (some ⟨x1, 0, none⟩) m.length m.length] 63)
      have Z6 := Lib.hid (within_of hal).size
      have W6 := Lib.hid (within_on W5.out (within_of hal) W5.out.size (.inr (Nat.le_refl _)))
      have HB_6 := Lib.hid (HB_5.out.within (within_of hal) (by omega))
      have BX_6 := Lib.hid (BX_5.out.within (within_of hal) (by omega))
      have BP_6 := Lib.hid (BP_5.out.within (within_of hal) (by omega))
      have BW_6 := Lib.hid (BW_5.out.within (within_of hal) (by omega))
      have SR_6 := Lib.hid (SR_5.out.within (within_of hal) (by omega))
      have SX_6 := Lib.hid (SX_5.out.within (within_of hal) (by omega))
      clear hal
      have hsz : (w5.alloc (.cells #[.int .i64 q, .slice (some ⟨x0, 0, none⟩) l.length l.length, .slice (some ⟨x1, 0, none⟩) m.length m.length] 63)).heap.size = w5.heap.size + 1 := by simp
      have Y6 := Lib.hid hsz
      clear hsz
      have XX_6 := Lib.hid (box3_new w5 q (.slice (some ⟨x0, 0, none⟩) l.length l.length) (.slice (some ⟨x1, 0, none⟩) m.length m.length) 63)
      generalize (w5.alloc (.cells #[.int .i64 q, .slice (some ⟨x0, 0, none⟩) l.length l.length, .slice (some ⟨x1, 0, none⟩) m.length m.length] 63)) = w6 at *
      have hdr : Below w6.heap.size w6 w6.drew := (Below.refl _ _).drew
      have Gd := Lib.hid ((SX_6.out.reads).within (within_of hdr) (.inr (Nat.zero_le _)))
      have HS := Lib.hid (fun (W : World) (hb : Below w6.drew.heap.size w6.drew W) => (show (fun W' => W'.cell? ⟨w.heap.size, 0, none⟩ = some (.int .i64 q) ∧ W'.cell? ⟨w.heap.size, 1, none⟩ = some (.slice A l.length cap) ∧ W'.cell? ⟨w.heap.size, 2, none⟩ = some (.slice B m.length cb) ∧ W'.cell? ⟨w.heap.size + 1, 0, none⟩ = some (.int .i64 px) ∧ W'.cell? ⟨w.heap.size + 1, 1, none⟩ = some (.int .i64 py) ∧ W'.cell? ⟨w5.heap.size, 0, none⟩ = some (.int .i64 q) ∧ W'.cell? ⟨w5.heap.size, 1, none⟩ = some (.slice (some ⟨x0, 0, none⟩) l.length l.length) ∧ W'.cell? ⟨w5.heap.size, 2, none⟩ = some (.slice (some ⟨x1, 0, none⟩) m.length m.length)) W from ⟨((BX_6.out.kept hdr).kept hb).2.1, ((BX_6.out.kept hdr).kept hb).2.2.1, ((BX_6.out.kept hdr).kept hb).2.2.2, ((BP_6.out.kept hdr).kept hb).2.1, ((BP_6.out.kept hdr).kept hb).2.2, ((XX_6.out.kept hdr).kept hb).2.1, ((XX_6.out.kept hdr).kept hb).2.2.1, ((XX_6.out.kept hdr).kept hb).2.2.2⟩))
      clear hdr
      go_wp2_with fail
      go_cut [11, 12] (fun b1 b2 wx => BoxF w6 q l ms R b1 b2 wx)
      case first =>
        go_region_held3 (fun W' => W'.cell? ⟨w.heap.size, 0, none⟩ = some (.int .i64 q) ∧ W'.cell? ⟨w.heap.size, 1, none⟩ = some (.slice A l.length cap) ∧ W'.cell? ⟨w.heap.size, 2, none⟩ = some (.slice B m.length cb) ∧ W'.cell? ⟨w.heap.size + 1, 0, none⟩ = some (.int .i64 px) ∧ W'.cell? ⟨w.heap.size + 1, 1, none⟩ = some (.int .i64 py) ∧ W'.cell? ⟨w5.heap.size, 0, none⟩ = some (.int .i64 q) ∧ W'.cell? ⟨w5.heap.size, 1, none⟩ = some (.slice (some ⟨x0, 0, none⟩) l.length l.length) ∧ W'.cell? ⟨w5.heap.size, 2, none⟩ = some (.slice (some ⟨x1, 0, none⟩) m.length m.length))
          (first | exact HS.out _ (Below.refl _ _) | exact HS.out _ (new_below _ _) | exact HS.out _ BwA.out | exact HS.out _ (below_on BwA.out (new_below _ _) BwA.out.size) | exact HS.out _ BwB.out | exact HS.out _ (below_on BwB.out (new_below _ _) BwB.out.size) | exact HS.out _ (((BwB.out.setCell (p := ⟨_, 0, none⟩) HGE.out _).setCell (p := ⟨_, 1, none⟩) HGE.out _).setCell (p := ⟨_, 2, none⟩) HGE.out _) | exact HS.out _ ((((below_on BwB.out (new_below _ _) BwB.out.size).setCell (p := ⟨_, 0, none⟩) BwB.out.size _).setCell (p := ⟨_, 1, none⟩) BwB.out.size _).setCell (p := ⟨_, 2, none⟩) BwB.out.size _))
          (first
            | (go_at_call 63; refine (HIM.out _ _ _ _ wA GwA.out).mono ?_; rintro e wB ⟨AS, cS, BS, dS, rfl, ho, hb⟩; have BwB := Lib.hid (show Below w6.drew.heap.size w6.drew wB from (below_on BwA.out hb BwA.out.size)); have SwB := Lib.hid (ho); have LO := Lib.hid (show w6.drew.heap.size ≤ wA.heap.size from BwA.out.size); (first | (have XwB := Lib.hid (XwA.out.kept hb); have HGL3 := Lib.hid (Nat.succ_le_of_lt HGL.out); have HGL := Lib.hid (Nat.lt_of_lt_of_le HGL.out hb.size); have HGL2 := HGL) | skip); (first | (obtain ⟨_, _, _, _, _, _⟩ := XwB.out.cells) | (obtain ⟨_, _, _, _, _, _⟩ := (cel3_new wB (.int .i64 0) (.slice none 0 0) (.slice none 0 0) 63).cells)); clear ho hb)
            | (go_at_call 63; have hal := new_below wA (.cells #[.int .i64 0, .slice none 0 0, .slice none 0 0] 63); refine (HIM.out _ _ _ _ (wA.alloc (.cells #[.int .i64 0, .slice none 0 0, .slice none 0 0] 63)) (GwA.out.within (within_alloc wA (.cells #[.int .i64 0, .slice none 0 0, .slice none 0 0] 63)) (.inr (Nat.zero_le _)))).mono ?_; rintro e wB ⟨AS, cS, BS, dS, rfl, ho, hb⟩; have BwB := Lib.hid (show Below w6.drew.heap.size w6.drew wB from (below_on (below_on BwA.out hal BwA.out.size) hb (below_on BwA.out hal BwA.out.size).size)); have SwB := Lib.hid (ho); have LO := Lib.hid (show w6.drew.heap.size ≤ (wA.alloc (.cells #[.int .i64 0, .slice none 0 0, .slice none 0 0] 63)).heap.size from (below_on BwA.out hal BwA.out.size).size); have XwB := Lib.hid (show Cel3 wB (wA.heap.size) 63 (.int .i64 0) (.slice none 0 0) (.slice none 0 0) from (cel3_new wA (.int .i64 0) (.slice none 0 0) (.slice none 0 0) 63).kept hb); have hge : w6.drew.heap.size ≤ wA.heap.size := BwA.out.size; have hgl : wA.heap.size < (wA.alloc (.cells #[.int .i64 0, .slice none 0 0, .slice none 0 0] 63)).heap.size := (by simp); have HGE := Lib.hid hge; have HGL := Lib.hid (Nat.lt_of_lt_of_le hgl hb.size); have HGM := Lib.hid (show wA.heap.size + 1 ≤ (wA.alloc (.cells #[.int .i64 0, .slice none 0 0, .slice none 0 0] 63)).heap.size from hgl); clear hge hgl; (first | (obtain ⟨_, _, _, _, _, _⟩ := XwB.out.cells) | (obtain ⟨_, _, _, _, _, _⟩ := (cel3_new wB (.int .i64 0) (.slice none 0 0) (.slice none 0 0) 63).cells)); clear ho hb)
            | (go_at_call 62; refine (toPlace_c px py w6.drew).mono ?_; rintro e wA ⟨rfl, hb⟩; have BwA := Lib.hid (show Below w6.drew.heap.size w6.drew wA from hb); have GwA := Lib.hid (Gd.out.within (within_of hb) (.inr (Nat.zero_le _))); clear hb)
            | (go_at_call 62; have hal := new_below w6.drew (.cells #[.int .i64 0, .slice none 0 0, .slice none 0 0] 63); refine (toPlace_c px py (w6.drew.alloc (.cells #[.int .i64 0, .slice none 0 0, .slice none 0 0] 63))).mono ?_; rintro e wA ⟨rfl, hb⟩; have BwA := Lib.hid (show Below w6.drew.heap.size w6.drew wA from (below_on (below_on (Below.refl w6.drew.heap.size w6.drew) hal (Below.refl w6.drew.heap.size w6.drew).size) hb (below_on (Below.refl w6.drew.heap.size w6.drew) hal (Below.refl w6.drew.heap.size w6.drew).size).size)); have GwA := Lib.hid ((Gd.out.within (within_alloc w6.drew (.cells #[.int .i64 0, .slice none 0 0, .slice none 0 0] 63)) (.inr (Nat.zero_le _))).within (within_of hb) (.inr (Nat.zero_le _))); have XwA := Lib.hid (show Cel3 wA (w6.heap.size) 63 (.int .i64 0) (.slice none 0 0) (.slice none 0 0) from (cel3_new w6.drew (.int .i64 0) (.slice none 0 0) (.slice none 0 0) 63).kept hb); have hge : w6.drew.heap.size ≤ w6.heap.size := (Below.refl w6.drew.heap.size w6.drew).size; have hgl : w6.heap.size < (w6.drew.alloc (.cells #[.int .i64 0, .slice none 0 0, .slice none 0 0] 63)).heap.size := (by simp); have HGE := Lib.hid hge; have HGL := Lib.hid (Nat.lt_of_lt_of_le hgl hb.size); have HGM := Lib.hid (show w6.heap.size + 1 ≤ (w6.drew.alloc (.cells #[.int .i64 0, .slice none 0 0, .slice none 0 0] 63)).heap.size from hgl); clear hge hgl; clear hb))
        all_goals (
          go_wp2_with fail
          go_meet
          case rel =>
            first
              | exact boxF_in ((Below.refl _ _).drew) BwB.out XwB.out HGE.out LO.out SwB.out HGL3.out
              | exact boxF_in ((Below.refl _ _).drew) BwB.out XwB.out HGE.out LO.out SwB.out HGM.out
              | exact boxF_new ((Below.refl _ _).drew) BwB.out LO.out SwB.out)
      case rest =>
        obtain ⟨gb2, ABG, cBG, DBG, dBG, lo2, hi2, rfl, rfl, hb, hg, hcb, ho⟩ := hcut
        obtain ⟨w7, hwn⟩ : ∃ x, x = wc := ⟨_, rfl⟩
        subst hwn
        have Z7 := Lib.hid (within_of hb).size
        have W7 := Lib.hid (within_on W6.out (within_of hb) W6.out.size (.inr (Nat.le_refl _)))
        have HB_7 := Lib.hid (HB_6.out.within (within_of hb) (by omega))
        have BX_7 := Lib.hid (BX_6.out.within (within_of hb) (by omega))
        have BP_7 := Lib.hid (BP_6.out.within (within_of hb) (by omega))
        have BW_7 := Lib.hid (BW_6.out.within (within_of hb) (by omega))
        have SR_7 := Lib.hid (SR_6.out.within (within_of hb) (by omega))
        have SX_7 := Lib.hid (SX_6.out.within (within_of hb) (by omega))
        have XX_7 := Lib.hid (XX_6.out.within (within_of hb) (by omega))
        have BG_7 := Lib.hid hcb
        have SO_7 := Lib.hid ho
        have hoh := OwnFw.hi ho
        have Y7 := Lib.hid (And.intro hg (And.intro hcb.1 hoh))
        clear hb hg hcb ho hoh HS Gd
        obtain ⟨g01, g02, g03, g04⟩ := BG_7.out
        obtain ⟨g11, g12, g13, g14⟩ := BW_7.out
        go_wp2_with fail
        clear g01 g02 g03 g04 g11 g12 g13 g14
        refine (eqFw_c q l ms ABG ABW cBG cBW DBG DBW dBG dBW _ _ _ _ _ SO_7.out.reads SR_7.out.reads hnm).mono ?_
        rintro e w8 ⟨rfl, hb⟩
        have Z8 := Lib.hid (within_of hb).size
        have W8 := Lib.hid (within_on W7.out (within_of hb) W7.out.size (.inr (Nat.le_refl _)))
        have HB_8 := Lib.hid (HB_7.out.within (within_of hb) (by omega))
        have BX_8 := Lib.hid (BX_7.out.within (within_of hb) (by omega))
        have BP_8 := Lib.hid (BP_7.out.within (within_of hb) (by omega))
        have BW_8 := Lib.hid (BW_7.out.within (within_of hb) (by omega))
        have SR_8 := Lib.hid (SR_7.out.within (within_of hb) (by omega))
        have SX_8 := Lib.hid (SX_7.out.within (within_of hb) (by omega))
        have XX_8 := Lib.hid (XX_7.out.within (within_of hb) (by omega))
        have BG_8 := Lib.hid (BG_7.out.within (within_of hb) (by omega))
        have SO_8 := Lib.hid (SO_7.out.within (within_of hb) (by omega))
        clear hb
        have kk0 := box3s2 BX_8.out XX_8.out
        have kk := box3s2 BX_8.out XX_8.out
        have hdr : Below w8.heap.size w8 w8.drew := (Below.refl _ _).drew
        have Z9 := Lib.hid (within_of hdr).size
        have W9 := Lib.hid (within_on W8.out (within_of hdr) W8.out.size (.inr (Nat.le_refl _)))
        have HB_9 := Lib.hid (HB_8.out.within (within_of hdr) (by omega))
        have BX_9 := Lib.hid (BX_8.out.within (within_of hdr) (by omega))
        have BP_9 := Lib.hid (BP_8.out.within (within_of hdr) (by omega))
        have BW_9 := Lib.hid (BW_8.out.within (within_of hdr) (by omega))
        have SR_9 := Lib.hid (SR_8.out.within (within_of hdr) (by omega))
        have SX_9 := Lib.hid (SX_8.out.within (within_of hdr) (by omega))
        have XX_9 := Lib.hid (XX_8.out.within (within_of hdr) (by omega))
        have BG_9 := Lib.hid (BG_8.out.within (within_of hdr) (by omega))
        have SO_9 := Lib.hid (SO_8.out.within (within_of hdr) (by omega))
        clear hdr
        go_wp2_with fail
        go_region_held3 (fun W' => W'.cell? ⟨w.heap.size, 0, none⟩ = some (.int .i64 q) ∧ W'.cell? ⟨w.heap.size, 1, none⟩ = some (.slice A l.length cap) ∧ W'.cell? ⟨w.heap.size, 2, none⟩ = some (.slice B m.length cb) ∧ W'.cell? ⟨w5.heap.size, 0, none⟩ = some (.int .i64 q) ∧ W'.cell? ⟨w5.heap.size, 1, none⟩ = some (.slice (some ⟨x0, 0, none⟩) l.length l.length) ∧ W'.cell? ⟨w5.heap.size, 2, none⟩ = some (.slice (some ⟨x1, 0, none⟩) m.length m.length))
          (first | exact kk | exact box3s2 BX_10.out XX_10.out | exact box3s2 BX_11.out XX_11.out | fail)
          (first
            | (go_at_call 45; refine (toFw_c q l m A cap B cb _ _ _ HB_9.out hn).mono ?_; rintro e w10 ⟨u0, u1, rfl, ho, hb⟩; have Z10 := Lib.hid (within_of hb).size; have W10 := Lib.hid (within_on W9.out (within_of hb) W9.out.size (.inr (Nat.le_refl _))); have HB_10 := Lib.hid (HB_9.out.within (within_of hb) (by omega)); have BX_10 := Lib.hid (BX_9.out.within (within_of hb) (by omega)); have BP_10 := Lib.hid (BP_9.out.within (within_of hb) (by omega)); have BW_10 := Lib.hid (BW_9.out.within (within_of hb) (by omega)); have SR_10 := Lib.hid (SR_9.out.within (within_of hb) (by omega)); have SX_10 := Lib.hid (SX_9.out.within (within_of hb) (by omega)); have XX_10 := Lib.hid (XX_9.out.within (within_of hb) (by omega)); have BG_10 := Lib.hid (BG_9.out.within (within_of hb) (by omega)); have SO_10 := Lib.hid (SO_9.out.within (within_of hb) (by omega)); have YY := Lib.hid ho.reads; clear ho hb)
            | (go_at_call 47; refine (eqFw_c q l m _ _ _ _ _ _ _ _ _ _ _ _ _ SX_10.out.reads YY.out hn).mono ?_; rintro e w11 ⟨rfl, hb⟩; have Z11 := Lib.hid (within_of hb).size; have W11 := Lib.hid (within_on W10.out (within_of hb) W10.out.size (.inr (Nat.le_refl _))); have HB_11 := Lib.hid (HB_10.out.within (within_of hb) (by omega)); have BX_11 := Lib.hid (BX_10.out.within (within_of hb) (by omega)); have BP_11 := Lib.hid (BP_10.out.within (within_of hb) (by omega)); have BW_11 := Lib.hid (BW_10.out.within (within_of hb) (by omega)); have SR_11 := Lib.hid (SR_10.out.within (within_of hb) (by omega)); have SX_11 := Lib.hid (SX_10.out.within (within_of hb) (by omega)); have XX_11 := Lib.hid (XX_10.out.within (within_of hb) (by omega)); have BG_11 := Lib.hid (BG_10.out.within (within_of hb) (by omega)); have SO_11 := Lib.hid (SO_10.out.within (within_of hb) (by omega)); clear hb))
        clear kk0 kk YY
        obtain ⟨g01, g02, g03, g04⟩ := XX_11.out
        go_wp2_with fail
        clear g01 g02 g03 g04
        refine (markFw_o q l m (some ⟨x0, 0, none⟩) l.length (some ⟨x1, 0, none⟩) m.length 1 w4.heap.size w5.heap.size _ SX_11.out hn (by omega) (by omega)).mono ?_
        rintro e w12 ⟨rfl, hin, hox⟩
        have Z12 := Lib.hid (hin).size
        have W12 := Lib.hid (within_on W11.out (hin) W11.out.size (by have := W11.out.size; have := Z1.out; have := Z2.out; have := Z3.out; have := Z4.out; have := Z5.out; have := Z6.out; have := Z7.out; have := Z8.out; have := Z9.out; have := Z10.out; have := Z11.out; have := Z12.out; have := Y1.out; have := Y2.out; have := Y4.out; have := Y6.out; have := Y7.out; omega))
        have HB_12 := Lib.hid (HB_11.out.within (hin) (by have := Z1.out; have := Z2.out; have := Z3.out; have := Z4.out; have := Z5.out; have := Z6.out; have := Z7.out; have := Z8.out; have := Z9.out; have := Z10.out; have := Z11.out; have := Z12.out; have := Y1.out; have := Y2.out; have := Y4.out; have := Y6.out; have := Y7.out; omega))
        have BX_12 := Lib.hid (BX_11.out.within (hin) (by have := Z1.out; have := Z2.out; have := Z3.out; have := Z4.out; have := Z5.out; have := Z6.out; have := Z7.out; have := Z8.out; have := Z9.out; have := Z10.out; have := Z11.out; have := Z12.out; have := Y1.out; have := Y2.out; have := Y4.out; have := Y6.out; have := Y7.out; omega))
        have BP_12 := Lib.hid (BP_11.out.within (hin) (by have := Z1.out; have := Z2.out; have := Z3.out; have := Z4.out; have := Z5.out; have := Z6.out; have := Z7.out; have := Z8.out; have := Z9.out; have := Z10.out; have := Z11.out; have := Z12.out; have := Y1.out; have := Y2.out; have := Y4.out; have := Y6.out; have := Y7.out; omega))
        have BW_12 := Lib.hid (BW_11.out.within (hin) (by have := Z1.out; have := Z2.out; have := Z3.out; have := Z4.out; have := Z5.out; have := Z6.out; have := Z7.out; have := Z8.out; have := Z9.out; have := Z10.out; have := Z11.out; have := Z12.out; have := Y1.out; have := Y2.out; have := Y4.out; have := Y6.out; have := Y7.out; omega))
        have SR_12 := Lib.hid (SR_11.out.within (hin) (by have := Z1.out; have := Z2.out; have := Z3.out; have := Z4.out; have := Z5.out; have := Z6.out; have := Z7.out; have := Z8.out; have := Z9.out; have := Z10.out; have := Z11.out; have := Z12.out; have := Y1.out; have := Y2.out; have := Y4.out; have := Y6.out; have := Y7.out; omega))
        have XX_12 := Lib.hid (XX_11.out.within (hin) (by have := Z1.out; have := Z2.out; have := Z3.out; have := Z4.out; have := Z5.out; have := Z6.out; have := Z7.out; have := Z8.out; have := Z9.out; have := Z10.out; have := Z11.out; have := Z12.out; have := Y1.out; have := Y2.out; have := Y4.out; have := Y6.out; have := Y7.out; omega))
        have BG_12 := Lib.hid (BG_11.out.within (hin) (by have := Z1.out; have := Z2.out; have := Z3.out; have := Z4.out; have := Z5.out; have := Z6.out; have := Z7.out; have := Z8.out; have := Z9.out; have := Z10.out; have := Z11.out; have := Z12.out; have := Y1.out; have := Y2.out; have := Y4.out; have := Y6.out; have := Y7.out; omega))
        have SO_12 := Lib.hid (SO_11.out.within (hin) (by have := Z1.out; have := Z2.out; have := Z3.out; have := Z4.out; have := Z5.out; have := Z6.out; have := Z7.out; have := Z8.out; have := Z9.out; have := Z10.out; have := Z11.out; have := Z12.out; have := Y1.out; have := Y2.out; have := Y4.out; have := Y6.out; have := Y7.out; omega))
        clear hox hin
        have hk1 : ¬ (1 : Int) + 2 * (l.length : Int) + 2 * (m.length : Int) < 0 := by omega
        obtain ⟨g01, g02, g03, g04⟩ := BG_12.out
        obtain ⟨g11, g12, g13, g14⟩ := BW_12.out
        go_wp2_with fail
        clear g01 g02 g03 g04 g11 g12 g13 g14
        refine (eqFw_c q l ms ABG ABW cBG cBW DBG DBW dBG dBW _ _ _ _ _ SO_12.out.reads SR_12.out.reads hnm).mono ?_
        rintro e w13 ⟨rfl, hb⟩
        have Z13 := Lib.hid (within_of hb).size
        have W13 := Lib.hid (within_on W12.out (within_of hb) W12.out.size (.inr (Nat.le_refl _)))
        have HB_13 := Lib.hid (HB_12.out.within (within_of hb) (by omega))
        have BX_13 := Lib.hid (BX_12.out.within (within_of hb) (by omega))
        have BP_13 := Lib.hid (BP_12.out.within (within_of hb) (by omega))
        have BW_13 := Lib.hid (BW_12.out.within (within_of hb) (by omega))
        have SR_13 := Lib.hid (SR_12.out.within (within_of hb) (by omega))
        have XX_13 := Lib.hid (XX_12.out.within (within_of hb) (by omega))
        have BG_13 := Lib.hid (BG_12.out.within (within_of hb) (by omega))
        have SO_13 := Lib.hid (SO_12.out.within (within_of hb) (by omega))
        clear hb
        obtain ⟨g01, g02, g03, g04⟩ := BG_13.out
        go_wp2_with fail
        clear g01 g02 g03 g04
        refine (markFw_o q l ms ABG cBG DBG dBG 1 lo2 hi2 _ SO_13.out hnm (by omega) (by omega)).mono ?_
        rintro e w14 ⟨rfl, hin, hog⟩
        have Z14 := Lib.hid (hin).size
        have W14 := Lib.hid (within_on W13.out (hin) W13.out.size (by have := W13.out.size; have := Z1.out; have := Z2.out; have := Z3.out; have := Z4.out; have := Z5.out; have := Z6.out; have := Z7.out; have := Z8.out; have := Z9.out; have := Z10.out; have := Z11.out; have := Z12.out; have := Z13.out; have := Z14.out; have := Y1.out; have := Y2.out; have := Y4.out; have := Y6.out; have := Y7.out; omega))
        have HB_14 := Lib.hid (HB_13.out.within (hin) (by have := Z1.out; have := Z2.out; have := Z3.out; have := Z4.out; have := Z5.out; have := Z6.out; have := Z7.out; have := Z8.out; have := Z9.out; have := Z10.out; have := Z11.out; have := Z12.out; have := Z13.out; have := Z14.out; have := Y1.out; have := Y2.out; have := Y4.out; have := Y6.out; have := Y7.out; omega))
        have BX_14 := Lib.hid (BX_13.out.within (hin) (by have := Z1.out; have := Z2.out; have := Z3.out; have := Z4.out; have := Z5.out; have := Z6.out; have := Z7.out; have := Z8.out; have := Z9.out; have := Z10.out; have := Z11.out; have := Z12.out; have := Z13.out; have := Z14.out; have := Y1.out; have := Y2.out; have := Y4.out; have := Y6.out; have := Y7.out; omega))
        have BP_14 := Lib.hid (BP_13.out.within (hin) (by have := Z1.out; have := Z2.out; have := Z3.out; have := Z4.out; have := Z5.out; have := Z6.out; have := Z7.out; have := Z8.out; have := Z9.out; have := Z10.out; have := Z11.out; have := Z12.out; have := Z13.out; have := Z14.out; have := Y1.out; have := Y2.out; have := Y4.out; have := Y6.out; have := Y7.out; omega))
        have BW_14 := Lib.hid (BW_13.out.within (hin) (by have := Z1.out; have := Z2.out; have := Z3.out; have := Z4.out; have := Z5.out; have := Z6.out; have := Z7.out; have := Z8.out; have := Z9.out; have := Z10.out; have := Z11.out; have := Z12.out; have := Z13.out; have := Z14.out; have := Y1.out; have := Y2.out; have := Y4.out; have := Y6.out; have := Y7.out; omega))
        have SR_14 := Lib.hid (SR_13.out.within (hin) (by have := Z1.out; have := Z2.out; have := Z3.out; have := Z4.out; have := Z5.out; have := Z6.out; have := Z7.out; have := Z8.out; have := Z9.out; have := Z10.out; have := Z11.out; have := Z12.out; have := Z13.out; have := Z14.out; have := Y1.out; have := Y2.out; have := Y4.out; have := Y6.out; have := Y7.out; omega))
        have XX_14 := Lib.hid (XX_13.out.within (hin) (by have := Z1.out; have := Z2.out; have := Z3.out; have := Z4.out; have := Z5.out; have := Z6.out; have := Z7.out; have := Z8.out; have := Z9.out; have := Z10.out; have := Z11.out; have := Z12.out; have := Z13.out; have := Z14.out; have := Y1.out; have := Y2.out; have := Y4.out; have := Y6.out; have := Y7.out; omega))
        have BG_14 := Lib.hid (BG_13.out.within (hin) (by have := Z1.out; have := Z2.out; have := Z3.out; have := Z4.out; have := Z5.out; have := Z6.out; have := Z7.out; have := Z8.out; have := Z9.out; have := Z10.out; have := Z11.out; have := Z12.out; have := Z13.out; have := Z14.out; have := Y1.out; have := Y2.out; have := Y4.out; have := Y6.out; have := Y7.out; omega))
        have SM_14 := Lib.hid (hog)
        clear hog hin
        have hk2 : ¬ (1 : Int) + 2 * (l.length : Int) + 2 * (ms.length : Int) < 0 := by omega
        obtain ⟨g01, g02, g03, g04⟩ := BG_14.out
        go_wp2_with fail
        clear g01 g02 g03 g04
        refine (heldFw_o q l.length ms.length ABG cBG DBG dBG 1 lo2 hi2 _ SM_14.out hnm (by omega) (by omega)).mono ?_
        rintro e w15 ⟨rfl, hb⟩
        have Z15 := Lib.hid (within_of hb).size
        have W15 := Lib.hid (within_on W14.out (within_of hb) W14.out.size (.inr (Nat.le_refl _)))
        have HB_15 := Lib.hid (HB_14.out.within (within_of hb) (by omega))
        have BX_15 := Lib.hid (BX_14.out.within (within_of hb) (by omega))
        have BP_15 := Lib.hid (BP_14.out.within (within_of hb) (by omega))
        have BW_15 := Lib.hid (BW_14.out.within (within_of hb) (by omega))
        have SR_15 := Lib.hid (SR_14.out.within (within_of hb) (by omega))
        have XX_15 := Lib.hid (XX_14.out.within (within_of hb) (by omega))
        have BG_15 := Lib.hid (BG_14.out.within (within_of hb) (by omega))
        have SM_15 := Lib.hid (SM_14.out.within (within_of hb) (by omega))
        clear hb
        have hdr : Below w15.heap.size w15 w15.drew := (Below.refl _ _).drew
        have Hd := Lib.hid ((HB_15.out).within (within_of hdr) (.inr (Nat.zero_le _)))
        have HS := Lib.hid (fun (W : World) (hb : Below w15.drew.heap.size w15.drew W) => (show (fun W' => W'.cell? ⟨w.heap.size, 0, none⟩ = some (.int .i64 q) ∧ W'.cell? ⟨w.heap.size, 1, none⟩ = some (.slice A l.length cap) ∧ W'.cell? ⟨w.heap.size, 2, none⟩ = some (.slice B m.length cb) ∧ W'.cell? ⟨w.heap.size + 1, 0, none⟩ = some (.int .i64 px) ∧ W'.cell? ⟨w.heap.size + 1, 1, none⟩ = some (.int .i64 py)) W from ⟨((BX_15.out.kept hdr).kept hb).2.1, ((BX_15.out.kept hdr).kept hb).2.2.1, ((BX_15.out.kept hdr).kept hb).2.2.2, ((BP_15.out.kept hdr).kept hb).2.1, ((BP_15.out.kept hdr).kept hb).2.2⟩))
        clear hdr
        go_wp2_with fail
        go_cut [16, 17] (fun b1 b2 wx => BoxF w15 q l ms R b1 b2 wx)
        case first =>
          go_region_held3 (fun W' => W'.cell? ⟨w.heap.size, 0, none⟩ = some (.int .i64 q) ∧ W'.cell? ⟨w.heap.size, 1, none⟩ = some (.slice A l.length cap) ∧ W'.cell? ⟨w.heap.size, 2, none⟩ = some (.slice B m.length cb) ∧ W'.cell? ⟨w.heap.size + 1, 0, none⟩ = some (.int .i64 px) ∧ W'.cell? ⟨w.heap.size + 1, 1, none⟩ = some (.int .i64 py))
            (first | exact HS.out _ (Below.refl _ _) | exact HS.out _ (new_below _ _) | exact HS.out _ BwA.out | exact HS.out _ (below_on BwA.out (new_below _ _) BwA.out.size) | exact HS.out _ BwB.out | exact HS.out _ (below_on BwB.out (new_below _ _) BwB.out.size) | exact HS.out _ BwC.out | exact HS.out _ (below_on BwC.out (new_below _ _) BwC.out.size) | exact HS.out _ (((BwC.out.setCell (p := ⟨_, 0, none⟩) HGE.out _).setCell (p := ⟨_, 1, none⟩) HGE.out _).setCell (p := ⟨_, 2, none⟩) HGE.out _) | exact HS.out _ ((((below_on BwC.out (new_below _ _) BwC.out.size).setCell (p := ⟨_, 0, none⟩) BwC.out.size _).setCell (p := ⟨_, 1, none⟩) BwC.out.size _).setCell (p := ⟨_, 2, none⟩) BwC.out.size _))
            (first
              | (go_at_call 63; refine (HIM.out _ _ _ _ wB GwB.out).mono ?_; rintro e wC ⟨AS, cS, BS, dS, rfl, ho, hb⟩; have BwC := Lib.hid (show Below w15.drew.heap.size w15.drew wC from (below_on BwB.out hb BwB.out.size)); have SwC := Lib.hid (ho); have LO := Lib.hid (show w15.drew.heap.size ≤ wB.heap.size from BwB.out.size); (first | (have XwC := Lib.hid (XwB.out.kept hb); have HGL3 := Lib.hid (Nat.succ_le_of_lt HGL.out); have HGL := Lib.hid (Nat.lt_of_lt_of_le HGL.out hb.size); have HGL2 := HGL) | skip); (first | (obtain ⟨_, _, _, _, _, _⟩ := XwC.out.cells) | (obtain ⟨_, _, _, _, _, _⟩ := (cel3_new wC (.int .i64 0) (.slice none 0 0) (.slice none 0 0) 63).cells)); clear ho hb)
              | (go_at_call 63; have hal := new_below wB (.cells #[.int .i64 0, .slice none 0 0, .slice none 0 0] 63); refine (HIM.out _ _ _ _ (wB.alloc (.cells #[.int .i64 0, .slice none 0 0, .slice none 0 0] 63)) (GwB.out.within (within_alloc wB (.cells #[.int .i64 0, .slice none 0 0, .slice none 0 0] 63)) (.inr (Nat.zero_le _)))).mono ?_; rintro e wC ⟨AS, cS, BS, dS, rfl, ho, hb⟩; have BwC := Lib.hid (show Below w15.drew.heap.size w15.drew wC from (below_on (below_on BwB.out hal BwB.out.size) hb (below_on BwB.out hal BwB.out.size).size)); have SwC := Lib.hid (ho); have LO := Lib.hid (show w15.drew.heap.size ≤ (wB.alloc (.cells #[.int .i64 0, .slice none 0 0, .slice none 0 0] 63)).heap.size from (below_on BwB.out hal BwB.out.size).size); have XwC := Lib.hid (show Cel3 wC (wB.heap.size) 63 (.int .i64 0) (.slice none 0 0) (.slice none 0 0) from (cel3_new wB (.int .i64 0) (.slice none 0 0) (.slice none 0 0) 63).kept hb); have hge : w15.drew.heap.size ≤ wB.heap.size := BwB.out.size; have hgl : wB.heap.size < (wB.alloc (.cells #[.int .i64 0, .slice none 0 0, .slice none 0 0] 63)).heap.size := (by simp); have HGE := Lib.hid hge; have HGL := Lib.hid (Nat.lt_of_lt_of_le hgl hb.size); have HGM := Lib.hid (show wB.heap.size + 1 ≤ (wB.alloc (.cells #[.int .i64 0, .slice none 0 0, .slice none 0 0] 63)).heap.size from hgl); clear hge hgl; (first | (obtain ⟨_, _, _, _, _, _⟩ := XwC.out.cells) | (obtain ⟨_, _, _, _, _, _⟩ := (cel3_new wC (.int .i64 0) (.slice none 0 0) (.slice none 0 0) 63).cells)); clear ho hb)
              | (go_at_call 62; refine (toPlace_c px py wA).mono ?_; rintro e wB ⟨rfl, hb⟩; have BwB := Lib.hid (show Below w15.drew.heap.size w15.drew wB from (below_on BwA.out hb BwA.out.size)); have GwB := Lib.hid (GwA.out.within (within_of hb) (.inr (Nat.zero_le _))); (first | (have XwB := Lib.hid (XwA.out.kept hb); have HGL3 := Lib.hid (Nat.succ_le_of_lt HGL.out); have HGL := Lib.hid (Nat.lt_of_lt_of_le HGL.out hb.size); have HGL2 := HGL) | skip); clear hb)
              | (go_at_call 62; have hal := new_below wA (.cells #[.int .i64 0, .slice none 0 0, .slice none 0 0] 63); refine (toPlace_c px py (wA.alloc (.cells #[.int .i64 0, .slice none 0 0, .slice none 0 0] 63))).mono ?_; rintro e wB ⟨rfl, hb⟩; have BwB := Lib.hid (show Below w15.drew.heap.size w15.drew wB from (below_on (below_on BwA.out hal BwA.out.size) hb (below_on BwA.out hal BwA.out.size).size)); have GwB := Lib.hid ((GwA.out.within (within_alloc wA (.cells #[.int .i64 0, .slice none 0 0, .slice none 0 0] 63)) (.inr (Nat.zero_le _))).within (within_of hb) (.inr (Nat.zero_le _))); have XwB := Lib.hid (show Cel3 wB (wA.heap.size) 63 (.int .i64 0) (.slice none 0 0) (.slice none 0 0) from (cel3_new wA (.int .i64 0) (.slice none 0 0) (.slice none 0 0) 63).kept hb); have hge : w15.drew.heap.size ≤ wA.heap.size := BwA.out.size; have hgl : wA.heap.size < (wA.alloc (.cells #[.int .i64 0, .slice none 0 0, .slice none 0 0] 63)).heap.size := (by simp); have HGE := Lib.hid hge; have HGL := Lib.hid (Nat.lt_of_lt_of_le hgl hb.size); have HGM := Lib.hid (show wA.heap.size + 1 ≤ (wA.alloc (.cells #[.int .i64 0, .slice none 0 0, .slice none 0 0] 63)).heap.size from hgl); clear hge hgl; clear hb)
              | (go_at_call 45; refine (toFw_c q l m A cap B cb _ _ w15.drew Hd.out hn).mono ?_; rintro e wA ⟨g0, g1, rfl, ho, hb⟩; have BwA := Lib.hid (show Below w15.drew.heap.size w15.drew wA from hb); have GwA := Lib.hid (ho.reads); clear ho hb)
              | (go_at_call 45; have hal := new_below w15.drew (.cells #[.int .i64 0, .slice none 0 0, .slice none 0 0] 63); refine (toFw_c q l m A cap B cb _ _ (w15.drew.alloc (.cells #[.int .i64 0, .slice none 0 0, .slice none 0 0] 63)) (Hd.out.within (within_alloc w15.drew (.cells #[.int .i64 0, .slice none 0 0, .slice none 0 0] 63)) (.inr (Nat.zero_le _))) hn).mono ?_; rintro e wA ⟨g0, g1, rfl, ho, hb⟩; have BwA := Lib.hid (show Below w15.drew.heap.size w15.drew wA from (below_on (below_on (Below.refl w15.drew.heap.size w15.drew) hal (Below.refl w15.drew.heap.size w15.drew).size) hb (below_on (Below.refl w15.drew.heap.size w15.drew) hal (Below.refl w15.drew.heap.size w15.drew).size).size)); have GwA := Lib.hid (ho.reads); have XwA := Lib.hid (show Cel3 wA (w15.heap.size) 63 (.int .i64 0) (.slice none 0 0) (.slice none 0 0) from (cel3_new w15.drew (.int .i64 0) (.slice none 0 0) (.slice none 0 0) 63).kept hb); have hge : w15.drew.heap.size ≤ w15.heap.size := (Below.refl w15.drew.heap.size w15.drew).size; have hgl : w15.heap.size < (w15.drew.alloc (.cells #[.int .i64 0, .slice none 0 0, .slice none 0 0] 63)).heap.size := (by simp); have HGE := Lib.hid hge; have HGL := Lib.hid (Nat.lt_of_lt_of_le hgl hb.size); have HGM := Lib.hid (show w15.heap.size + 1 ≤ (w15.drew.alloc (.cells #[.int .i64 0, .slice none 0 0, .slice none 0 0] 63)).heap.size from hgl); clear hge hgl; clear ho hb))
          all_goals (
            go_wp2_with fail
            go_meet
            case rel =>
              first
                | exact boxF_in ((Below.refl _ _).drew) BwC.out XwC.out HGE.out LO.out SwC.out HGL3.out
                | exact boxF_in ((Below.refl _ _).drew) BwC.out XwC.out HGE.out LO.out SwC.out HGM.out
                | exact boxF_new ((Below.refl _ _).drew) BwC.out LO.out SwC.out)
        case rest =>
          obtain ⟨gb3, ABH, cBH, DBH, dBH, lo3, hi3, rfl, rfl, hb, hg, hcb, ho⟩ := hcut
          obtain ⟨w16, hwn⟩ : ∃ x, x = wc := ⟨_, rfl⟩
          subst hwn
          have Z16 := Lib.hid (within_of hb).size
          have W16 := Lib.hid (within_on W15.out (within_of hb) W15.out.size (.inr (Nat.le_refl _)))
          have HB_16 := Lib.hid (HB_15.out.within (within_of hb) (by omega))
          have BX_16 := Lib.hid (BX_15.out.within (within_of hb) (by omega))
          have BP_16 := Lib.hid (BP_15.out.within (within_of hb) (by omega))
          have BW_16 := Lib.hid (BW_15.out.within (within_of hb) (by omega))
          have SR_16 := Lib.hid (SR_15.out.within (within_of hb) (by omega))
          have XX_16 := Lib.hid (XX_15.out.within (within_of hb) (by omega))
          have BG_16 := Lib.hid (BG_15.out.within (within_of hb) (by omega))
          have SM_16 := Lib.hid (SM_15.out.within (within_of hb) (by omega))
          have BH_16 := Lib.hid hcb
          have SH_16 := Lib.hid ho
          have hoh := OwnFw.hi ho
          have Y16 := Lib.hid (And.intro hg (And.intro hcb.1 hoh))
          clear hb hg hcb ho hoh HS Hd
          obtain ⟨g01, g02, g03, g04⟩ := BH_16.out
          obtain ⟨g11, g12, g13, g14⟩ := BW_16.out
          go_wp2_with fail
          clear g01 g02 g03 g04 g11 g12 g13 g14
          refine (eqFw_c q l ms ABH ABW cBH cBW DBH DBW dBH dBW _ _ _ _ _ SH_16.out.reads SR_16.out.reads hnm).mono ?_
          rintro e w17 ⟨rfl, hb⟩
          have Z17 := Lib.hid (within_of hb).size
          have W17 := Lib.hid (within_on W16.out (within_of hb) W16.out.size (.inr (Nat.le_refl _)))
          have HB_17 := Lib.hid (HB_16.out.within (within_of hb) (by omega))
          have BX_17 := Lib.hid (BX_16.out.within (within_of hb) (by omega))
          have BP_17 := Lib.hid (BP_16.out.within (within_of hb) (by omega))
          have BW_17 := Lib.hid (BW_16.out.within (within_of hb) (by omega))
          have SR_17 := Lib.hid (SR_16.out.within (within_of hb) (by omega))
          have XX_17 := Lib.hid (XX_16.out.within (within_of hb) (by omega))
          have BG_17 := Lib.hid (BG_16.out.within (within_of hb) (by omega))
          have SM_17 := Lib.hid (SM_16.out.within (within_of hb) (by omega))
          have BH_17 := Lib.hid (BH_16.out.within (within_of hb) (by omega))
          have SH_17 := Lib.hid (SH_16.out.within (within_of hb) (by omega))
          clear hb
          obtain ⟨g01, g02, g03, g04⟩ := BG_17.out
          go_wp2_with fail
          clear g01 g02 g03 g04
          refine (heldFw_o q l.length ms.length ABG cBG DBG dBG 1 lo2 hi2 _ SM_17.out hnm (by omega) (by omega)).mono ?_
          rintro e w18 ⟨rfl, hb⟩
          have Z18 := Lib.hid (within_of hb).size
          have W18 := Lib.hid (within_on W17.out (within_of hb) W17.out.size (.inr (Nat.le_refl _)))
          have HB_18 := Lib.hid (HB_17.out.within (within_of hb) (by omega))
          have BX_18 := Lib.hid (BX_17.out.within (within_of hb) (by omega))
          have BP_18 := Lib.hid (BP_17.out.within (within_of hb) (by omega))
          have BW_18 := Lib.hid (BW_17.out.within (within_of hb) (by omega))
          have SR_18 := Lib.hid (SR_17.out.within (within_of hb) (by omega))
          have XX_18 := Lib.hid (XX_17.out.within (within_of hb) (by omega))
          have BG_18 := Lib.hid (BG_17.out.within (within_of hb) (by omega))
          have SM_18 := Lib.hid (SM_17.out.within (within_of hb) (by omega))
          have BH_18 := Lib.hid (BH_17.out.within (within_of hb) (by omega))
          have SH_18 := Lib.hid (SH_17.out.within (within_of hb) (by omega))
          clear hb
          go_wp2_with fail
          go_ret
          exact ⟨rfl, W18.out⟩
  · have W0 := Lib.hid (Below.refl w.heap.size w)
    have hal := new_below w (.cells #[.int .i64 q, .slice A l.length cap, .slice B m.length cb] 58)
    have Z1 := Lib.hid (within_of hal).size
    have W1 := Lib.hid (within_on W0.out (within_of hal) W0.out.size (.inr (Nat.le_refl _)))
    have HB_1 := Lib.hid (HB_0.out.within (within_of hal) (by omega))
    clear hal
    have hsz : (w.alloc (.cells #[.int .i64 q, .slice A l.length cap, .slice B m.length cb] 58)).heap.size = w.heap.size + 1 := by simp
    have Y1 := Lib.hid hsz
    clear hsz
    have BX_1 := Lib.hid (box3_new w q (.slice A l.length cap) (.slice B m.length cb) 58)
    have hal := new_below (w.alloc (.cells #[.int .i64 q, .slice A l.length cap, .slice B m.length cb] 58)) (.cells #[.int .i64 px, .int .i64 py] 73)
    have Z2 := Lib.hid (within_of hal).size
    have W2 := Lib.hid (within_on W1.out (within_of hal) W1.out.size (.inr (Nat.le_refl _)))
    have HB_2 := Lib.hid (HB_1.out.within (within_of hal) (by omega))
    have BX_2 := Lib.hid (BX_1.out.within (within_of hal) (by omega))
    clear hal
    have hsz : ((w.alloc (.cells #[.int .i64 q, .slice A l.length cap, .slice B m.length cb] 58)).alloc (.cells #[.int .i64 px, .int .i64 py] 73)).heap.size = (w.alloc (.cells #[.int .i64 q, .slice A l.length cap, .slice B m.length cb] 58)).heap.size + 1 := by simp
    have Y2 := Lib.hid hsz
    clear hsz
    have hbp := box_new (w.alloc (.cells #[.int .i64 q, .slice A l.length cap, .slice B m.length cb] 58)) px (.int .i64 py) 73
    rw [Y1.out] at hbp
    have BP_2 := Lib.hid hbp
    clear hbp
    go_enter Try.func10, Try.ntmps10
    go_wp2_with fail
    generalize ((w.alloc (.cells #[.int .i64 q, .slice A l.length cap, .slice B m.length cb] 58)).alloc (.cells #[.int .i64 px, .int .i64 py] 73)) = w2 at *
    generalize (w.alloc (.cells #[.int .i64 q, .slice A l.length cap, .slice B m.length cb] 58)) = w1 at *
    refine (szFw_no q A l.length cap B m.length cb 1048576 _ hl.1 hl.2 (by omega) (by omega) (by omega)).mono ?_
    rintro e w3 ⟨rfl, hb⟩
    have Z3 := Lib.hid (within_of hb).size
    have W3 := Lib.hid (within_on W2.out (within_of hb) W2.out.size (.inr (Nat.le_refl _)))
    have HB_3 := Lib.hid (HB_2.out.within (within_of hb) (by omega))
    have BX_3 := Lib.hid (BX_2.out.within (within_of hb) (by omega))
    have BP_3 := Lib.hid (BP_2.out.within (within_of hb) (by omega))
    clear hb
    go_wp2_with fail
    go_ret
    exact ⟨rfl, W3.out⟩
end Go.Proofs.Ytehendofgcebcaa
