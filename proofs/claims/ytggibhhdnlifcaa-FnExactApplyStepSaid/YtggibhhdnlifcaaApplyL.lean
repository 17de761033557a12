/- The law FnExactApplyStep returns true at every input. No condition. -/
import Derived.Test.YtggibhhdnlifcaaApplyS
import Derived.Test.YtggibhhdnlifcaaApplyI
import Derived.Test.YtggibhhdnlifcaaToStep
import Derived.Test.YtggibhhdnlifcaaHeld
import Derived.Deep.RegionHeld3
namespace Go.Proofs.Ytggibhhdnlifcaa
open Go.RowKit

/-- A step by value lies in the block b. -/
def Box5 (W : World) (b : Nat) (k p a c d : Int) : Prop := b < W.heap.size ∧ W.cell? ⟨b, 0, none⟩ = some (.int .i64 k) ∧ W.cell? ⟨b, 1, none⟩ = some (.int .i64 p) ∧ W.cell? ⟨b, 2, none⟩ = some (.int .i64 a) ∧ W.cell? ⟨b, 3, none⟩ = some (.int .i64 c) ∧ W.cell? ⟨b, 4, none⟩ = some (.int .i64 d)
theorem Box5.within {W W' : World} {b lo hi : Nat} {k p a c d : Int} (h : Box5 W b k p a c d) (hw : Within lo hi W W') (hd : b < lo ∨ hi ≤ b) : Box5 W' b k p a c d := by
  have e := hw.block b h.1 hd
  exact ⟨Nat.lt_of_lt_of_le h.1 hw.size, (World.cell?_of_block (a := ⟨b, 0, none⟩) e).trans h.2.1, (World.cell?_of_block (a := ⟨b, 1, none⟩) e).trans h.2.2.1, (World.cell?_of_block (a := ⟨b, 2, none⟩) e).trans h.2.2.2.1, (World.cell?_of_block (a := ⟨b, 3, none⟩) e).trans h.2.2.2.2.1, (World.cell?_of_block (a := ⟨b, 4, none⟩) e).trans h.2.2.2.2.2⟩
theorem Box5.kept {W W' : World} {b : Nat} {k p a c d : Int} (h : Box5 W b k p a c d) (hb : Below W.heap.size W W') : Box5 W' b k p a c d := h.within (within_of hb) (.inr (Nat.zero_le _))
theorem box5_new (w : World) (k p a c d : Int) (t : TypeId) : Box5 (w.alloc (.cells #[.int .i64 k, .int .i64 p, .int .i64 a, .int .i64 c, .int .i64 d] t)) w.heap.size k p a c d :=
  ⟨by simp, by rw [World.cell?_alloc_at _ _ _ _ rfl]; rfl, by rw [World.cell?_alloc_at _ _ _ _ rfl]; rfl, by rw [World.cell?_alloc_at _ _ _ _ rfl]; rfl, by rw [World.cell?_alloc_at _ _ _ _ rfl]; rfl, by rw [World.cell?_alloc_at _ _ _ _ rfl]; rfl⟩
/-- What a region leaves that asks the program: the answer's graph in a box, its bars of the call's own, the flag. -/
def BoxG (c : World) (p : Int) (l : List (Int × Int)) (r : Bool) (b1 b2 : Value) (wx : World) : Prop :=
  ∃ (gb : Nat) (A : Option Addr) (cap lo hi : Nat), b1 = .pointer (some ⟨gb, 0, none⟩) ∧ b2 = .bool r ∧ Below c.heap.size c wx ∧ (c.heap.size ≤ lo ∧ c.heap.size ≤ gb ∧ (gb < lo ∨ hi ≤ gb)) ∧ Box wx gb p (.slice A l.length cap) ∧ OwnIn wx lo hi A cap l
theorem boxG_in {c d W : World} {gb lo : Nat} {p : Int} {l : List (Int × Int)} {r : Bool} {A : Option Addr} {cap : Nat} {a0 a1 : Value} (hd : Below c.heap.size c d) (hB : Below d.heap.size d W) (hX : Cel2 W gb 30 a0 a1) (hge : d.heap.size ≤ gb) (hlo : d.heap.size ≤ lo) (ho : OwnIn W lo W.heap.size A cap l) (hl : gb + 1 ≤ lo) :
    BoxG c p l r (.pointer (some ⟨gb, 0, none⟩)) (.bool r) ((W.setCell ⟨gb, 0, none⟩ (.int .i64 p)).setCell ⟨gb, 1, none⟩ (.slice A l.length cap)) := by
  have r2 := ret2 hX (.int .i64 p) (.slice A l.length cap)
  have hdc := hd.size
  obtain ⟨c0, c1, _, _⟩ := r2.1.cells
  exact ⟨gb, A, cap, lo, W.heap.size, rfl, rfl, within_on (below_on hd hB hd.size) r2.2 (Nat.le_trans hd.size hB.size) (.inl (by omega)), ⟨by omega, by omega, .inl (by omega)⟩, ⟨r2.1.lt, c0, c1⟩, ho.within r2.2 (.inr hl)⟩
theorem boxG_new {c d W : World} {lo : Nat} {p : Int} {l : List (Int × Int)} {r : Bool} {A : Option Addr} {cap : Nat} (hd : Below c.heap.size c d) (hB : Below d.heap.size d W) (hlo : d.heap.size ≤ lo) (ho : OwnIn W lo W.heap.size A cap l) :
    BoxG c p l r (.pointer (some ⟨W.heap.size, 0, none⟩)) (.bool r) (W.alloc (.cells #[.int .i64 p, .slice A l.length cap] 30)) := by
  have hal := new_below W (.cells #[.int .i64 p, .slice A l.length cap] 30)
  have hcd := below_on hd hB hd.size
  exact ⟨W.heap.size, A, cap, lo, W.heap.size, rfl, rfl, below_on hcd hal hcd.size, ⟨Nat.le_trans hd.size hlo, hcd.size, .inr (Nat.le_refl _)⟩, box_new W _ _ _, ho.within (within_of hal) (.inr (Nat.zero_le _))⟩
/-- What a region leaves that asks the specification: the answer's graph in a box, its bars, the flag. -/
def BoxS (c : World) (p : Int) (l : List (Int × Int)) (r : Bool) (b1 b2 : Value) (wx : World) : Prop :=
  ∃ (gb : Nat) (A : Option Addr) (cap : Nat), b1 = .pointer (some ⟨gb, 0, none⟩) ∧ b2 = .bool r ∧ Below c.heap.size c wx ∧ c.heap.size ≤ gb ∧ Box wx gb p (.slice A l.length cap) ∧ BarsIn wx 0 wx.heap.size A l
theorem boxS_in {c d W : World} {gb lo : Nat} {p : Int} {l : List (Int × Int)} {r : Bool} {A : Option Addr} {cap : Nat} {a0 : Value} {x : Option Addr} {y z : Nat} (hd : Below c.heap.size c d) (hB : Below d.heap.size d W) (hX : Cel2 W gb 30 a0 (.slice x y z)) (hge : d.heap.size ≤ gb) (_hlo : d.heap.size ≤ lo) (ho : BarsAt W W.heap.size A l) :
    BoxS c p l r (.pointer (some ⟨gb, 0, none⟩)) (.bool r) ((W.setCell ⟨gb, 0, none⟩ (.int .i64 p)).setCell ⟨gb, 1, none⟩ (.slice A l.length cap)) := by
  have r2 := ret2 hX (.int .i64 p) (.slice A l.length cap)
  have hdc := hd.size
  obtain ⟨c0, c1, _, _⟩ := r2.1.cells
  refine ⟨gb, A, cap, rfl, rfl, within_on (below_on hd hB hd.size) r2.2 (Nat.le_trans hd.size hB.size) (.inl (by omega)), by omega, ⟨r2.1.lt, c0, c1⟩, Nat.le_refl _, fun hl => ?_⟩
  obtain ⟨b, off, rfl, hlt, hc⟩ := ho hl
  have hne : b ≠ gb := by
    intro e
    subst e
    have h2 := (hc 0 hl).2
    rw [cell_of_row W b (off + 0 * 2 + 1) _ _ (0, 0) hX] at h2
    cases off with
    | zero => simp at h2
    | succ n => simp at h2
  have hk := r2.2.block b hlt (by omega)
  exact ⟨b, off, rfl, Nat.zero_le _, Nat.lt_of_lt_of_le hlt r2.2.size, fun k hk' => ⟨(World.cell?_of_block (a := ⟨b, off + k * 2, none⟩) hk).trans (hc k hk').1, (World.cell?_of_block (a := ⟨b, off + k * 2 + 1, none⟩) hk).trans (hc k hk').2⟩⟩
theorem boxS_new {c d W : World} {lo : Nat} {p : Int} {l : List (Int × Int)} {r : Bool} {A : Option Addr} {cap : Nat} (hd : Below c.heap.size c d) (hB : Below d.heap.size d W) (_hlo : d.heap.size ≤ lo) (ho : BarsAt W W.heap.size A l) :
    BoxS c p l r (.pointer (some ⟨W.heap.size, 0, none⟩)) (.bool r) (W.alloc (.cells #[.int .i64 p, .slice A l.length cap] 30)) := by
  have hal := new_below W (.cells #[.int .i64 p, .slice A l.length cap] 30)
  have hcd := below_on hd hB hd.size
  exact ⟨W.heap.size, A, cap, rfl, rfl, below_on hcd hal hcd.size, hcd.size, box_new W _ _ _, bars_in (ho.on hal)⟩

set_option maxHeartbeats 2000000 in
set_option maxRecDepth 100000 in
theorem lawApplyStep (q : Int) (A : Option Addr) (cap : Nat) (l : List (Int × Int)) (sk sp sa sb sc : Int) (w : World) (hl : l.length ≤ maxLen) (hb : BarsAt w w.heap.size A l) :
    Calls Try.prog 4 #[.agg #[.int .i64 q, .slice A l.length cap], .agg #[.int .i64 sk, .int .i64 sp, .int .i64 sa, .int .i64 sb, .int .i64 sc]] w fun e w' => e = .returned (.bool true) ∧ Below w.heap.size w w' := by
  have HB_0 := Lib.hid (bars_in hb)
  clear hb
  by_cases hn : l.length ≤ 1048576
  · skip
    obtain ⟨L, R, hll, hsp, him⟩ : ∃ (L : List (Int × Int)) (R : Bool), L.length ≤ 1048576 ∧ (∀ (A : Addr) (cap : Nat) (W : World) (h : BarsAt W W.heap.size (some A) l) (hc : l.length ≤ cap), Calls Try.prog 20 #[.agg #[.int .i64 q, .slice (some A) l.length cap], .agg #[.int .i64 sk, .int .i64 sp, .int .i64 sa, .int .i64 sb, .int .i64 sc]] W (GraphRB W q L R)) ∧ (∀ (A : Option Addr) (cap : Nat) (W : World) (h : BarsAt W W.heap.size A l), Calls Try.prog 22 #[.agg #[.int .i64 q, .slice A l.length cap], .agg #[.int .i64 sk, .int .i64 sp, .int .i64 sa, .int .i64 sb, .int .i64 sc]] W (GraphOB W q L R)) :=
      ⟨stepL q l (sk, sp, sa, sb, sc), stepR q l (sk, sp, sa, sb, sc), stepL_len hn, fun A cap W h hc => specApply (sk, sp, sa, sb, sc) q l A cap W h hn hc, fun A cap W h => implApply (sk, sp, sa, sb, sc) q l A cap W h hn⟩
    have HSP := Lib.hid hsp
    have HIM := Lib.hid him
    clear hsp him
    have W0 := Lib.hid (Below.refl w.heap.size w)
    have Z1 := Lib.hid (within_alloc w (.cells #[.int .i64 q, (.slice A l.length cap)] 24)).size
    have W1 := Lib.hid (within_on W0.out (within_alloc w (.cells #[.int .i64 q, (.slice A l.length cap)] 24)) W0.out.size (.inr (Nat.le_refl _)))
    have HB_1 := Lib.hid (HB_0.out.within (within_alloc w (.cells #[.int .i64 q, (.slice A l.length cap)] 24)) (by omega))
    have Y1 := Lib.hid (show (w.alloc (.cells #[.int .i64 q, (.slice A l.length cap)] 24)).heap.size = w.heap.size + 1 by simp)
    have hnew := box_new w q (.slice A l.length cap) 24
    have BX_1 := Lib.hid hnew
    clear hnew
    have Z2 := Lib.hid (within_alloc (w.alloc (.cells #[.int .i64 q, (.slice A l.length cap)] 24)) (.cells #[.int .i64 sk, .int .i64 sp, .int .i64 sa, .int .i64 sb, .int .i64 sc] 38)).size
    have W2 := Lib.hid (within_on W1.out (within_alloc (w.alloc (.cells #[.int .i64 q, (.slice A l.length cap)] 24)) (.cells #[.int .i64 sk, .int .i64 sp, .int .i64 sa, .int .i64 sb, .int .i64 sc] 38)) W1.out.size (.inr (Nat.le_refl _)))
    have HB_2 := Lib.hid (HB_1.out.within (within_alloc (w.alloc (.cells #[.int .i64 q, (.slice A l.length cap)] 24)) (.cells #[.int .i64 sk, .int .i64 sp, .int .i64 sa, .int .i64 sb, .int .i64 sc] 38)) (by omega))
    have BX_2 := Lib.hid (BX_1.out.within (within_alloc (w.alloc (.cells #[.int .i64 q, (.slice A l.length cap)] 24)) (.cells #[.int .i64 sk, .int .i64 sp, .int .i64 sa, .int .i64 sb, .int .i64 sc] 38)) (by omega))
    have Y2 := Lib.hid (show ((w.alloc (.cells #[.int .i64 q, (.slice A l.length cap)] 24)).alloc (.cells #[.int .i64 sk, .int .i64 sp, .int .i64 sa, .int .i64 sb, .int .i64 sc] 38)).heap.size = (w.alloc (.cells #[.int .i64 q, (.slice A l.length cap)] 24)).heap.size + 1 by simp)
    have hnew := box5_new (w.alloc (.cells #[.int .i64 q, (.slice A l.length cap)] 24)) sk sp sa sb sc 38
    rw [show (w.alloc (.cells #[.int .i64 q, (.slice A l.length cap)] 24)).heap.size = w.heap.size + 1 by simp] at hnew
    have BT_2 := Lib.hid hnew
    clear hnew
    go_enter Try.func4, Try.ntmps4
    obtain ⟨g0_0, g0_1, g0_2⟩ := BX_2.out
    go_wp2_with fail
    clear g0_0 g0_1 g0_2
    generalize ((w.alloc (.cells #[.int .i64 q, (.slice A l.length cap)] 24)).alloc (.cells #[.int .i64 sk, .int .i64 sp, .int .i64 sa, .int .i64 sb, .int .i64 sc] 38)) = w2 at *
    generalize (w.alloc (.cells #[.int .i64 q, (.slice A l.length cap)] 24)) = w1 at *
    refine (szGraph_c q A l.length cap 1048576 _ (by omega) (by omega)).mono ?_
    rintro e w3 ⟨rfl, hb⟩
    have Z3 := Lib.hid (within_of hb).size
    have W3 := Lib.hid (within_on W2.out (within_of hb) W2.out.size (.inr (Nat.le_refl _)))
    have HB_3 := Lib.hid (HB_2.out.within (within_of hb) (by omega))
    have BX_3 := Lib.hid (BX_2.out.within (within_of hb) (by omega))
    have BT_3 := Lib.hid (BT_2.out.within (within_of hb) (by omega))
    clear hb
    have hnn : ¬ (1048576 : Int) - (l.length : Int) < 0 := by omega
    have hdr : Below w3.heap.size w3 w3.drew := (Below.refl _ _).drew
    have Hd := Lib.hid ((HB_3.out).within (within_of hdr) (.inr (Nat.zero_le _)))
    have HS := Lib.hid (fun (W : World) (hb : Below w3.drew.heap.size w3.drew W) => (show (fun W' => W'.cell? ⟨w.heap.size, 0, none⟩ = some (.int .i64 q) ∧ W'.cell? ⟨w.heap.size, 1, none⟩ = some (.slice A l.length cap) ∧ W'.cell? ⟨w.heap.size + 1, 0, none⟩ = some (.int .i64 sk) ∧ W'.cell? ⟨w.heap.size + 1, 1, none⟩ = some (.int .i64 sp) ∧ W'.cell? ⟨w.heap.size + 1, 2, none⟩ = some (.int .i64 sa) ∧ W'.cell? ⟨w.heap.size + 1, 3, none⟩ = some (.int .i64 sb) ∧ W'.cell? ⟨w.heap.size + 1, 4, none⟩ = some (.int .i64 sc)) W from ⟨((BX_3.out.kept hdr).kept hb).2.1, ((BX_3.out.kept hdr).kept hb).2.2, ((BT_3.out.kept hdr).kept hb).2.1, ((BT_3.out.kept hdr).kept hb).2.2.1, ((BT_3.out.kept hdr).kept hb).2.2.2.1, ((BT_3.out.kept hdr).kept hb).2.2.2.2.1, ((BT_3.out.kept hdr).kept hb).2.2.2.2.2⟩))
    clear hdr
    go_wp2_with fail
    go_cut [6, 7] (fun b1 b2 wx => BoxS w3 q L R b1 b2 wx)
    case first =>
      go_region_held3 (fun W' => W'.cell? ⟨w.heap.size, 0, none⟩ = some (.int .i64 q) ∧ W'.cell? ⟨w.heap.size, 1, none⟩ = some (.slice A l.length cap) ∧ W'.cell? ⟨w.heap.size + 1, 0, none⟩ = some (.int .i64 sk) ∧ W'.cell? ⟨w.heap.size + 1, 1, none⟩ = some (.int .i64 sp) ∧ W'.cell? ⟨w.heap.size + 1, 2, none⟩ = some (.int .i64 sa) ∧ W'.cell? ⟨w.heap.size + 1, 3, none⟩ = some (.int .i64 sb) ∧ W'.cell? ⟨w.heap.size + 1, 4, none⟩ = some (.int .i64 sc))
        (first | exact HS.out _ (Below.refl _ _) | exact HS.out _ (new_below _ _) | exact HS.out _ BwA.out | exact HS.out _ (below_on BwA.out (new_below _ _) BwA.out.size) | exact HS.out _ BwB.out | exact HS.out _ (below_on BwB.out (new_below _ _) BwB.out.size) | exact HS.out _ BwC.out | exact HS.out _ (below_on BwC.out (new_below _ _) BwC.out.size) | exact HS.out _ ((BwC.out.setCell (p := ⟨_, 0, none⟩) HGE.out _).setCell (p := ⟨_, 1, none⟩) HGE.out _) | exact HS.out _ (((below_on BwC.out (new_below _ _) BwC.out.size).setCell (p := ⟨_, 0, none⟩) BwC.out.size _).setCell (p := ⟨_, 1, none⟩) BwC.out.size _))
        (first
          | (go_at_call 20; refine (HSP.out _ _ wB GwB.out.at (Nat.le_refl _)).mono ?_; rintro e wC ⟨AS, cS, rfl, ho, hb⟩; have BwC := Lib.hid (show Below w3.drew.heap.size w3.drew wC from (below_on BwB.out hb BwB.out.size)); have SwC := Lib.hid (ho); have LO := Lib.hid (show w3.drew.heap.size ≤ wB.heap.size from BwB.out.size); (first | (have XwC := Lib.hid (XwB.out.kept hb); have HGL3 := Lib.hid (Nat.succ_le_of_lt HGL.out); have HGL := Lib.hid (Nat.lt_of_lt_of_le HGL.out hb.size); have HGL2 := HGL) | skip); (first | (obtain ⟨_, _, _, _⟩ := XwC.out.cells) | (obtain ⟨_, _, _, _⟩ := (cel2_new wC (.int .i64 0) (.slice none 0 0) 30).cells)); clear ho hb)
          | (go_at_call 20; have hal := new_below wB (.cells #[.int .i64 0, .slice none 0 0] 30); refine (HSP.out _ _ (wB.alloc (.cells #[.int .i64 0, .slice none 0 0] 30)) (GwB.out.within (within_alloc wB (.cells #[.int .i64 0, .slice none 0 0] 30)) (.inr (Nat.zero_le _))).at (Nat.le_refl _)).mono ?_; rintro e wC ⟨AS, cS, rfl, ho, hb⟩; have BwC := Lib.hid (show Below w3.drew.heap.size w3.drew wC from (below_on (below_on BwB.out hal BwB.out.size) hb (below_on BwB.out hal BwB.out.size).size)); have SwC := Lib.hid (ho); have LO := Lib.hid (show w3.drew.heap.size ≤ (wB.alloc (.cells #[.int .i64 0, .slice none 0 0] 30)).heap.size from (below_on BwB.out hal BwB.out.size).size); have XwC := Lib.hid (show Cel2 wC (wB.heap.size) 30 (.int .i64 0) (.slice none 0 0) from (cel2_new wB (.int .i64 0) (.slice none 0 0) 30).kept hb); have hge : w3.drew.heap.size ≤ wB.heap.size := BwB.out.size; have hgl : wB.heap.size < (wB.alloc (.cells #[.int .i64 0, .slice none 0 0] 30)).heap.size := (by simp); have HGE := Lib.hid hge; have HGL := Lib.hid (Nat.lt_of_lt_of_le hgl hb.size); have HGM := Lib.hid (show wB.heap.size + 1 ≤ (wB.alloc (.cells #[.int .i64 0, .slice none 0 0] 30)).heap.size from hgl); clear hge hgl; (first | (obtain ⟨_, _, _, _⟩ := XwC.out.cells) | (obtain ⟨_, _, _, _⟩ := (cel2_new wC (.int .i64 0) (.slice none 0 0) 30).cells)); clear ho hb)
          | (go_at_call 21; refine (toStep_c sk sp sa sb sc wA).mono ?_; rintro e wB ⟨rfl, hb⟩; have BwB := Lib.hid (show Below w3.drew.heap.size w3.drew wB from (below_on BwA.out hb BwA.out.size)); have GwB := Lib.hid (GwA.out.within (within_of hb) (.inr (Nat.zero_le _))); (first | (have XwB := Lib.hid (XwA.out.kept hb); have HGL3 := Lib.hid (Nat.succ_le_of_lt HGL.out); have HGL := Lib.hid (Nat.lt_of_lt_of_le HGL.out hb.size); have HGL2 := HGL) | skip); clear hb)
          | (go_at_call 21; have hal := new_below wA (.cells #[.int .i64 0, .slice none 0 0] 30); refine (toStep_c sk sp sa sb sc (wA.alloc (.cells #[.int .i64 0, .slice none 0 0] 30))).mono ?_; rintro e wB ⟨rfl, hb⟩; have BwB := Lib.hid (show Below w3.drew.heap.size w3.drew wB from (below_on (below_on BwA.out hal BwA.out.size) hb (below_on BwA.out hal BwA.out.size).size)); have GwB := Lib.hid ((GwA.out.within (within_alloc wA (.cells #[.int .i64 0, .slice none 0 0] 30)) (.inr (Nat.zero_le _))).within (within_of hb) (.inr (Nat.zero_le _))); have XwB := Lib.hid (show Cel2 wB (wA.heap.size) 30 (.int .i64 0) (.slice none 0 0) from (cel2_new wA (.int .i64 0) (.slice none 0 0) 30).kept hb); have hge : w3.drew.heap.size ≤ wA.heap.size := BwA.out.size; have hgl : wA.heap.size < (wA.alloc (.cells #[.int .i64 0, .slice none 0 0] 30)).heap.size := (by simp); have HGE := Lib.hid hge; have HGL := Lib.hid (Nat.lt_of_lt_of_le hgl hb.size); have HGM := Lib.hid (show wA.heap.size + 1 ≤ (wA.alloc (.cells #[.int .i64 0, .slice none 0 0] 30)).heap.size from hgl); clear hge hgl; clear hb)
          | (go_at_call 13; refine (toGraph_c q l A cap w3.drew Hd.out.at hn).mono ?_; rintro e wA ⟨g0, rfl, ho, hb⟩; have BwA := Lib.hid (show Below w3.drew.heap.size w3.drew wA from hb); have GwA := Lib.hid ((own_in ho).bars); clear ho hb)
          | (go_at_call 13; have hal := new_below w3.drew (.cells #[.int .i64 0, .slice none 0 0] 30); refine (toGraph_c q l A cap (w3.drew.alloc (.cells #[.int .i64 0, .slice none 0 0] 30)) (Hd.out.within (within_alloc w3.drew (.cells #[.int .i64 0, .slice none 0 0] 30)) (.inr (Nat.zero_le _))).at hn).mono ?_; rintro e wA ⟨g0, rfl, ho, hb⟩; have BwA := Lib.hid (show Below w3.drew.heap.size w3.drew wA from (below_on (below_on (Below.refl w3.drew.heap.size w3.drew) hal (Below.refl w3.drew.heap.size w3.drew).size) hb (below_on (Below.refl w3.drew.heap.size w3.drew) hal (Below.refl w3.drew.heap.size w3.drew).size).size)); have GwA := Lib.hid ((own_in ho).bars); have XwA := Lib.hid (show Cel2 wA (w3.heap.size) 30 (.int .i64 0) (.slice none 0 0) from (cel2_new w3.drew (.int .i64 0) (.slice none 0 0) 30).kept hb); have hge : w3.drew.heap.size ≤ w3.heap.size := (Below.refl w3.drew.heap.size w3.drew).size; have hgl : w3.heap.size < (w3.drew.alloc (.cells #[.int .i64 0, .slice none 0 0] 30)).heap.size := (by simp); have HGE := Lib.hid hge; have HGL := Lib.hid (Nat.lt_of_lt_of_le hgl hb.size); have HGM := Lib.hid (show w3.heap.size + 1 ≤ (w3.drew.alloc (.cells #[.int .i64 0, .slice none 0 0] 30)).heap.size from hgl); clear hge hgl; clear ho hb))
      all_goals (
        go_wp2_with fail
        go_meet
        case rel =>
          first
            | exact boxS_in ((Below.refl _ _).drew) BwC.out XwC.out HGE.out LO.out SwC.out
            | exact boxS_in ((Below.refl _ _).drew) BwC.out XwC.out HGE.out LO.out SwC.out
            | exact boxS_new ((Below.refl _ _).drew) BwC.out LO.out SwC.out)
    case rest =>
      obtain ⟨gb1, ABW, cBW, rfl, rfl, hb, hg, hcb, ho⟩ := hcut
      obtain ⟨w4, hwn⟩ : ∃ x, x = wc := ⟨_, rfl⟩
      subst hwn
      have Z4 := Lib.hid (within_of hb).size
      have W4 := Lib.hid (within_on W3.out (within_of hb) W3.out.size (.inr (Nat.le_refl _)))
      have HB_4 := Lib.hid (HB_3.out.within (within_of hb) (by omega))
      have BX_4 := Lib.hid (BX_3.out.within (within_of hb) (by omega))
      have BT_4 := Lib.hid (BT_3.out.within (within_of hb) (by omega))
      have BW_4 := Lib.hid hcb
      have SR_4 := Lib.hid ho
      have Y4 := Lib.hid (And.intro hg hcb.1)
      clear hb hg hcb ho HS Hd
      obtain ⟨g1_0, g1_1, g1_2⟩ := BX_4.out
      go_wp2_with fail
      clear g1_0 g1_1 g1_2
      refine (toGraph_c q l A cap _ HB_4.out.at hn).mono ?_
      rintro e w5 ⟨x0, rfl, ho, hb⟩
      have Z5 := Lib.hid (within_of hb).size
      have W5 := Lib.hid (within_on W4.out (within_of hb) W4.out.size (.inr (Nat.le_refl _)))
      have HB_5 := Lib.hid (HB_4.out.within (within_of hb) (by omega))
      have BX_5 := Lib.hid (BX_4.out.within (within_of hb) (by omega))
      have BT_5 := Lib.hid (BT_4.out.within (within_of hb) (by omega))
      have BW_5 := Lib.hid (BW_4.out.within (within_of hb) (by omega))
      have SR_5 := Lib.hid (SR_4.out.within (within_of hb) (by omega))
      have SX_5 := Lib.hid (own_in ho)
      clear ho hb
      have Z6 := Lib.hid (within_alloc w5 (.cells #[.int .i64 q, (.slice (some ⟨x0, 0, none⟩) l.length l.length)] 30)).size
      have W6 := Lib.hid (within_on W5.out (within_alloc w5 (.cells #[.int .i64 q, (.slice (some ⟨x0, 0, none⟩) l.length l.length)] 30)) W5.out.size (.inr (Nat.le_refl _)))
      have HB_6 := Lib.hid (HB_5.out.within (within_alloc w5 (.cells #[.int .i64 q, (.slice (some ⟨x0, 0, none⟩) l.length l.length)] 30)) (by omega))
      have BX_6 := Lib.hid (BX_5.out.within (within_alloc w5 (.cells #[.int .i64 q, (.slice (some ⟨x0, 0, none⟩) l.length l.length)] 30)) (by omega))
      have BT_6 := Lib.hid (BT_5.out.within (within_alloc w5 (.cells #[.int .i64 q, (.slice (some ⟨x0, 0, none⟩) l.length l.length)] 30)) (by omega))
      have BW_6 := Lib.hid (BW_5.out.within (within_alloc w5 (.cells #[.int .i64 q, (.slice (some ⟨x0, 0, none⟩) l.length l.length)] 30)) (by omega))
      have SR_6 := Lib.hid (SR_5.out.within (within_alloc w5 (.cells #[.int .i64 q, (.slice (some ⟨x0, 0, none⟩) l.length l.length)] 30)) (by omega))
      have SX_6 := Lib.hid (SX_5.out.within (within_alloc w5 (.cells #[.int .i64 q, (.slice (some ⟨x0, 0, none⟩) l.length l.length)] 30)) (by omega))
      have Y6 := Lib.hid (show (w5.alloc (.cells #[.int .i64 q, (.slice (some ⟨x0, 0, none⟩) l.length l.length)] 30)).heap.size = w5.heap.size + 1 by simp)
      have hnew := box_new w5 q (.slice (some ⟨x0, 0, none⟩) l.length l.length) 30
      have XX_6 := Lib.hid hnew
      clear hnew
      generalize hXX : (w5.alloc (.cells #[.int .i64 q, (.slice (some ⟨x0, 0, none⟩) l.length l.length)] 30)) = w6 at *
      have hdr : Below w6.heap.size w6 w6.drew := (Below.refl _ _).drew
      have Gd := Lib.hid ((SX_6.out.bars).within (within_of hdr) (.inr (Nat.zero_le _)))
      have HS := Lib.hid (fun (W : World) (hb : Below w6.drew.heap.size w6.drew W) => (show (fun W' => W'.cell? ⟨w.heap.size, 0, none⟩ = some (.int .i64 q) ∧ W'.cell? ⟨w.heap.size, 1, none⟩ = some (.slice A l.length cap) ∧ W'.cell? ⟨w.heap.size + 1, 0, none⟩ = some (.int .i64 sk) ∧ W'.cell? ⟨w.heap.size + 1, 1, none⟩ = some (.int .i64 sp) ∧ W'.cell? ⟨w.heap.size + 1, 2, none⟩ = some (.int .i64 sa) ∧ W'.cell? ⟨w.heap.size + 1, 3, none⟩ = some (.int .i64 sb) ∧ W'.cell? ⟨w.heap.size + 1, 4, none⟩ = some (.int .i64 sc) ∧ W'.cell? ⟨w5.heap.size, 0, none⟩ = some (.int .i64 q) ∧ W'.cell? ⟨w5.heap.size, 1, none⟩ = some (.slice (some ⟨x0, 0, none⟩) l.length l.length)) W from ⟨((BX_6.out.kept hdr).kept hb).2.1, ((BX_6.out.kept hdr).kept hb).2.2, ((BT_6.out.kept hdr).kept hb).2.1, ((BT_6.out.kept hdr).kept hb).2.2.1, ((BT_6.out.kept hdr).kept hb).2.2.2.1, ((BT_6.out.kept hdr).kept hb).2.2.2.2.1, ((BT_6.out.kept hdr).kept hb).2.2.2.2.2, ((XX_6.out.kept hdr).kept hb).2.1, ((XX_6.out.kept hdr).kept hb).2.2⟩))
      clear hdr
      go_wp2_with fail
      go_cut [9, 10] (fun b1 b2 wx => BoxG w6 q L R b1 b2 wx)
      case first =>
        go_region_held3 (fun W' => W'.cell? ⟨w.heap.size, 0, none⟩ = some (.int .i64 q) ∧ W'.cell? ⟨w.heap.size, 1, none⟩ = some (.slice A l.length cap) ∧ W'.cell? ⟨w.heap.size + 1, 0, none⟩ = some (.int .i64 sk) ∧ W'.cell? ⟨w.heap.size + 1, 1, none⟩ = some (.int .i64 sp) ∧ W'.cell? ⟨w.heap.size + 1, 2, none⟩ = some (.int .i64 sa) ∧ W'.cell? ⟨w.heap.size + 1, 3, none⟩ = some (.int .i64 sb) ∧ W'.cell? ⟨w.heap.size + 1, 4, none⟩ = some (.int .i64 sc) ∧ W'.cell? ⟨w5.heap.size, 0, none⟩ = some (.int .i64 q) ∧ W'.cell? ⟨w5.heap.size, 1, none⟩ = some (.slice (some ⟨x0, 0, none⟩) l.length l.length))
          (first | exact HS.out _ (Below.refl _ _) | exact HS.out _ (new_below _ _) | exact HS.out _ BwA.out | exact HS.out _ (below_on BwA.out (new_below _ _) BwA.out.size) | exact HS.out _ BwB.out | exact HS.out _ (below_on BwB.out (new_below _ _) BwB.out.size) | exact HS.out _ ((BwB.out.setCell (p := ⟨_, 0, none⟩) HGE.out _).setCell (p := ⟨_, 1, none⟩) HGE.out _) | exact HS.out _ (((below_on BwB.out (new_below _ _) BwB.out.size).setCell (p := ⟨_, 0, none⟩) BwB.out.size _).setCell (p := ⟨_, 1, none⟩) BwB.out.size _))
          (first
            | (go_at_call 22; refine (HIM.out _ _ wA GwA.out.at).mono ?_; rintro e wB ⟨AS, cS, rfl, ho, hb⟩; have BwB := Lib.hid (show Below w6.drew.heap.size w6.drew wB from (below_on BwA.out hb BwA.out.size)); have SwB := Lib.hid (ho); have LO := Lib.hid (show w6.drew.heap.size ≤ wA.heap.size from BwA.out.size); (first | (have XwB := Lib.hid (XwA.out.kept hb); have HGL3 := Lib.hid (Nat.succ_le_of_lt HGL.out); have HGL := Lib.hid (Nat.lt_of_lt_of_le HGL.out hb.size); have HGL2 := HGL) | skip); (first | (obtain ⟨_, _, _, _⟩ := XwB.out.cells) | (obtain ⟨_, _, _, _⟩ := (cel2_new wB (.int .i64 0) (.slice none 0 0) 30).cells)); clear ho hb)
            | (go_at_call 22; have hal := new_below wA (.cells #[.int .i64 0, .slice none 0 0] 30); refine (HIM.out _ _ (wA.alloc (.cells #[.int .i64 0, .slice none 0 0] 30)) (GwA.out.within (within_alloc wA (.cells #[.int .i64 0, .slice none 0 0] 30)) (.inr (Nat.zero_le _))).at).mono ?_; rintro e wB ⟨AS, cS, rfl, ho, hb⟩; have BwB := Lib.hid (show Below w6.drew.heap.size w6.drew wB from (below_on (below_on BwA.out hal BwA.out.size) hb (below_on BwA.out hal BwA.out.size).size)); have SwB := Lib.hid (ho); have LO := Lib.hid (show w6.drew.heap.size ≤ (wA.alloc (.cells #[.int .i64 0, .slice none 0 0] 30)).heap.size from (below_on BwA.out hal BwA.out.size).size); have XwB := Lib.hid (show Cel2 wB (wA.heap.size) 30 (.int .i64 0) (.slice none 0 0) from (cel2_new wA (.int .i64 0) (.slice none 0 0) 30).kept hb); have hge : w6.drew.heap.size ≤ wA.heap.size := BwA.out.size; have hgl : wA.heap.size < (wA.alloc (.cells #[.int .i64 0, .slice none 0 0] 30)).heap.size := (by simp); have HGE := Lib.hid hge; have HGL := Lib.hid (Nat.lt_of_lt_of_le hgl hb.size); have HGM := Lib.hid (show wA.heap.size + 1 ≤ (wA.alloc (.cells #[.int .i64 0, .slice none 0 0] 30)).heap.size from hgl); clear hge hgl; (first | (obtain ⟨_, _, _, _⟩ := XwB.out.cells) | (obtain ⟨_, _, _, _⟩ := (cel2_new wB (.int .i64 0) (.slice none 0 0) 30).cells)); clear ho hb)
            | (go_at_call 21; refine (toStep_c sk sp sa sb sc w6.drew).mono ?_; rintro e wA ⟨rfl, hb⟩; have BwA := Lib.hid (show Below w6.drew.heap.size w6.drew wA from hb); have GwA := Lib.hid (Gd.out.within (within_of hb) (.inr (Nat.zero_le _))); clear hb)
            | (go_at_call 21; have hal := new_below w6.drew (.cells #[.int .i64 0, .slice none 0 0] 30); refine (toStep_c sk sp sa sb sc (w6.drew.alloc (.cells #[.int .i64 0, .slice none 0 0] 30))).mono ?_; rintro e wA ⟨rfl, hb⟩; have BwA := Lib.hid (show Below w6.drew.heap.size w6.drew wA from (below_on (below_on (Below.refl w6.drew.heap.size w6.drew) hal (Below.refl w6.drew.heap.size w6.drew).size) hb (below_on (Below.refl w6.drew.heap.size w6.drew) hal (Below.refl w6.drew.heap.size w6.drew).size).size)); have GwA := Lib.hid ((Gd.out.within (within_alloc w6.drew (.cells #[.int .i64 0, .slice none 0 0] 30)) (.inr (Nat.zero_le _))).within (within_of hb) (.inr (Nat.zero_le _))); have XwA := Lib.hid (show Cel2 wA (w6.heap.size) 30 (.int .i64 0) (.slice none 0 0) from (cel2_new w6.drew (.int .i64 0) (.slice none 0 0) 30).kept hb); have hge : w6.drew.heap.size ≤ w6.heap.size := (Below.refl w6.drew.heap.size w6.drew).size; have hgl : w6.heap.size < (w6.drew.alloc (.cells #[.int .i64 0, .slice none 0 0] 30)).heap.size := (by simp); have HGE := Lib.hid hge; have HGL := Lib.hid (Nat.lt_of_lt_of_le hgl hb.size); have HGM := Lib.hid (show w6.heap.size + 1 ≤ (w6.drew.alloc (.cells #[.int .i64 0, .slice none 0 0] 30)).heap.size from hgl); clear hge hgl; clear hb))
        all_goals (
          go_wp2_with fail
          go_meet
          case rel =>
            first
              | exact boxG_in ((Below.refl _ _).drew) BwB.out XwB.out HGE.out LO.out SwB.out HGL3.out
              | exact boxG_in ((Below.refl _ _).drew) BwB.out XwB.out HGE.out LO.out SwB.out HGM.out
              | exact boxG_new ((Below.refl _ _).drew) BwB.out LO.out SwB.out)
      case rest =>
        obtain ⟨gb2, ABG, cBG, lo2, hi2, rfl, rfl, hb, hg, hcb, ho⟩ := hcut
        obtain ⟨w7, hwn⟩ : ∃ x, x = wc := ⟨_, rfl⟩
        subst hwn
        have Z7 := Lib.hid (within_of hb).size
        have W7 := Lib.hid (within_on W6.out (within_of hb) W6.out.size (.inr (Nat.le_refl _)))
        have HB_7 := Lib.hid (HB_6.out.within (within_of hb) (by omega))
        have BX_7 := Lib.hid (BX_6.out.within (within_of hb) (by omega))
        have BT_7 := Lib.hid (BT_6.out.within (within_of hb) (by omega))
        have BW_7 := Lib.hid (BW_6.out.within (within_of hb) (by omega))
        have SR_7 := Lib.hid (SR_6.out.within (within_of hb) (by omega))
        have SX_7 := Lib.hid (SX_6.out.within (within_of hb) (by omega))
        have XX_7 := Lib.hid (XX_6.out.within (within_of hb) (by omega))
        have BG_7 := Lib.hid hcb
        have SO_7 := Lib.hid ho
        have Y7 := Lib.hid (And.intro hg (And.intro hcb.1 ho.1))
        clear hb hg hcb ho HS Gd
        obtain ⟨g2_0, g2_1, g2_2⟩ := BG_7.out
        obtain ⟨g3_0, g3_1, g3_2⟩ := BW_7.out
        go_wp2_with fail
        clear g2_0 g2_1 g2_2 g3_0 g3_1 g3_2
        refine (eqGraph_c q L ABG ABW cBG cBW _ SO_7.out.bars.at SR_7.out.at hll).mono ?_
        rintro e w8 ⟨rfl, hb⟩
        have Z8 := Lib.hid (within_of hb).size
        have W8 := Lib.hid (within_on W7.out (within_of hb) W7.out.size (.inr (Nat.le_refl _)))
        have HB_8 := Lib.hid (HB_7.out.within (within_of hb) (by omega))
        have BX_8 := Lib.hid (BX_7.out.within (within_of hb) (by omega))
        have BT_8 := Lib.hid (BT_7.out.within (within_of hb) (by omega))
        have BW_8 := Lib.hid (BW_7.out.within (within_of hb) (by omega))
        have SR_8 := Lib.hid (SR_7.out.within (within_of hb) (by omega))
        have SX_8 := Lib.hid (SX_7.out.within (within_of hb) (by omega))
        have XX_8 := Lib.hid (XX_7.out.within (within_of hb) (by omega))
        have BG_8 := Lib.hid (BG_7.out.within (within_of hb) (by omega))
        have SO_8 := Lib.hid (SO_7.out.within (within_of hb) (by omega))
        clear hb
        have kk3 : (fun W' => W'.cell? ⟨w.heap.size, 0, none⟩ = some (.int .i64 q) ∧ W'.cell? ⟨w.heap.size, 1, none⟩ = some (.slice A l.length cap) ∧ W'.cell? ⟨w5.heap.size, 0, none⟩ = some (.int .i64 q) ∧ W'.cell? ⟨w5.heap.size, 1, none⟩ = some (.slice (some ⟨x0, 0, none⟩) l.length l.length)) w8 := ⟨(BX_8.out).2.1, (BX_8.out).2.2, (XX_8.out).2.1, (XX_8.out).2.2⟩
        have hdr : Below w8.heap.size w8 w8.drew := (Below.refl _ _).drew
        have Z9 := Lib.hid (within_of hdr).size
        have W9 := Lib.hid (within_on W8.out (within_of hdr) W8.out.size (.inr (Nat.le_refl _)))
        have HB_9 := Lib.hid (HB_8.out.within (within_of hdr) (by omega))
        have BX_9 := Lib.hid (BX_8.out.within (within_of hdr) (by omega))
        have BT_9 := Lib.hid (BT_8.out.within (within_of hdr) (by omega))
        have BW_9 := Lib.hid (BW_8.out.within (within_of hdr) (by omega))
        have SR_9 := Lib.hid (SR_8.out.within (within_of hdr) (by omega))
        have SX_9 := Lib.hid (SX_8.out.within (within_of hdr) (by omega))
        have XX_9 := Lib.hid (XX_8.out.within (within_of hdr) (by omega))
        have BG_9 := Lib.hid (BG_8.out.within (within_of hdr) (by omega))
        have SO_9 := Lib.hid (SO_8.out.within (within_of hdr) (by omega))
        clear hdr
        go_wp2_with fail
        go_region_held3 (fun W' => W'.cell? ⟨w.heap.size, 0, none⟩ = some (.int .i64 q) ∧ W'.cell? ⟨w.heap.size, 1, none⟩ = some (.slice A l.length cap) ∧ W'.cell? ⟨w5.heap.size, 0, none⟩ = some (.int .i64 q) ∧ W'.cell? ⟨w5.heap.size, 1, none⟩ = some (.slice (some ⟨x0, 0, none⟩) l.length l.length))
          (first | exact kk3 | exact ⟨(BX_10.out).2.1, (BX_10.out).2.2, (XX_10.out).2.1, (XX_10.out).2.2⟩ | exact ⟨(BX_11.out).2.1, (BX_11.out).2.2, (XX_11.out).2.1, (XX_11.out).2.2⟩ | fail)
          (first
            | (go_at_call 13; refine (toGraph_c q l A cap _ HB_9.out.at hn).mono ?_; rintro e w10 ⟨y0, rfl, ho, hb⟩; have Z10 := Lib.hid (within_of hb).size; have W10 := Lib.hid (within_on W9.out (within_of hb) W9.out.size (.inr (Nat.le_refl _))); have HB_10 := Lib.hid (HB_9.out.within (within_of hb) (by omega)); have BX_10 := Lib.hid (BX_9.out.within (within_of hb) (by omega)); have BT_10 := Lib.hid (BT_9.out.within (within_of hb) (by omega)); have BW_10 := Lib.hid (BW_9.out.within (within_of hb) (by omega)); have SR_10 := Lib.hid (SR_9.out.within (within_of hb) (by omega)); have SX_10 := Lib.hid (SX_9.out.within (within_of hb) (by omega)); have XX_10 := Lib.hid (XX_9.out.within (within_of hb) (by omega)); have BG_10 := Lib.hid (BG_9.out.within (within_of hb) (by omega)); have SO_10 := Lib.hid (SO_9.out.within (within_of hb) (by omega)); have YG_10 := Lib.hid ((own_in ho).bars); clear ho hb)
            | (go_at_call 16; refine (eqGraph_c q l _ _ l.length l.length _ SX_10.out.bars.at YG_10.out.at hn).mono ?_; rintro e w11 ⟨rfl, hb⟩; have Z11 := Lib.hid (within_of hb).size; have W11 := Lib.hid (within_on W10.out (within_of hb) W10.out.size (.inr (Nat.le_refl _))); have HB_11 := Lib.hid (HB_10.out.within (within_of hb) (by omega)); have BX_11 := Lib.hid (BX_10.out.within (within_of hb) (by omega)); have BT_11 := Lib.hid (BT_10.out.within (within_of hb) (by omega)); have BW_11 := Lib.hid (BW_10.out.within (within_of hb) (by omega)); have SR_11 := Lib.hid (SR_10.out.within (within_of hb) (by omega)); have SX_11 := Lib.hid (SX_10.out.within (within_of hb) (by omega)); have XX_11 := Lib.hid (XX_10.out.within (within_of hb) (by omega)); have BG_11 := Lib.hid (BG_10.out.within (within_of hb) (by omega)); have SO_11 := Lib.hid (SO_10.out.within (within_of hb) (by omega)); have YG_11 := Lib.hid (YG_10.out.within (within_of hb) (by omega)); clear hb))
        obtain ⟨g4_0, g4_1, g4_2⟩ := XX_11.out
        go_wp2_with fail
        clear g4_0 g4_1 g4_2
        refine (markGraph_o q (some ⟨x0, 0, none⟩) l.length l 1 w4.heap.size w5.heap.size _ SX_11.out hn (by omega) (by omega)).mono ?_
        rintro e w12 ⟨rfl, hin, hox⟩
        have Z12 := Lib.hid (hin).size
        have W12 := Lib.hid (within_on W11.out (hin) W11.out.size (by have := Z1.out; have := Z2.out; have := Z3.out; have := Z4.out; have := Z5.out; have := Z6.out; have := Z7.out; have := Z8.out; have := Z9.out; have := Z10.out; have := Z11.out; have := Z12.out; have := Y1.out; have := Y2.out; have := Y4.out; have := Y6.out; have := Y7.out; omega))
        have HB_12 := Lib.hid (HB_11.out.within (hin) (by have := Z1.out; have := Z2.out; have := Z3.out; have := Z4.out; have := Z5.out; have := Z6.out; have := Z7.out; have := Z8.out; have := Z9.out; have := Z10.out; have := Z11.out; have := Z12.out; have := Y1.out; have := Y2.out; have := Y4.out; have := Y6.out; have := Y7.out; omega))
        have BX_12 := Lib.hid (BX_11.out.within (hin) (by have := Z1.out; have := Z2.out; have := Z3.out; have := Z4.out; have := Z5.out; have := Z6.out; have := Z7.out; have := Z8.out; have := Z9.out; have := Z10.out; have := Z11.out; have := Z12.out; have := Y1.out; have := Y2.out; have := Y4.out; have := Y6.out; have := Y7.out; omega))
        have BT_12 := Lib.hid (BT_11.out.within (hin) (by have := Z1.out; have := Z2.out; have := Z3.out; have := Z4.out; have := Z5.out; have := Z6.out; have := Z7.out; have := Z8.out; have := Z9.out; have := Z10.out; have := Z11.out; have := Z12.out; have := Y1.out; have := Y2.out; have := Y4.out; have := Y6.out; have := Y7.out; omega))
        have BW_12 := Lib.hid (BW_11.out.within (hin) (by have := Z1.out; have := Z2.out; have := Z3.out; have := Z4.out; have := Z5.out; have := Z6.out; have := Z7.out; have := Z8.out; have := Z9.out; have := Z10.out; have := Z11.out; have := Z12.out; have := Y1.out; have := Y2.out; have := Y4.out; have := Y6.out; have := Y7.out; omega))
        have SR_12 := Lib.hid (SR_11.out.within (hin) (by have := Z1.out; have := Z2.out; have := Z3.out; have := Z4.out; have := Z5.out; have := Z6.out; have := Z7.out; have := Z8.out; have := Z9.out; have := Z10.out; have := Z11.out; have := Z12.out; have := Y1.out; have := Y2.out; have := Y4.out; have := Y6.out; have := Y7.out; omega))
        have XX_12 := Lib.hid (XX_11.out.within (hin) (by have := Z1.out; have := Z2.out; have := Z3.out; have := Z4.out; have := Z5.out; have := Z6.out; have := Z7.out; have := Z8.out; have := Z9.out; have := Z10.out; have := Z11.out; have := Z12.out; have := Y1.out; have := Y2.out; have := Y4.out; have := Y6.out; have := Y7.out; omega))
        have BG_12 := Lib.hid (BG_11.out.within (hin) (by have := Z1.out; have := Z2.out; have := Z3.out; have := Z4.out; have := Z5.out; have := Z6.out; have := Z7.out; have := Z8.out; have := Z9.out; have := Z10.out; have := Z11.out; have := Z12.out; have := Y1.out; have := Y2.out; have := Y4.out; have := Y6.out; have := Y7.out; omega))
        have SO_12 := Lib.hid (SO_11.out.within (hin) (by have := Z1.out; have := Z2.out; have := Z3.out; have := Z4.out; have := Z5.out; have := Z6.out; have := Z7.out; have := Z8.out; have := Z9.out; have := Z10.out; have := Z11.out; have := Z12.out; have := Y1.out; have := Y2.out; have := Y4.out; have := Y6.out; have := Y7.out; omega))
        have YG_12 := Lib.hid (YG_11.out.within (hin) (by have := Z1.out; have := Z2.out; have := Z3.out; have := Z4.out; have := Z5.out; have := Z6.out; have := Z7.out; have := Z8.out; have := Z9.out; have := Z10.out; have := Z11.out; have := Z12.out; have := Y1.out; have := Y2.out; have := Y4.out; have := Y6.out; have := Y7.out; omega))
        clear hox hin
        have hk1 : ¬ (1 : Int) + 2 * (l.length : Int) < 0 := by omega
        obtain ⟨g5_0, g5_1, g5_2⟩ := BG_12.out
        obtain ⟨g6_0, g6_1, g6_2⟩ := BW_12.out
        go_wp2_with fail
        clear g5_0 g5_1 g5_2 g6_0 g6_1 g6_2
        refine (eqGraph_c q L ABG ABW cBG cBW _ SO_12.out.bars.at SR_12.out.at hll).mono ?_
        rintro e w13 ⟨rfl, hb⟩
        have Z13 := Lib.hid (within_of hb).size
        have W13 := Lib.hid (within_on W12.out (within_of hb) W12.out.size (.inr (Nat.le_refl _)))
        have HB_13 := Lib.hid (HB_12.out.within (within_of hb) (by omega))
        have BX_13 := Lib.hid (BX_12.out.within (within_of hb) (by omega))
        have BT_13 := Lib.hid (BT_12.out.within (within_of hb) (by omega))
        have BW_13 := Lib.hid (BW_12.out.within (within_of hb) (by omega))
        have SR_13 := Lib.hid (SR_12.out.within (within_of hb) (by omega))
        have XX_13 := Lib.hid (XX_12.out.within (within_of hb) (by omega))
        have BG_13 := Lib.hid (BG_12.out.within (within_of hb) (by omega))
        have SO_13 := Lib.hid (SO_12.out.within (within_of hb) (by omega))
        have YG_13 := Lib.hid (YG_12.out.within (within_of hb) (by omega))
        clear hb
        obtain ⟨g7_0, g7_1, g7_2⟩ := BG_13.out
        go_wp2_with fail
        clear g7_0 g7_1 g7_2
        refine (markGraph_o q ABG cBG L 1 lo2 hi2 _ SO_13.out hll (by omega) (by omega)).mono ?_
        rintro e w14 ⟨rfl, hin, hog⟩
        have Z14 := Lib.hid (hin).size
        have W14 := Lib.hid (within_on W13.out (hin) W13.out.size (by have := Z1.out; have := Z2.out; have := Z3.out; have := Z4.out; have := Z5.out; have := Z6.out; have := Z7.out; have := Z8.out; have := Z9.out; have := Z10.out; have := Z11.out; have := Z12.out; have := Z13.out; have := Z14.out; have := Y1.out; have := Y2.out; have := Y4.out; have := Y6.out; have := Y7.out; omega))
        have HB_14 := Lib.hid (HB_13.out.within (hin) (by have := Z1.out; have := Z2.out; have := Z3.out; have := Z4.out; have := Z5.out; have := Z6.out; have := Z7.out; have := Z8.out; have := Z9.out; have := Z10.out; have := Z11.out; have := Z12.out; have := Z13.out; have := Z14.out; have := Y1.out; have := Y2.out; have := Y4.out; have := Y6.out; have := Y7.out; omega))
        have BX_14 := Lib.hid (BX_13.out.within (hin) (by have := Z1.out; have := Z2.out; have := Z3.out; have := Z4.out; have := Z5.out; have := Z6.out; have := Z7.out; have := Z8.out; have := Z9.out; have := Z10.out; have := Z11.out; have := Z12.out; have := Z13.out; have := Z14.out; have := Y1.out; have := Y2.out; have := Y4.out; have := Y6.out; have := Y7.out; omega))
        have BT_14 := Lib.hid (BT_13.out.within (hin) (by have := Z1.out; have := Z2.out; have := Z3.out; have := Z4.out; have := Z5.out; have := Z6.out; have := Z7.out; have := Z8.out; have := Z9.out; have := Z10.out; have := Z11.out; have := Z12.out; have := Z13.out; have := Z14.out; have := Y1.out; have := Y2.out; have := Y4.out; have := Y6.out; have := Y7.out; omega))
        have BW_14 := Lib.hid (BW_13.out.within (hin) (by have := Z1.out; have := Z2.out; have := Z3.out; have := Z4.out; have := Z5.out; have := Z6.out; have := Z7.out; have := Z8.out; have := Z9.out; have := Z10.out; have := Z11.out; have := Z12.out; have := Z13.out; have := Z14.out; have := Y1.out; have := Y2.out; have := Y4.out; have := Y6.out; have := Y7.out; omega))
        have SR_14 := Lib.hid (SR_13.out.within (hin) (by have := Z1.out; have := Z2.out; have := Z3.out; have := Z4.out; have := Z5.out; have := Z6.out; have := Z7.out; have := Z8.out; have := Z9.out; have := Z10.out; have := Z11.out; have := Z12.out; have := Z13.out; have := Z14.out; have := Y1.out; have := Y2.out; have := Y4.out; have := Y6.out; have := Y7.out; omega))
        have XX_14 := Lib.hid (XX_13.out.within (hin) (by have := Z1.out; have := Z2.out; have := Z3.out; have := Z4.out; have := Z5.out; have := Z6.out; have := Z7.out; have := Z8.out; have := Z9.out; have := Z10.out; have := Z11.out; have := Z12.out; have := Z13.out; have := Z14.out; have := Y1.out; have := Y2.out; have := Y4.out; have := Y6.out; have := Y7.out; omega))
        have BG_14 := Lib.hid (BG_13.out.within (hin) (by have := Z1.out; have := Z2.out; have := Z3.out; have := Z4.out; have := Z5.out; have := Z6.out; have := Z7.out; have := Z8.out; have := Z9.out; have := Z10.out; have := Z11.out; have := Z12.out; have := Z13.out; have := Z14.out; have := Y1.out; have := Y2.out; have := Y4.out; have := Y6.out; have := Y7.out; omega))
        have YG_14 := Lib.hid (YG_13.out.within (hin) (by have := Z1.out; have := Z2.out; have := Z3.out; have := Z4.out; have := Z5.out; have := Z6.out; have := Z7.out; have := Z8.out; have := Z9.out; have := Z10.out; have := Z11.out; have := Z12.out; have := Z13.out; have := Z14.out; have := Y1.out; have := Y2.out; have := Y4.out; have := Y6.out; have := Y7.out; omega))
        have SM_14 := Lib.hid (hog)
        clear hog hin
        obtain ⟨g8_0, g8_1, g8_2⟩ := BG_14.out
        go_wp2_with fail
        clear g8_0 g8_1 g8_2
        have hk2 : ¬ (1 : Int) + 2 * (L.length : Int) < 0 := by omega
        refine (heldGraph_o q L.length ABG cBG 1 lo2 hi2 _ SM_14.out hll (by omega) (by omega)).mono ?_
        rintro e w15 ⟨rfl, hb⟩
        have Z15 := Lib.hid (within_of hb).size
        have W15 := Lib.hid (within_on W14.out (within_of hb) W14.out.size (.inr (Nat.le_refl _)))
        have HB_15 := Lib.hid (HB_14.out.within (within_of hb) (by omega))
        have BX_15 := Lib.hid (BX_14.out.within (within_of hb) (by omega))
        have BT_15 := Lib.hid (BT_14.out.within (within_of hb) (by omega))
        have BW_15 := Lib.hid (BW_14.out.within (within_of hb) (by omega))
        have SR_15 := Lib.hid (SR_14.out.within (within_of hb) (by omega))
        have XX_15 := Lib.hid (XX_14.out.within (within_of hb) (by omega))
        have BG_15 := Lib.hid (BG_14.out.within (within_of hb) (by omega))
        have YG_15 := Lib.hid (YG_14.out.within (within_of hb) (by omega))
        have SM_15 := Lib.hid (SM_14.out.within (within_of hb) (by omega))
        clear hb
        have hdr : Below w15.heap.size w15 w15.drew := (Below.refl _ _).drew
        have Hd := Lib.hid ((HB_15.out).within (within_of hdr) (.inr (Nat.zero_le _)))
        have HS := Lib.hid (fun (W : World) (hb : Below w15.drew.heap.size w15.drew W) => (show (fun W' => W'.cell? ⟨w.heap.size, 0, none⟩ = some (.int .i64 q) ∧ W'.cell? ⟨w.heap.size, 1, none⟩ = some (.slice A l.length cap) ∧ W'.cell? ⟨w.heap.size + 1, 0, none⟩ = some (.int .i64 sk) ∧ W'.cell? ⟨w.heap.size + 1, 1, none⟩ = some (.int .i64 sp) ∧ W'.cell? ⟨w.heap.size + 1, 2, none⟩ = some (.int .i64 sa) ∧ W'.cell? ⟨w.heap.size + 1, 3, none⟩ = some (.int .i64 sb) ∧ W'.cell? ⟨w.heap.size + 1, 4, none⟩ = some (.int .i64 sc)) W from ⟨((BX_15.out.kept hdr).kept hb).2.1, ((BX_15.out.kept hdr).kept hb).2.2, ((BT_15.out.kept hdr).kept hb).2.1, ((BT_15.out.kept hdr).kept hb).2.2.1, ((BT_15.out.kept hdr).kept hb).2.2.2.1, ((BT_15.out.kept hdr).kept hb).2.2.2.2.1, ((BT_15.out.kept hdr).kept hb).2.2.2.2.2⟩))
        clear hdr
        go_wp2_with fail
        go_cut [14, 15] (fun b1 b2 wx => BoxG w15 q L R b1 b2 wx)
        case first =>
          go_region_held3 (fun W' => W'.cell? ⟨w.heap.size, 0, none⟩ = some (.int .i64 q) ∧ W'.cell? ⟨w.heap.size, 1, none⟩ = some (.slice A l.length cap) ∧ W'.cell? ⟨w.heap.size + 1, 0, none⟩ = some (.int .i64 sk) ∧ W'.cell? ⟨w.heap.size + 1, 1, none⟩ = some (.int .i64 sp) ∧ W'.cell? ⟨w.heap.size + 1, 2, none⟩ = some (.int .i64 sa) ∧ W'.cell? ⟨w.heap.size + 1, 3, none⟩ = some (.int .i64 sb) ∧ W'.cell? ⟨w.heap.size + 1, 4, none⟩ = some (.int .i64 sc))
            (first | exact HS.out _ (Below.refl _ _) | exact HS.out _ (new_below _ _) | exact HS.out _ BwA.out | exact HS.out _ (below_on BwA.out (new_below _ _) BwA.out.size) | exact HS.out _ BwB.out | exact HS.out _ (below_on BwB.out (new_below _ _) BwB.out.size) | exact HS.out _ BwC.out | exact HS.out _ (below_on BwC.out (new_below _ _) BwC.out.size) | exact HS.out _ ((BwC.out.setCell (p := ⟨_, 0, none⟩) HGE.out _).setCell (p := ⟨_, 1, none⟩) HGE.out _) | exact HS.out _ (((below_on BwC.out (new_below _ _) BwC.out.size).setCell (p := ⟨_, 0, none⟩) BwC.out.size _).setCell (p := ⟨_, 1, none⟩) BwC.out.size _))
            (first
              | (go_at_call 22; refine (HIM.out _ _ wB GwB.out.at).mono ?_; rintro e wC ⟨AS, cS, rfl, ho, hb⟩; have BwC := Lib.hid (show Below w15.drew.heap.size w15.drew wC from (below_on BwB.out hb BwB.out.size)); have SwC := Lib.hid (ho); have LO := Lib.hid (show w15.drew.heap.size ≤ wB.heap.size from BwB.out.size); (first | (have XwC := Lib.hid (XwB.out.kept hb); have HGL3 := Lib.hid (Nat.succ_le_of_lt HGL.out); have HGL := Lib.hid (Nat.lt_of_lt_of_le HGL.out hb.size); have HGL2 := HGL) | skip); (first | (obtain ⟨_, _, _, _⟩ := XwC.out.cells) | (obtain ⟨_, _, _, _⟩ := (cel2_new wC (.int .i64 0) (.slice none 0 0) 30).cells)); clear ho hb)
              | (go_at_call 22; have hal := new_below wB (.cells #[.int .i64 0, .slice none 0 0] 30); refine (HIM.out _ _ (wB.alloc (.cells #[.int .i64 0, .slice none 0 0] 30)) (GwB.out.within (within_alloc wB (.cells #[.int .i64 0, .slice none 0 0] 30)) (.inr (Nat.zero_le _))).at).mono ?_; rintro e wC ⟨AS, cS, rfl, ho, hb⟩; have BwC := Lib.hid (show Below w15.drew.heap.size w15.drew wC from (below_on (below_on BwB.out hal BwB.out.size) hb (below_on BwB.out hal BwB.out.size).size)); have SwC := Lib.hid (ho); have LO := Lib.hid (show w15.drew.heap.size ≤ (wB.alloc (.cells #[.int .i64 0, .slice none 0 0] 30)).heap.size from (below_on BwB.out hal BwB.out.size).size); have XwC := Lib.hid (show Cel2 wC (wB.heap.size) 30 (.int .i64 0) (.slice none 0 0) from (cel2_new wB (.int .i64 0) (.slice none 0 0) 30).kept hb); have hge : w15.drew.heap.size ≤ wB.heap.size := BwB.out.size; have hgl : wB.heap.size < (wB.alloc (.cells #[.int .i64 0, .slice none 0 0] 30)).heap.size := (by simp); have HGE := Lib.hid hge; have HGL := Lib.hid (Nat.lt_of_lt_of_le hgl hb.size); have HGM := Lib.hid (show wB.heap.size + 1 ≤ (wB.alloc (.cells #[.int .i64 0, .slice none 0 0] 30)).heap.size from hgl); clear hge hgl; (first | (obtain ⟨_, _, _, _⟩ := XwC.out.cells) | (obtain ⟨_, _, _, _⟩ := (cel2_new wC (.int .i64 0) (.slice none 0 0) 30).cells)); clear ho hb)
              | (go_at_call 21; refine (toStep_c sk sp sa sb sc wA).mono ?_; rintro e wB ⟨rfl, hb⟩; have BwB := Lib.hid (show Below w15.drew.heap.size w15.drew wB from (below_on BwA.out hb BwA.out.size)); have GwB := Lib.hid (GwA.out.within (within_of hb) (.inr (Nat.zero_le _))); (first | (have XwB := Lib.hid (XwA.out.kept hb); have HGL3 := Lib.hid (Nat.succ_le_of_lt HGL.out); have HGL := Lib.hid (Nat.lt_of_lt_of_le HGL.out hb.size); have HGL2 := HGL) | skip); clear hb)
              | (go_at_call 21; have hal := new_below wA (.cells #[.int .i64 0, .slice none 0 0] 30); refine (toStep_c sk sp sa sb sc (wA.alloc (.cells #[.int .i64 0, .slice none 0 0] 30))).mono ?_; rintro e wB ⟨rfl, hb⟩; have BwB := Lib.hid (show Below w15.drew.heap.size w15.drew wB from (below_on (below_on BwA.out hal BwA.out.size) hb (below_on BwA.out hal BwA.out.size).size)); have GwB := Lib.hid ((GwA.out.within (within_alloc wA (.cells #[.int .i64 0, .slice none 0 0] 30)) (.inr (Nat.zero_le _))).within (within_of hb) (.inr (Nat.zero_le _))); have XwB := Lib.hid (show Cel2 wB (wA.heap.size) 30 (.int .i64 0) (.slice none 0 0) from (cel2_new wA (.int .i64 0) (.slice none 0 0) 30).kept hb); have hge : w15.drew.heap.size ≤ wA.heap.size := BwA.out.size; have hgl : wA.heap.size < (wA.alloc (.cells #[.int .i64 0, .slice none 0 0] 30)).heap.size := (by simp); have HGE := Lib.hid hge; have HGL := Lib.hid (Nat.lt_of_lt_of_le hgl hb.size); have HGM := Lib.hid (show wA.heap.size + 1 ≤ (wA.alloc (.cells #[.int .i64 0, .slice none 0 0] 30)).heap.size from hgl); clear hge hgl; clear hb)
              | (go_at_call 13; refine (toGraph_c q l A cap w15.drew Hd.out.at hn).mono ?_; rintro e wA ⟨g0, rfl, ho, hb⟩; have BwA := Lib.hid (show Below w15.drew.heap.size w15.drew wA from hb); have GwA := Lib.hid ((own_in ho).bars); clear ho hb)
              | (go_at_call 13; have hal := new_below w15.drew (.cells #[.int .i64 0, .slice none 0 0] 30); refine (toGraph_c q l A cap (w15.drew.alloc (.cells #[.int .i64 0, .slice none 0 0] 30)) (Hd.out.within (within_alloc w15.drew (.cells #[.int .i64 0, .slice none 0 0] 30)) (.inr (Nat.zero_le _))).at hn).mono ?_; rintro e wA ⟨g0, rfl, ho, hb⟩; have BwA := Lib.hid (show Below w15.drew.heap.size w15.drew wA from (below_on (below_on (Below.refl w15.drew.heap.size w15.drew) hal (Below.refl w15.drew.heap.size w15.drew).size) hb (below_on (Below.refl w15.drew.heap.size w15.drew) hal (Below.refl w15.drew.heap.size w15.drew).size).size)); have GwA := Lib.hid ((own_in ho).bars); have XwA := Lib.hid (show Cel2 wA (w15.heap.size) 30 (.int .i64 0) (.slice none 0 0) from (cel2_new w15.drew (.int .i64 0) (.slice none 0 0) 30).kept hb); have hge : w15.drew.heap.size ≤ w15.heap.size := (Below.refl w15.drew.heap.size w15.drew).size; have hgl : w15.heap.size < (w15.drew.alloc (.cells #[.int .i64 0, .slice none 0 0] 30)).heap.size := (by simp); have HGE := Lib.hid hge; have HGL := Lib.hid (Nat.lt_of_lt_of_le hgl hb.size); have HGM := Lib.hid (show w15.heap.size + 1 ≤ (w15.drew.alloc (.cells #[.int .i64 0, .slice none 0 0] 30)).heap.size from hgl); clear hge hgl; clear ho hb))
          all_goals (
            go_wp2_with fail
            go_meet
            case rel =>
              first
                | exact boxG_in ((Below.refl _ _).drew) BwC.out XwC.out HGE.out LO.out SwC.out HGL3.out
                | exact boxG_in ((Below.refl _ _).drew) BwC.out XwC.out HGE.out LO.out SwC.out HGM.out
                | exact boxG_new ((Below.refl _ _).drew) BwC.out LO.out SwC.out)
        case rest =>
          obtain ⟨gb4, ABH, cBH, lo4, hi4, rfl, rfl, hb, hg, hcb, ho⟩ := hcut
          obtain ⟨w16, hwn⟩ : ∃ x, x = wc := ⟨_, rfl⟩
          subst hwn
          have Z16 := Lib.hid (within_of hb).size
          have W16 := Lib.hid (within_on W15.out (within_of hb) W15.out.size (.inr (Nat.le_refl _)))
          have HB_16 := Lib.hid (HB_15.out.within (within_of hb) (by omega))
          have BX_16 := Lib.hid (BX_15.out.within (within_of hb) (by omega))
          have BT_16 := Lib.hid (BT_15.out.within (within_of hb) (by omega))
          have BW_16 := Lib.hid (BW_15.out.within (within_of hb) (by omega))
          have SR_16 := Lib.hid (SR_15.out.within (within_of hb) (by omega))
          have XX_16 := Lib.hid (XX_15.out.within (within_of hb) (by omega))
          have BG_16 := Lib.hid (BG_15.out.within (within_of hb) (by omega))
          have YG_16 := Lib.hid (YG_15.out.within (within_of hb) (by omega))
          have SM_16 := Lib.hid (SM_15.out.within (within_of hb) (by omega))
          have BH_16 := Lib.hid hcb
          have SH_16 := Lib.hid ho
          have Y16 := Lib.hid (And.intro hg (And.intro hcb.1 ho.1))
          clear hb hg hcb ho HS Hd
          obtain ⟨g9_0, g9_1, g9_2⟩ := BH_16.out
          obtain ⟨g10_0, g10_1, g10_2⟩ := BW_16.out
          go_wp2_with fail
          clear g9_0 g9_1 g9_2 g10_0 g10_1 g10_2
          refine (eqGraph_c q L ABH ABW cBH cBW _ SH_16.out.bars.at SR_16.out.at hll).mono ?_
          rintro e w17 ⟨rfl, hb⟩
          have Z17 := Lib.hid (within_of hb).size
          have W17 := Lib.hid (within_on W16.out (within_of hb) W16.out.size (.inr (Nat.le_refl _)))
          have HB_17 := Lib.hid (HB_16.out.within (within_of hb) (by omega))
          have BX_17 := Lib.hid (BX_16.out.within (within_of hb) (by omega))
          have BT_17 := Lib.hid (BT_16.out.within (within_of hb) (by omega))
          have BW_17 := Lib.hid (BW_16.out.within (within_of hb) (by omega))
          have SR_17 := Lib.hid (SR_16.out.within (within_of hb) (by omega))
          have XX_17 := Lib.hid (XX_16.out.within (within_of hb) (by omega))
          have BG_17 := Lib.hid (BG_16.out.within (within_of hb) (by omega))
          have YG_17 := Lib.hid (YG_16.out.within (within_of hb) (by omega))
          have SM_17 := Lib.hid (SM_16.out.within (within_of hb) (by omega))
          have BH_17 := Lib.hid (BH_16.out.within (within_of hb) (by omega))
          have SH_17 := Lib.hid (SH_16.out.within (within_of hb) (by omega))
          clear hb
          obtain ⟨g11_0, g11_1, g11_2⟩ := BG_17.out
          go_wp2_with fail
          clear g11_0 g11_1 g11_2
          refine (heldGraph_o q L.length ABG cBG 1 lo2 hi2 _ SM_17.out hll (by omega) (by omega)).mono ?_
          rintro e w18 ⟨rfl, hb⟩
          have Z18 := Lib.hid (within_of hb).size
          have W18 := Lib.hid (within_on W17.out (within_of hb) W17.out.size (.inr (Nat.le_refl _)))
          have HB_18 := Lib.hid (HB_17.out.within (within_of hb) (by omega))
          have BX_18 := Lib.hid (BX_17.out.within (within_of hb) (by omega))
          have BT_18 := Lib.hid (BT_17.out.within (within_of hb) (by omega))
          have BW_18 := Lib.hid (BW_17.out.within (within_of hb) (by omega))
          have SR_18 := Lib.hid (SR_17.out.within (within_of hb) (by omega))
          have XX_18 := Lib.hid (XX_17.out.within (within_of hb) (by omega))
          have BG_18 := Lib.hid (BG_17.out.within (within_of hb) (by omega))
          have YG_18 := Lib.hid (YG_17.out.within (within_of hb) (by omega))
          have SM_18 := Lib.hid (SM_17.out.within (within_of hb) (by omega))
          have BH_18 := Lib.hid (BH_17.out.within (within_of hb) (by omega))
          have SH_18 := Lib.hid (SH_17.out.within (within_of hb) (by omega))
          clear hb
          go_wp2_with fail
          go_ret
          exact ⟨rfl, W18.out⟩
  · skip
    have hx : (1048576 : Int) < (l.length : Int) := by omega
    have h63 : l.length ≤ 9223372036854775807 := by unfold maxLen at hl; omega
    have W0 := Lib.hid (Below.refl w.heap.size w)
    have Z1 := Lib.hid (within_alloc w (.cells #[.int .i64 q, (.slice A l.length cap)] 24)).size
    have W1 := Lib.hid (within_on W0.out (within_alloc w (.cells #[.int .i64 q, (.slice A l.length cap)] 24)) W0.out.size (.inr (Nat.le_refl _)))
    have HB_1 := Lib.hid (HB_0.out.within (within_alloc w (.cells #[.int .i64 q, (.slice A l.length cap)] 24)) (by omega))
    have Y1 := Lib.hid (show (w.alloc (.cells #[.int .i64 q, (.slice A l.length cap)] 24)).heap.size = w.heap.size + 1 by simp)
    have hnew := box_new w q (.slice A l.length cap) 24
    have BX_1 := Lib.hid hnew
    clear hnew
    have Z2 := Lib.hid (within_alloc (w.alloc (.cells #[.int .i64 q, (.slice A l.length cap)] 24)) (.cells #[.int .i64 sk, .int .i64 sp, .int .i64 sa, .int .i64 sb, .int .i64 sc] 38)).size
    have W2 := Lib.hid (within_on W1.out (within_alloc (w.alloc (.cells #[.int .i64 q, (.slice A l.length cap)] 24)) (.cells #[.int .i64 sk, .int .i64 sp, .int .i64 sa, .int .i64 sb, .int .i64 sc] 38)) W1.out.size (.inr (Nat.le_refl _)))
    have HB_2 := Lib.hid (HB_1.out.within (within_alloc (w.alloc (.cells #[.int .i64 q, (.slice A l.length cap)] 24)) (.cells #[.int .i64 sk, .int .i64 sp, .int .i64 sa, .int .i64 sb, .int .i64 sc] 38)) (by omega))
    have BX_2 := Lib.hid (BX_1.out.within (within_alloc (w.alloc (.cells #[.int .i64 q, (.slice A l.length cap)] 24)) (.cells #[.int .i64 sk, .int .i64 sp, .int .i64 sa, .int .i64 sb, .int .i64 sc] 38)) (by omega))
    have Y2 := Lib.hid (show ((w.alloc (.cells #[.int .i64 q, (.slice A l.length cap)] 24)).alloc (.cells #[.int .i64 sk, .int .i64 sp, .int .i64 sa, .int .i64 sb, .int .i64 sc] 38)).heap.size = (w.alloc (.cells #[.int .i64 q, (.slice A l.length cap)] 24)).heap.size + 1 by simp)
    have hnew := box5_new (w.alloc (.cells #[.int .i64 q, (.slice A l.length cap)] 24)) sk sp sa sb sc 38
    rw [show (w.alloc (.cells #[.int .i64 q, (.slice A l.length cap)] 24)).heap.size = w.heap.size + 1 by simp] at hnew
    have BT_2 := Lib.hid hnew
    clear hnew
    go_enter Try.func4, Try.ntmps4
    obtain ⟨g0_0, g0_1, g0_2⟩ := BX_2.out
    go_wp2_with fail
    clear g0_0 g0_1 g0_2
    generalize ((w.alloc (.cells #[.int .i64 q, (.slice A l.length cap)] 24)).alloc (.cells #[.int .i64 sk, .int .i64 sp, .int .i64 sa, .int .i64 sb, .int .i64 sc] 38)) = w2 at *
    generalize (w.alloc (.cells #[.int .i64 q, (.slice A l.length cap)] 24)) = w1 at *
    refine (szGraph_no q A l.length cap 1048576 _ h63 hx (by omega)).mono ?_
    rintro e w3 ⟨rfl, hb⟩
    have Z3 := Lib.hid (within_of hb).size
    have W3 := Lib.hid (within_on W2.out (within_of hb) W2.out.size (.inr (Nat.le_refl _)))
    have HB_3 := Lib.hid (HB_2.out.within (within_of hb) (by omega))
    have BX_3 := Lib.hid (BX_2.out.within (within_of hb) (by omega))
    have BT_3 := Lib.hid (BT_2.out.within (within_of hb) (by omega))
    clear hb
    go_wp2_with fail
    go_ret
    exact ⟨rfl, W3.out⟩
end Go.Proofs.Ytggibhhdnlifcaa
