/- What the specification's BuildSteps answers. No condition. -/
import Derived.Test.YtggibhhdnlifcaaBldM
import Derived.Test.YtggibhhdnlifcaaApplyS
import Derived.Deep.CutRange
import Derived.Deep.RegionHeld3
namespace Go.Proofs.Ytggibhhdnlifcaa
open Go.RowKit

/-- What the round's region leaves: the answer's graph in a box, its bars, their room, the flag. -/
def BoxC (c : World) (p : Int) (l : List (Int × Int)) (r : Bool) (b1 b2 : Value) (wx : World) : Prop :=
  ∃ (gb : Nat) (A : Option Addr) (cap : Nat), b1 = .pointer (some ⟨gb, 0, none⟩) ∧ b2 = .bool r ∧ Below c.heap.size c wx ∧ c.heap.size ≤ gb ∧ Cel2 wx gb 30 (.int .i64 p) (.slice A l.length cap) ∧ BarsAt wx wx.heap.size A l ∧ l.length ≤ cap
theorem bars_set {W W' : World} {gb : Nat} {l : List (Int × Int)} {A : Option Addr} {a0 : Value} {x : Option Addr} {y z : Nat} (hX : Cel2 W gb 30 a0 (.slice x y z)) (ho : BarsAt W W.heap.size A l) (hw : Within gb (gb + 1) W W') : BarsAt W' W'.heap.size A l := fun hl => by
  obtain ⟨b, off, rfl, hlt, hc⟩ := ho hl
  have hne : b ≠ gb := by
    intro e
    subst e
    have h2 := (hc 0 hl).2
    rw [cell_of_row W b (off + 0 * 2 + 1) _ _ (0, 0) hX] at h2
    cases off with
    | zero => simp at h2
    | succ n => simp at h2
  have hk := hw.block b hlt (by omega)
  exact ⟨b, off, rfl, Nat.lt_of_lt_of_le hlt hw.size, fun k hk' => ⟨(World.cell?_of_block (a := ⟨b, off + k * 2, none⟩) hk).trans (hc k hk').1, (World.cell?_of_block (a := ⟨b, off + k * 2 + 1, none⟩) hk).trans (hc k hk').2⟩⟩
theorem boxC_in {c d W : World} {gb : Nat} {p : Int} {l : List (Int × Int)} {r : Bool} {A : Option Addr} {cap : Nat} {a0 : Value} {x : Option Addr} {y z : Nat} (hd : Below c.heap.size c d) (hB : Below d.heap.size d W) (hX : Cel2 W gb 30 a0 (.slice x y z)) (hge : d.heap.size ≤ gb) (ho : BarsAt W W.heap.size A l ∧ l.length ≤ cap) :
    BoxC c p l r (.pointer (some ⟨gb, 0, none⟩)) (.bool r) ((W.setCell ⟨gb, 0, none⟩ (.int .i64 p)).setCell ⟨gb, 1, none⟩ (.slice A l.length cap)) := by
  have r2 := ret2 hX (.int .i64 p) (.slice A l.length cap)
  have hdc := hd.size
  exact ⟨gb, A, cap, rfl, rfl, within_on (below_on hd hB hd.size) r2.2 (Nat.le_trans hd.size hB.size) (.inl (by omega)), by omega, r2.1, bars_set hX ho.1 r2.2, ho.2⟩
theorem boxC_new {c d W : World} {p : Int} {l : List (Int × Int)} {r : Bool} {A : Option Addr} {cap : Nat} (hd : Below c.heap.size c d) (hB : Below d.heap.size d W) (ho : BarsAt W W.heap.size A l ∧ l.length ≤ cap) :
    BoxC c p l r (.pointer (some ⟨W.heap.size, 0, none⟩)) (.bool r) (W.alloc (.cells #[.int .i64 p, .slice A l.length cap] 30)) := by
  have hal := new_below W (.cells #[.int .i64 p, .slice A l.length cap] 30)
  have hcd := below_on hd hB hd.size
  exact ⟨W.heap.size, A, cap, rfl, rfl, below_on hcd hal hcd.size, hcd.size, cel2_new W _ _ _, ho.1.on hal, ho.2⟩

set_option maxHeartbeats 8000000 in
set_option maxRecDepth 100000 in
theorem specBuild (p : Int) (l : List Stp) (A : Option Addr) (cap : Nat) (w : World) (hl : StepsAt w w.heap.size A l) (hn : l.length ≤ 1048576) :
    Calls Try.prog 25 #[.int .i64 p, .slice A l.length cap] w (GraphRB w (bldP p l) (bldV p l) (bldB p l)) := by
  have HL0 := Lib.hid hl
  clear hl
  have hA1 := new_below w (.cells #[.int .i64 0, .slice none 0 0] 30)
  have hA2 := new_below (w.alloc (.cells #[.int .i64 0, .slice none 0 0] 30)) (.cells #[] 103)
  have hA3 := new_below ((w.alloc (.cells #[.int .i64 0, .slice none 0 0] 30)).alloc (.cells #[] 103)) (.cells #[.int .i64 p, .slice (some ⟨w.heap.size + 1, 0, none⟩) 0 0] 30)
  have hS2 : ((w.alloc (.cells #[.int .i64 0, .slice none 0 0] 30)).alloc (.cells #[] 103)).heap.size = w.heap.size + 1 + 1 := by simp
  have HS3 := Lib.hid (show w.heap.size + 3 ≤ (((w.alloc (.cells #[.int .i64 0, .slice none 0 0] 30)).alloc (.cells #[] 103)).alloc (.cells #[.int .i64 p, .slice (some ⟨w.heap.size + 1, 0, none⟩) 0 0] 30)).heap.size by simp)
  have hA12 := below_on hA1 hA2 hA1.size
  have HA := Lib.hid (below_on hA12 hA3 hA12.size)
  have BR3 := Lib.hid (((cel2_new w (.int .i64 0) (.slice none 0 0) 30).kept hA2).kept hA3)
  have hr := cel2_new ((w.alloc (.cells #[.int .i64 0, .slice none 0 0] 30)).alloc (.cells #[] 103)) (.int .i64 p) (.slice (some ⟨w.heap.size + 1, 0, none⟩) 0 0) 30
  rw [hS2] at hr
  have BX3 := Lib.hid hr
  clear hA1 hA2 hA3 hA12 hS2 hr
  go_enter Try.func25, Try.ntmps25
  obtain ⟨g0, g1, f0, f1⟩ := BX3.out.cells
  go_wp2_with fail
  clear g0 g1 f0 f1
  generalize (((w.alloc (.cells #[.int .i64 0, .slice none 0 0] 30)).alloc (.cells #[] 103)).alloc (.cells #[.int .i64 p, .slice (some ⟨w.heap.size + 1, 0, none⟩) 0 0] 30)) = w2 at *
  refine (specIsGraph' p [] (some ⟨w.heap.size + 1, 0, none⟩) 0 _ (BarsAt.nil _ _ _) (by simp)).mono ?_
  rintro e w3 ⟨rfl, hb3⟩
  have HB3 := Lib.hid (below_on HA.out hb3 HA.out.size)
  have BR4 := Lib.hid (BR3.out.kept hb3)
  have BX4 := Lib.hid (BX3.out.kept hb3)
  have HS4 := Lib.hid (show w.heap.size + 3 ≤ w3.heap.size by have := HS3.out; have := hb3.size; omega)
  clear hb3 BR3 BX3 HA HS3
  cases hg : isGB p [] with
  | false =>
    have HF := Lib.hid (@bld_no0 p l hg)
    have HR := Lib.hid (ret2 BR4.out (.int .i64 0) (.slice none 0 0))
    obtain ⟨r0, r1, q0, q1⟩ := BR4.out.cells
    obtain ⟨s0, s1, _, _⟩ := HR.out.1.cells
    clear hg
    go_wp2_with fail
    refine bodyPost_ret (v := .tuple #[.agg #[.int .i64 0, .slice none 0 0], .bool false]) ?_ rfl ⟨none, 0, by rw [HF.out, (bld_false HF.out).1, (bld_false HF.out).2]; rfl, by rw [(bld_false HF.out).2]; exact BarsAt.nil _ _ _, within_on HB3.out HR.out.2 HB3.out.size (.inl (Nat.le_refl _))⟩
    simp [results, Try.results25, go_sem, s0, s1]
  | true =>
    have HG := Lib.hid hg
    clear hg
    go_wp2_with fail
    go_loopw [7] (fun i wr => ∃ (k : Nat) (aa : Addr) (c' : Nat), k ≤ l.length ∧ i = .int .i64 k ∧ bldR p l k = true ∧ Cel2 wr (w.heap.size + 1 + 1) 30 (.int .i64 p) (.slice (some aa) (bldL p l k).length c') ∧ Cel2 wr w.heap.size 30 (.int .i64 0) (.slice none 0 0) ∧ BarsAt wr wr.heap.size (some aa) (bldL p l k) ∧ (bldL p l k).length ≤ c' ∧ Below w.heap.size w wr ∧ w.heap.size + 3 ≤ wr.heap.size) (fun i _ => l.length - (intOf i).toNat)
    case atStart => exact ⟨0, ⟨w.heap.size + 1, 0, none⟩, 0, by omega, rfl, rfl, BX4.out, BR4.out, BarsAt.nil _ _ _, Nat.le_refl _, HB3.out, HS4.out⟩
    case round =>
      obtain ⟨k, aa, c', hk, rfl, hR, hbx, hbr, hba, hcp, hb, hsz⟩ := hrel
      have HB := Lib.hid hb
      have HBX := Lib.hid hbx
      have HBR := Lib.hid hbr
      have HBA := Lib.hid hba
      have HSZ := Lib.hid hsz
      have HRK := Lib.hid hR
      have HCP := Lib.hid hcp
      have HLL := Lib.hid (bldL_len p l k)
      clear hb hbx hbr hba hsz hR hcp
      by_cases hlt : k < l.length
      · have hi0 : (k : Int) < (l.length : Int) := by omega
        obtain ⟨b, off, rfl, hbB, hcell⟩ := (HL0.out.kept HB.out) (by omega)
        obtain ⟨d0, d1, d2, d3, d4⟩ := hcell k hlt
        have HNO := Lib.hid (@bld_no p l k hlt)
        have HNX := Lib.hid (show bldL p l (k + 1) = stepL p (bldL p l k) (l.getD k zS) from rfl)
        have HNR := Lib.hid (fun h : stepR p (bldL p l k) (l.getD k zS) = true => (show bldR p l (k + 1) = true by rw [bldR, HRK.out, h]; rfl))
        have HPS := Lib.hid (@step_pos p (bldL p l k) (l.getD k zS))
        obtain ⟨x, hx⟩ : ∃ x, l.getD k zS = x := ⟨_, rfl⟩
        rw [hx] at d0 d1 d2 d3 d4 HNO HNX HNR HPS
        obtain ⟨L, hL⟩ : ∃ L, bldL p l k = L := ⟨_, rfl⟩
        rw [hL] at HBX HBA HLL HCP HNO HNX HNR HPS
        clear hcell hx hL
        obtain ⟨x1, x2, x3, x4, x5⟩ := x
        simp only at d0 d1 d2 d3 d4
        have HSP := Lib.hid (fun (W : World) (h : BarsAt W W.heap.size (some aa) L) => specApplyC (x1, x2, x3, x4, x5) p L aa c' W h HLL.out HCP.out)
        obtain ⟨M, hM⟩ : ∃ M, stepL p L (x1, x2, x3, x4, x5) = M := ⟨_, rfl⟩
        obtain ⟨R, hRR⟩ : ∃ R, stepR p L (x1, x2, x3, x4, x5) = R := ⟨_, rfl⟩
        rw [hM] at HSP HNX HPS
        rw [hRR] at HSP HNO HNR HPS
        clear hM hRR
        have hdr : Below wr.heap.size wr wr.drew := (Below.refl _ _).drew
        have HBW := Lib.hid (show b < wr.heap.size from Nat.lt_of_lt_of_le hbB HB.out.size)
        have HS := Lib.hid (fun (W : World) (hb : Below wr.drew.heap.size wr.drew W) => (show (fun W' => W'.cell? ⟨w.heap.size + 1 + 1, 0, none⟩ = some (.int .i64 p) ∧ W'.cell? ⟨w.heap.size + 1 + 1, 1, none⟩ = some (.slice (some aa) L.length c') ∧ W'.cell? ⟨b, off + k * 5, none⟩ = some (.int .i64 x1) ∧ W'.cell? ⟨b, off + k * 5 + 1, none⟩ = some (.int .i64 x2) ∧ W'.cell? ⟨b, off + k * 5 + 2, none⟩ = some (.int .i64 x3) ∧ W'.cell? ⟨b, off + k * 5 + 3, none⟩ = some (.int .i64 x4) ∧ W'.cell? ⟨b, off + k * 5 + 4, none⟩ = some (.int .i64 x5)) W from by
          have hB := below_on hdr hb hdr.size
          have hx := (HBX.out.kept hB).cells
          exact ⟨hx.1, hx.2.1, (hB.cell (p := ⟨b, off + k * 5, none⟩) HBW.out).trans d0, (hB.cell (p := ⟨b, off + k * 5 + 1, none⟩) HBW.out).trans d1, (hB.cell (p := ⟨b, off + k * 5 + 2, none⟩) HBW.out).trans d2, (hB.cell (p := ⟨b, off + k * 5 + 3, none⟩) HBW.out).trans d3, (hB.cell (p := ⟨b, off + k * 5 + 4, none⟩) HBW.out).trans d4⟩))
        have Gd := Lib.hid ((bars_in HBA.out).within (within_of hdr) (.inr (Nat.zero_le _)))
        clear hdr d0 d1 d2 d3 d4
        go_wp2_with fail
        go_cut [8, 9] from 17 to 35 (fun b1 b2 wx => BoxC wr p M R b1 b2 wx)
        case first =>
          go_region_held3 (fun W' => W'.cell? ⟨w.heap.size + 1 + 1, 0, none⟩ = some (.int .i64 p) ∧ W'.cell? ⟨w.heap.size + 1 + 1, 1, none⟩ = some (.slice (some aa) L.length c') ∧ W'.cell? ⟨b, off + k * 5, none⟩ = some (.int .i64 x1) ∧ W'.cell? ⟨b, off + k * 5 + 1, none⟩ = some (.int .i64 x2) ∧ W'.cell? ⟨b, off + k * 5 + 2, none⟩ = some (.int .i64 x3) ∧ W'.cell? ⟨b, off + k * 5 + 3, none⟩ = some (.int .i64 x4) ∧ W'.cell? ⟨b, off + k * 5 + 4, none⟩ = some (.int .i64 x5))
            (first | exact HS.out _ (Below.refl _ _) | exact HS.out _ (new_below _ _) | exact HS.out _ BwA.out | exact HS.out _ (below_on BwA.out (new_below _ _) BwA.out.size) | exact HS.out _ ((BwA.out.setCell (p := ⟨_, 0, none⟩) HGE.out _).setCell (p := ⟨_, 1, none⟩) HGE.out _) | exact HS.out _ (((below_on BwA.out (new_below _ _) BwA.out.size).setCell (p := ⟨_, 0, none⟩) BwA.out.size _).setCell (p := ⟨_, 1, none⟩) BwA.out.size _))
            (first
              | (go_at_call 20; refine (HSP.out wr.drew Gd.out.at).mono ?_; rintro e wA ⟨AS, cS, rfl, ho, hb, hcp⟩; have BwA := Lib.hid (show Below wr.drew.heap.size wr.drew wA from hb); have SwA := Lib.hid (And.intro ho hcp); obtain ⟨_, _, _, _⟩ := (cel2_new wA (.int .i64 0) (.slice none 0 0) 30).cells; clear ho hb hcp)
              | (go_at_call 20; have hal := new_below wr.drew (.cells #[.int .i64 0, .slice none 0 0] 30); refine (HSP.out (wr.drew.alloc (.cells #[.int .i64 0, .slice none 0 0] 30)) (Gd.out.within (within_alloc wr.drew (.cells #[.int .i64 0, .slice none 0 0] 30)) (.inr (Nat.zero_le _))).at).mono ?_; rintro e wA ⟨AS, cS, rfl, ho, hb, hcp⟩; have BwA := Lib.hid (show Below wr.drew.heap.size wr.drew wA from (below_on (below_on (Below.refl wr.drew.heap.size wr.drew) hal (Below.refl wr.drew.heap.size wr.drew).size) hb (below_on (Below.refl wr.drew.heap.size wr.drew) hal (Below.refl wr.drew.heap.size wr.drew).size).size)); have SwA := Lib.hid (And.intro ho hcp); have XwA := Lib.hid (show Cel2 wA (wr.heap.size) 30 (.int .i64 0) (.slice none 0 0) from (cel2_new wr.drew (.int .i64 0) (.slice none 0 0) 30).kept hb); have HGE := Lib.hid (show wr.drew.heap.size ≤ wr.heap.size from Nat.le_refl _); obtain ⟨_, _, _, _⟩ := XwA.out.cells; clear ho hb hcp))
          all_goals (
            go_wp2_with fail
            go_meet
            case rel =>
              first
                | exact boxC_in ((Below.refl _ _).drew) BwA.out XwA.out HGE.out SwA.out
                | exact boxC_new ((Below.refl _ _).drew) BwA.out SwA.out)
        case rest =>
          obtain ⟨gb, A5, c5, rfl, rfl, hb, hg, hX5, ho5, hc5⟩ := hcut
          have HN5 := Lib.hid hX5
          have HO5 := Lib.hid ho5
          have HC5 := Lib.hid hc5
          have HX5 := Lib.hid (HBX.out.kept hb)
          have HR5 := Lib.hid (HBR.out.kept hb)
          have HB5 := Lib.hid (below_on HB.out hb HB.out.size)
          have HS5 := Lib.hid hb.size
          clear hb hg hX5 ho5 hc5 HS Gd HSP
          cases R with
          | false =>
            have HF := Lib.hid (HNO.out rfl)
            have HRR := Lib.hid (ret2 HR5.out (.int .i64 0) (.slice none 0 0))
            obtain ⟨r0, r1, q0, q1⟩ := HR5.out.cells
            obtain ⟨s0, s1, _, _⟩ := HRR.out.1.cells
            go_wp2_with fail
            refine bodyPost_ret (v := .tuple #[.agg #[.int .i64 0, .slice none 0 0], .bool false]) ?_ rfl ⟨none, 0, by rw [HF.out, (bld_false HF.out).1, (bld_false HF.out).2]; rfl, by rw [(bld_false HF.out).2]; exact BarsAt.nil _ _ _, within_on HB5.out HRR.out.2 HB5.out.size (.inl (Nat.le_refl _))⟩
            simp [results, Try.results25, go_sem, s0, s1]
          | true =>
            have HY := Lib.hid (HNR.out rfl)
            obtain ⟨a5, rfl⟩ : ∃ a, A5 = some a := by
              obtain ⟨b5, o5, e, _⟩ := HO5.out (HPS.out rfl)
              exact ⟨_, e⟩
            have HRR := Lib.hid (ret2 HX5.out (.int .i64 p) (.slice (some a5) M.length c5))
            obtain ⟨g0, g1, f0, f1⟩ := HX5.out.cells
            obtain ⟨n0, n1, _, _⟩ := HN5.out.cells
            go_wp2_with fail
            go_roundw
            case rel =>
              have hs := HS5.out
              have hs4 := HSZ.out
              have hsw := HRR.out.2.size
              exact ⟨k + 1, a5, c5, by omega, by go_num, HY.out, by rw [HNX.out]; exact HRR.out.1, HR5.out.within HRR.out.2 (.inl (by omega)), by rw [HNX.out]; exact bars_set HX5.out HO5.out HRR.out.2, by rw [HNX.out]; exact HC5.out, within_on HB5.out HRR.out.2 HB5.out.size (.inl (by omega)), by omega⟩
            case measure => simp [intOf]; omega
      · obtain rfl : k = l.length := by omega
        have HE := Lib.hid (bld_yes HG.out HRK.out)
        have HRR := Lib.hid (ret2 HBR.out (.int .i64 p) (.slice (some aa) (bldL p l l.length).length c'))
        obtain ⟨r0, r1, q0, q1⟩ := HBR.out.cells
        obtain ⟨g0, g1, f0, f1⟩ := HBX.out.cells
        obtain ⟨s0, s1, _, _⟩ := HRR.out.1.cells
        have HT0 := Lib.hid (bars_set HBR.out HBA.out HRR.out.2)
        go_wp2_with fail
        refine bodyPost_ret (v := .tuple #[.agg #[.int .i64 p, .slice (some aa) (bldL p l l.length).length c'], .bool true]) ?_ rfl ⟨some aa, c', by rw [HE.out, (bld_true HE.out).1, (bld_true HE.out).2], by rw [(bld_true HE.out).2]; exact HT0.out, within_on HB.out HRR.out.2 HB.out.size (.inl (Nat.le_refl _))⟩
        simp [results, Try.results25, go_sem, s0, s1]
end Go.Proofs.Ytggibhhdnlifcaa
