/- What impl.ParseGraph answers, where strings.Cut and strings.Fields answer as their contracts say. -/
import Derived.Test.YtehendofgcebcaaDoorParW
namespace Go.Proofs.YtehendofgcebcaaDoor
open Go.RowKit

set_option maxHeartbeats 4000000 in
set_option maxRecDepth 100000 in
theorem implParse (s : ByteArray) (w : World) (hs : s.size ≤ 1048576) (ht : Tab w) (hcut : CutOk w) (hfl : FieldsOk w) :
    Calls Tryd.prog 33 #[.string s] w (ParseO w s) := by
  obtain ⟨i0, hi0, iz0, iz1, iz2⟩ := info_parts infoBar
  have hA := new_below w (.cells #[.int .i64 0, .slice none 0 0] 32)
  have HA := Lib.hid hA
  have HBX := Lib.hid (box_new w 0 (.slice none 0 0) 32)
  have HFR := Lib.hid (show (w.alloc (.cells #[.int .i64 0, .slice none 0 0] 32)).frozen? ⟨w.heap.size, 0, none⟩ = false ∧ (w.alloc (.cells #[.int .i64 0, .slice none 0 0] 32)).frozen? ⟨w.heap.size, 1, none⟩ = false from ⟨World.frozen?_alloc_at _ _ _ _ rfl, World.frozen?_alloc_at _ _ _ _ rfl⟩)
  have HT := Lib.hid ht
  have HCUT := Lib.hid hcut
  have HFL := Lib.hid hfl
  clear hA ht hcut hfl
  go_enter Tryd.func33, Tryd.ntmps33
  go_upto_region 1 with fail
  generalize (w.alloc (.cells #[.int .i64 0, .slice none 0 0] 32)) = w1 at *
  by_cases h98 : 98 < s.size
  · have h98' : (98 : Int) < (s.size : Int) := by omega
    obtain ⟨hlt1, r0, r1⟩ := HBX.out
    obtain ⟨f0, f1⟩ := HFR.out
    obtain ⟨s0, s1⟩ := ret_two (p := 0) (v := .slice none 0 0) r0 r1
    have HR := Lib.hid (((Below.refl w.heap.size w1).setCell (p := ⟨w.heap.size, 0, none⟩) (Nat.le_refl _) (.int .i64 0)).setCell (p := ⟨w.heap.size, 1, none⟩) (Nat.le_refl _) (.slice none 0 0))
    go_wp2_with fail
    refine bodyPost_ret (v := .tuple #[.agg #[.int .i64 0, .slice none 0 0], .bool false]) ?_ rfl ⟨0, [], false, pg_long h98, none, 0, rfl, ⟨Nat.le_refl _, .inl rfl⟩, HA.out.trans HR.out⟩
    simp [results, Tryd.results33, go_sem, s0, s1]
  · have h98' : ¬ (98 : Int) < (s.size : Int) := by omega
    have hcs := cut_size s.data.toList 58
    have hsl : s.data.toList.length = s.size := rfl
    have HMX := Lib.hid (show (2000000 : Nat) ≤ maxLen by decide)
    go_wp2_with fail
    refine (HCUT.out w1 s 58 HA.out (by omega)).mono ?_
    rintro e w2 ⟨rfl, hb⟩
    have HB2 := Lib.hid (below_on HA.out hb HA.out.size)
    have BX2 := Lib.hid (HBX.out.kept hb)
    have F2 := Lib.hid (show w2.frozen? ⟨w.heap.size, 0, none⟩ = false ∧ w2.frozen? ⟨w.heap.size, 1, none⟩ = false from ⟨(hb.frozen (p := ⟨w.heap.size, 0, none⟩) HBX.out.1).trans HFR.out.1, (hb.frozen (p := ⟨w.heap.size, 1, none⟩) HBX.out.1).trans HFR.out.2⟩)
    clear hb
    have HEND := Lib.hid (fun q m => pgI_end (s := s) (q := q) (m := m))
    generalize Lib.cut s.data.toList [58] = cu at *
    obtain ⟨c1, c2, cb⟩ := cu
    simp only at hcs HEND
    go_wp2_with fail
    refine (implPi ⟨c1.toArray⟩ w2 (by have := HMX.out; have : (⟨c1.toArray⟩ : ByteArray).size = c1.length := rfl; omega) (HT.out.below HB2.out)).mono ?_
    rintro e w3 ⟨rfl, hb⟩
    have HB3 := Lib.hid (below_on HB2.out hb HB2.out.size)
    have BX3 := Lib.hid (BX2.out.kept hb)
    have F3 := Lib.hid (show w3.frozen? ⟨w.heap.size, 0, none⟩ = false ∧ w3.frozen? ⟨w.heap.size, 1, none⟩ = false from ⟨(hb.frozen (p := ⟨w.heap.size, 0, none⟩) BX2.out.1).trans F2.out.1, (hb.frozen (p := ⟨w.heap.size, 1, none⟩) BX2.out.1).trans F2.out.2⟩)
    clear hb
    obtain ⟨q, hq⟩ : ∃ q, q = piN ⟨c1.toArray⟩ := ⟨_, rfl⟩
    rw [← hq]
    have HQ := Lib.hid hq
    clear hq
    go_upto_region 6 with fail
    have hlt3 := BX3.out.1
    have G4 := Lib.hid (gbox_nil w3 w.heap.size [w.heap.size] q (Nat.le_of_lt hlt3) (by intro o ho; simp at ho; subst ho; exact hlt3))
    have hw4 := new_below w3 (.cells #[.int .i64 q, .slice none 0 0] 32)
    have HB4 := Lib.hid (below_on HB3.out hw4 HB3.out.size)
    have BX4 := Lib.hid (BX3.out.kept hw4)
    have F4 := Lib.hid (show (w3.alloc (.cells #[.int .i64 q, .slice none 0 0] 32)).frozen? ⟨w.heap.size, 0, none⟩ = false ∧ (w3.alloc (.cells #[.int .i64 q, .slice none 0 0] 32)).frozen? ⟨w.heap.size, 1, none⟩ = false from ⟨(hw4.frozen (p := ⟨w.heap.size, 0, none⟩) BX3.out.1).trans F3.out.1, (hw4.frozen (p := ⟨w.heap.size, 1, none⟩) BX3.out.1).trans F3.out.2⟩)
    clear hw4
    generalize (w3.alloc (.cells #[.int .i64 q, .slice none 0 0] 32)) = w4 at *
    have hF := HFL.out w4 ⟨c2.toArray⟩ HB4.out (by have : (⟨c2.toArray⟩ : ByteArray).size = c2.length := rfl; omega)
    rw [show (⟨c2.toArray⟩ : ByteArray).data.toList = c2 from rfl] at hF
    have hwz : ∀ y ∈ Lib.fieldsD c2, y.length ≤ 98 := fun y hy => by
      have := fields_le _ _ _ y hy
      simp at this
      omega
    have hwn : (Lib.fieldsD c2).length ≤ 1000000 := by
      have := fields_count (c2.length + 1) [] c2
      unfold Lib.fieldsD
      omega
    generalize Lib.fieldsD c2 = ws at *
    go_wp2_with fail
    refine hF.mono ?_
    rintro e w5 ⟨g, rfl, hg1, ho, hb⟩
    have hg2 : g < w5.heap.size := ((show w5.ownsRow _ _ _ _ _ _ from ho).lt g rfl).2
    have HW := Lib.hid ho
    have BX5 := Lib.hid (BX4.out.kept hb)
    have F5 := Lib.hid (show w5.frozen? ⟨w.heap.size, 0, none⟩ = false ∧ w5.frozen? ⟨w.heap.size, 1, none⟩ = false from ⟨(hb.frozen (p := ⟨w.heap.size, 0, none⟩) BX4.out.1).trans F4.out.1, (hb.frozen (p := ⟨w.heap.size, 1, none⟩) BX4.out.1).trans F4.out.2⟩)
    have HB5 := Lib.hid (below_on HB4.out hb HB4.out.size)
    have hl4 := G4.out.1.1
    have hl5 := hb.size
    have G5 := Lib.hid ((G4.out.below hb).anew (os' := [w.heap.size, g]) (by
      intro o ho
      simp at ho
      rcases ho with rfl | rfl
      · exact ⟨by omega, by omega, fun a e => by cases e⟩
      · exact ⟨hg2, by omega, fun a e => by cases e⟩))
    clear ho hb hF
    go_wp2_with fail
    go_loopw [36] (fun i wr => ∃ k : Nat, k ≤ ws.length ∧ i = .int .i64 k ∧ ∃ A c m, m = parseI (ws.take k) ∧ GBox w.heap.size w5 wr w3.heap.size [w.heap.size, g] q A c m) (fun i _ => ws.length - (intOf i).toNat)
    case atStart => exact ⟨0, by omega, rfl, _, _, _, rfl, G5.out⟩
    case round =>
      obtain ⟨k, hk, rfl, A, c, m, hm, hg⟩ := hrel
      have HG := Lib.hid hg
      have HM := Lib.hid hm
      clear hg hm
      by_cases hlt : k < ws.length
      · have hik : (k : Int) < (ws.length : Int) := by omega
        have hkm : k < (ws.map fun y => (⟨y.toArray⟩ : ByteArray)).length := by simpa using hlt
        have hck := (HG.out.cell (o := g) (k := k) (by simp)).trans (words_cell HW.out k hkm)
        obtain ⟨y, hy⟩ : ∃ y, ws[k] = y := ⟨_, rfl⟩
        have hyk : (ws.map fun y => (⟨y.toArray⟩ : ByteArray)).getD k ⟨#[]⟩ = ⟨y.toArray⟩ := by rw [← hy]; simp [List.getD, hlt]
        rw [hyk] at hck
        have hyz : y.length ≤ 98 := hwz y (by rw [← hy]; exact List.getElem_mem hlt)
        have HSTEP := Lib.hid (show parseI (ws.take (k + 1)) = parseI (ws.take k) ++ [(piN ⟨(Lib.cut y [45]).1.toArray⟩, piN ⟨(Lib.cut y [45]).2.1.toArray⟩)] by rw [List.take_succ_eq_append_getElem hlt, hy]; simp [parseI])
        have hcz := cut_size y 45
        clear hy hyk hkm
        have hml : m.length ≤ 1048576 := by rw [HM.out]; simp [parseI]; omega
        have hbw : w.heap.size ≤ wr.heap.size := Nat.le_of_lt (Nat.lt_of_le_of_lt HG.out.2.2.2.2.2.2 HG.out.1.1)
        have HBR := Lib.hid (HB5.out.trans HG.out.2.2.2.2.2.1)
        have hgl := (HG.out.2.2.2.2.1 g (by simp)).1
        have hbl := HG.out.1.1
        have HOB := Lib.hid (show ∀ a, A = some a → a.block < wr.heap.size from fun a e => (HG.out.2.2.2.1.lt a.block (by rw [e]; rfl)).2)
        go_wp2_with fail
        clear hck
        have hc := HCUT.out wr ⟨y.toArray⟩ 45 HBR.out (by have : (⟨y.toArray⟩ : ByteArray).size = y.length := rfl; omega)
        rw [show (⟨y.toArray⟩ : ByteArray).data.toList = y from rfl] at hc
        generalize Lib.cut y [45] = cu at *
        obtain ⟨b1, b2, bb⟩ := cu
        simp only at hcz HSTEP
        have hz1 : (⟨b1.toArray⟩ : ByteArray).size ≤ maxLen := by have := HMX.out; have : (⟨b1.toArray⟩ : ByteArray).size = b1.length := rfl; omega
        have hz2 : (⟨b2.toArray⟩ : ByteArray).size ≤ maxLen := by have := HMX.out; have : (⟨b2.toArray⟩ : ByteArray).size = b2.length := rfl; omega
        refine hc.mono ?_
        rintro e w6 ⟨rfl, hb⟩
        have G6 := Lib.hid (HG.out.below hb)
        have HB6 := Lib.hid (HBR.out.trans (hb.mono hbw))
        have hs6 := hb.size
        clear hb hc
        go_upto_region 11 with fail
        have hb := new_below w6 (.cells #[.int .i64 0, .int .i64 0] 80)
        have G7 := Lib.hid (G6.out.below hb)
        have HB7 := Lib.hid (HB6.out.trans (hb.mono (by omega)))
        have BB7 := Lib.hid (box_new w6 0 (.int .i64 0) 80)
        have FB7 := Lib.hid (show (w6.alloc (.cells #[.int .i64 0, .int .i64 0] 80)).frozen? ⟨w6.heap.size, 0, none⟩ = false ∧ (w6.alloc (.cells #[.int .i64 0, .int .i64 0] 80)).frozen? ⟨w6.heap.size, 1, none⟩ = false from ⟨World.frozen?_alloc_at _ _ _ _ rfl, World.frozen?_alloc_at _ _ _ _ rfl⟩)
        clear hb
        generalize (w6.alloc (.cells #[.int .i64 0, .int .i64 0] 80)) = w7 at *
        go_wp2_with fail
        refine (implPi ⟨b1.toArray⟩ w7 hz1 (HT.out.below HB7.out)).mono ?_
        rintro e w8 ⟨rfl, hb⟩
        generalize piN ⟨b1.toArray⟩ = n0 at *
        have hl7 := BB7.out.1
        have G8 := Lib.hid ((G7.out.below hb).other w6.heap.size 0 (.int .i64 n0) (by omega) (by simp; omega) (fun a e => by have := HOB.out a e; omega) (by omega))
        have HB8 := Lib.hid ((HB7.out.trans (hb.mono (by omega))).setCell (p := ⟨w6.heap.size, 0, none⟩) (by show w.heap.size ≤ w6.heap.size; omega) (.int .i64 n0))
        have BX8 := Lib.hid (BB7.out.kept hb)
        have FX8 := Lib.hid (show w8.frozen? ⟨w6.heap.size, 0, none⟩ = false ∧ w8.frozen? ⟨w6.heap.size, 1, none⟩ = false from ⟨(hb.frozen (p := ⟨w6.heap.size, 0, none⟩) hl7).trans FB7.out.1, (hb.frozen (p := ⟨w6.heap.size, 1, none⟩) hl7).trans FB7.out.2⟩)
        have hl8 := BX8.out.1
        have BB8 := Lib.hid (show Box (w8.setCell ⟨w6.heap.size, 0, none⟩ (.int .i64 n0)) w6.heap.size n0 (.int .i64 0) from ⟨Nat.lt_of_lt_of_le hl8 (grownBy_set w8 w6.heap.size 0 (.int .i64 n0)).size, World.cell?_setCell_same _ _ _ BX8.out.2.1, by rw [World.cell?_setCell_other _ _ _ _ (by intro e; simp at e)]; exact BX8.out.2.2⟩)
        have FB8 := Lib.hid (show (w8.setCell ⟨w6.heap.size, 0, none⟩ (.int .i64 n0)).frozen? ⟨w6.heap.size, 1, none⟩ = false by rw [World.frozen?_setCell]; exact FX8.out.2)
        clear hb
        obtain ⟨_, q0, _⟩ := BX8.out
        obtain ⟨f0, _⟩ := FX8.out
        go_upto_region 12 with fail
        clear q0 f0
        generalize (w8.setCell ⟨w6.heap.size, 0, none⟩ (.int .i64 n0)) = w9 at *
        go_wp2_with fail
        refine (implPi ⟨b2.toArray⟩ w9 hz2 (HT.out.below HB8.out)).mono ?_
        rintro e w10 ⟨rfl, hb⟩
        generalize piN ⟨b2.toArray⟩ = n1 at *
        have hl9 := BB8.out.1
        have G10 := Lib.hid ((G8.out.below hb).other w6.heap.size 1 (.int .i64 n1) (by omega) (by simp; omega) (fun a e => by have := HOB.out a e; omega) (by omega))
        have BX10 := Lib.hid (BB8.out.kept hb)
        have FX10 := Lib.hid ((hb.frozen (p := ⟨w6.heap.size, 1, none⟩) hl9).trans FB8.out)
        have BB10 := Lib.hid (show (w10.setCell ⟨w6.heap.size, 1, none⟩ (.int .i64 n1)).cell? ⟨w6.heap.size, 0, none⟩ = some (.int .i64 n0) ∧ (w10.setCell ⟨w6.heap.size, 1, none⟩ (.int .i64 n1)).cell? ⟨w6.heap.size, 1, none⟩ = some (.int .i64 n1) from ⟨by rw [World.cell?_setCell_other _ _ _ _ (by intro e; simp at e)]; exact BX10.out.2.1, World.cell?_setCell_same _ _ _ BX10.out.2.2⟩)
        clear hb
        have q1 := BX10.out.2.2
        have f1 := FX10.out
        go_upto_region 13 with fail
        clear q1 f1
        generalize (w10.setCell ⟨w6.heap.size, 1, none⟩ (.int .i64 n1)) = w11 at *
        obtain ⟨k0, k1⟩ := BB10.out
        obtain ⟨_, g1, g2⟩ := G10.out.1
        have hB11 : w.heap.size ≤ w11.heap.size := Nat.le_of_lt (Nat.lt_of_le_of_lt G10.out.2.2.2.2.2.2 G10.out.1.1)
        go_wp2_with (at_builtin; refine wpList_at _ rfl _ _ 30 rfl w.heap.size 80 (.agg #[.int .i64 0, .int .i64 0]) 2 16 Tryd.underlying30 infoBar rfl (by decide) _ _ _ rfl G10.out.2.2.2.1 #[.int .i64 n0, .int .i64 n1] 1 rfl (by simp [Value.oneCell']) _ _ rfl (by omega) (by have := HMX.out; omega) hB11 ?_; intro v' w' ho hg hat _; obtain ⟨c0, c1', f1', A2, cc2, rfl, hG2⟩ := G10.out.push (n0, n1) ho hg hat; have HG2 := Lib.hid hG2; clear ho hg hat hG2)
        go_roundw
        case rel => exact ⟨k + 1, by omega, by go_num, _, _, m ++ [(n0, n1)], by rw [HSTEP.out, ← HM.out], HG2.out⟩
        case measure => simp [intOf]; omega
      · obtain rfl : k = ws.length := by omega
        rw [List.take_length] at HM
        have hml : m.length ≤ 1048576 := by rw [HM.out]; simp [parseI]; omega
        have HE := Lib.hid (HEND.out q m HQ.out HM.out)
        have hob := HG.out.ownIn.bars.at
        have hgI := implIsGraph q m A c wr hob hml
        have hbw : w.heap.size ≤ wr.heap.size := Nat.le_of_lt (Nat.lt_of_le_of_lt HG.out.2.2.2.2.2.2 HG.out.1.1)
        have HBR := Lib.hid (HB5.out.trans HG.out.2.2.2.2.2.1)
        obtain ⟨_, g1, g2⟩ := HG.out.1
        go_wp2_with fail
        clear g1 g2
        cases hgb : isGB q m
        · rw [hgb] at hgI
          refine hgI.mono ?_
          rintro e w6 ⟨rfl, hb⟩
          have G6 := Lib.hid (HG.out.below hb)
          clear hb hgI
          have r0 := (G6.out.cell (o := w.heap.size) (k := 0) (by simp)).trans BX5.out.2.1
          have r1 := (G6.out.cell (o := w.heap.size) (k := 1) (by simp)).trans BX5.out.2.2
          have f0 := (G6.out.frozen (o := w.heap.size) (k := 0) (by simp)).trans F5.out.1
          have f1 := (G6.out.frozen (o := w.heap.size) (k := 1) (by simp)).trans F5.out.2
          obtain ⟨s0, s1⟩ := ret_two (p := 0) (v := .slice none 0 0) r0 r1
          have HR := Lib.hid (G6.out.ret (o := w.heap.size) (by simp) (Nat.le_refl _) (.int .i64 0) (.slice none 0 0))
          go_wp2_with fail
          refine bodyPost_ret (v := .tuple #[.agg #[.int .i64 0, .slice none 0 0], .bool false]) ?_ rfl ⟨0, [], false, HE.out.2 (.inl hgb), none, 0, rfl, ⟨Nat.le_refl _, .inl rfl⟩, HB5.out.trans HR.out.2⟩
          simp [results, Tryd.results33, go_sem, s0, s1]
        · rw [hgb] at hgI
          refine hgI.mono ?_
          rintro e w6 ⟨rfl, hb⟩
          have G6 := Lib.hid (HG.out.below hb)
          have HB6 := Lib.hid (HBR.out.trans (hb.mono hbw))
          clear hb hgI
          obtain ⟨_, g1, g2⟩ := G6.out.1
          go_wp2_with fail
          clear g1 g2
          refine (implFormat q m A c w6 G6.out.ownIn.bars.at hml (HT.out.below HB6.out)).mono ?_
          rintro e w7 ⟨rfl, hb⟩
          have G7 := Lib.hid (G6.out.below hb)
          clear hb
          generalize fmtG q m = tx at *
          obtain ⟨_, g1, g2⟩ := G7.out.1
          by_cases hts : tx = s
          · have hct := cmp_true hts
            have r0 := (G7.out.cell (o := w.heap.size) (k := 0) (by simp)).trans BX5.out.2.1
            have r1 := (G7.out.cell (o := w.heap.size) (k := 1) (by simp)).trans BX5.out.2.2
            have f0 := (G7.out.frozen (o := w.heap.size) (k := 0) (by simp)).trans F5.out.1
            have f1 := (G7.out.frozen (o := w.heap.size) (k := 1) (by simp)).trans F5.out.2
            obtain ⟨s0, s1⟩ := ret_two (p := q) (v := .slice A m.length c) r0 r1
            have HR := Lib.hid (G7.out.ret (o := w.heap.size) (by simp) (Nat.le_refl _) (.int .i64 q) (.slice A m.length c))
            go_wp2_with fail
            refine bodyPost_ret (v := .tuple #[.agg #[.int .i64 q, .slice A m.length c], .bool true]) ?_ rfl ⟨q, m, true, HE.out.1 hgb hts, A, c, rfl, HR.out.1, HB5.out.trans HR.out.2⟩
            simp [results, Tryd.results33, go_sem, s0, s1]
          · have hct := cmp_false hts
            have r0 := (G7.out.cell (o := w.heap.size) (k := 0) (by simp)).trans BX5.out.2.1
            have r1 := (G7.out.cell (o := w.heap.size) (k := 1) (by simp)).trans BX5.out.2.2
            have f0 := (G7.out.frozen (o := w.heap.size) (k := 0) (by simp)).trans F5.out.1
            have f1 := (G7.out.frozen (o := w.heap.size) (k := 1) (by simp)).trans F5.out.2
            obtain ⟨s0, s1⟩ := ret_two (p := 0) (v := .slice none 0 0) r0 r1
            have HR := Lib.hid (G7.out.ret (o := w.heap.size) (by simp) (Nat.le_refl _) (.int .i64 0) (.slice none 0 0))
            go_wp2_with fail
            refine bodyPost_ret (v := .tuple #[.agg #[.int .i64 0, .slice none 0 0], .bool false]) ?_ rfl ⟨0, [], false, HE.out.2 (.inr hts), none, 0, rfl, ⟨Nat.le_refl _, .inl rfl⟩, HB5.out.trans HR.out.2⟩
            simp [results, Tryd.results33, go_sem, s0, s1]
end Go.Proofs.YtehendofgcebcaaDoor
