/- What the program's RemoveBar answers: the same as the specification's. No condition. -/
import Derived.Test.YtggibhhdnlifcaaDelete
import Derived.Test.YtggibhhdnlifcaaCopy
namespace Go.Proofs.Ytggibhhdnlifcaa
open Go.RowKit

theorem own_caps {w : World} {base : Nat} {e : TypeId} {size g n cap : Nat} {xs : List Value} (h : w.ownsRow base e size (.slice (some ⟨g, 0, none⟩) n cap) n xs) : n ≤ cap ∧ cap ≤ maxLen := by
  rcases h.2 with ⟨h', _⟩ | ⟨g', cap', cur, h', hb, hg, hnc, hcm, _⟩
  · cases h'
  · cases h'
    exact ⟨hnc, hcm⟩

set_option maxHeartbeats 4000000 in
set_option maxRecDepth 100000 in
theorem implRemove (p k : Int) (l : List (Int × Int)) (A : Option Addr) (cap : Nat) (w : World) (hl : BarsAt w w.heap.size A l) (hn : l.length ≤ 1048576) :
    Calls Try.prog 169 #[.agg #[.int .i64 p, .slice A l.length cap], .int .i64 k] w (GraphOB w p (remL p k l) (remR p k l)) := by
  obtain ⟨L, hRL⟩ : ∃ x, x = remL p k l := ⟨_, rfl⟩
  obtain ⟨RR, hRR⟩ : ∃ x, x = remR p k l := ⟨_, rfl⟩
  rw [← hRL, ← hRR]
  have HRL := Lib.hid hRL
  have HRR := Lib.hid hRR
  clear hRL hRR
  have hA1 := new_below w (.cells #[.int .i64 p, .slice A l.length cap] 30)
  have hA2 := new_below (w.alloc (.cells #[.int .i64 p, .slice A l.length cap] 30)) (.cells #[.int .i64 0, .slice none 0 0] 30)
  have hA := below_on hA1 hA2 hA1.size
  have hsz1 : (w.alloc (.cells #[.int .i64 p, .slice A l.length cap] 30)).heap.size = w.heap.size + 1 := by simp
  have BX := Lib.hid ((box_new w p (.slice A l.length cap) 30).kept hA2)
  have hR := box_new (w.alloc (.cells #[.int .i64 p, .slice A l.length cap] 30)) 0 (.slice none 0 0) 30
  have hF : ((w.alloc (.cells #[.int .i64 p, .slice A l.length cap] 30)).alloc (.cells #[.int .i64 0, .slice none 0 0] 30)).frozen? ⟨(w.alloc (.cells #[.int .i64 p, .slice A l.length cap] 30)).heap.size, 0, none⟩ = false ∧ ((w.alloc (.cells #[.int .i64 p, .slice A l.length cap] 30)).alloc (.cells #[.int .i64 0, .slice none 0 0] 30)).frozen? ⟨(w.alloc (.cells #[.int .i64 p, .slice A l.length cap] 30)).heap.size, 1, none⟩ = false := ⟨World.frozen?_alloc_at _ _ _ _ rfl, World.frozen?_alloc_at _ _ _ _ rfl⟩
  rw [hsz1] at hR hF
  have HR := Lib.hid hR
  have HF := Lib.hid hF
  have HL := Lib.hid (hl.on hA)
  have HA := Lib.hid hA
  clear hl hA1 hA2 hA hsz1 hR hF
  go_enter Try.func169, Try.ntmps169
  go_wp2_with fail
  generalize ((w.alloc (.cells #[.int .i64 p, .slice A l.length cap] 30)).alloc (.cells #[.int .i64 0, .slice none 0 0] 30)) = w1 at *
  refine (clone_c p l A cap _ HL.out hn).mono ?_
  rintro e w2 ⟨A2, c2, rfl, ho, hb⟩
  have hal := new_below w2 (.cells #[.int .i64 p, .slice A2 l.length c2] 30)
  have hb' := below_on hb hal hb.size
  have HB2 := Lib.hid (below_on HA.out hb' HA.out.size)
  have BX2 := Lib.hid (BX.out.kept hb')
  have HR2 := Lib.hid (HR.out.kept hb')
  have HF2 := Lib.hid (show (w2.alloc (.cells #[.int .i64 p, .slice A2 l.length c2] 30)).frozen? ⟨w.heap.size + 1, 0, none⟩ = false ∧ (w2.alloc (.cells #[.int .i64 p, .slice A2 l.length c2] 30)).frozen? ⟨w.heap.size + 1, 1, none⟩ = false from ⟨(hb'.frozen (p := ⟨w.heap.size + 1, 0, none⟩) HR.out.1).trans HF.out.1, (hb'.frozen (p := ⟨w.heap.size + 1, 1, none⟩) HR.out.1).trans HF.out.2⟩)
  have HL2 := Lib.hid (HL.out.on hb')
  have HO2 := Lib.hid (ho.within (within_of hal) (by omega))
  have BO2 := Lib.hid (box_new w2 p (.slice A2 l.length c2) 30)
  have HFO := Lib.hid (show (w2.alloc (.cells #[.int .i64 p, .slice A2 l.length c2] 30)).frozen? ⟨w2.heap.size, 1, none⟩ = false from World.frozen?_alloc_at _ _ _ _ rfl)
  have HLT1 := Lib.hid (show w.heap.size + 1 < w1.heap.size from HR.out.1)
  have HLT2 := Lib.hid (show w1.heap.size ≤ w2.heap.size from hb.size)
  obtain ⟨_, x0, x1⟩ := BX2.out
  clear hb hb' hal ho
  go_wp2_with fail
  clear x0 x1
  generalize (w2.alloc (.cells #[.int .i64 p, .slice A2 l.length c2] 30)) = w3 at *
  refine (implIsGraph p l A cap _ HL2.out hn).mono ?_
  rintro e w4 ⟨rfl, hb⟩
  have HB4 := Lib.hid (below_on HB2.out hb HB2.out.size)
  have BX4 := Lib.hid (BX2.out.kept hb)
  have HR4 := Lib.hid (HR2.out.kept hb)
  have HF4 := Lib.hid (show w4.frozen? ⟨w.heap.size + 1, 0, none⟩ = false ∧ w4.frozen? ⟨w.heap.size + 1, 1, none⟩ = false from ⟨(hb.frozen (p := ⟨w.heap.size + 1, 0, none⟩) HR2.out.1).trans HF2.out.1, (hb.frozen (p := ⟨w.heap.size + 1, 1, none⟩) HR2.out.1).trans HF2.out.2⟩)
  have BO4 := Lib.hid (BO2.out.kept hb)
  have HFO4 := Lib.hid ((hb.frozen (p := ⟨w2.heap.size, 1, none⟩) BO2.out.1).trans HFO.out)
  have HO4 := Lib.hid (HO2.out.within (within_of hb) (by omega))
  clear hb
  obtain ⟨_, x0, x1⟩ := BX4.out
  obtain ⟨_, o0, o1⟩ := BO4.out
  obtain ⟨_, z0, z1⟩ := HR4.out
  obtain ⟨f0, f1⟩ := HF4.out
  have fo := HFO4.out
  by_cases hbad : isGB p l = false ∨ k < 0 ∨ (l.length : Int) ≤ k
  · obtain rfl : RR = false := HRR.out.trans (rem_no hbad).1
    obtain rfl : l = L := (HRL.out.trans (rem_no hbad).2).symm
    have hcase : isGB p l = false ∨ (isGB p l = true ∧ k < 0) ∨ (isGB p l = true ∧ ¬ k < 0 ∧ (l.length : Int) ≤ k) := by
      rcases hg : isGB p l with _ | _
      · exact .inl rfl
      · rcases hbad with h | h | h
        · rw [hg] at h; cases h
        · exact .inr (.inl ⟨rfl, h⟩)
        · exact .inr (.inr ⟨rfl, by omega, h⟩)
    clear hbad
    obtain ⟨s0, s1⟩ := ret_cells (p := p) (v := .slice A2 l.length c2) z0 z1
    have hown : OwnIn w4 w1.heap.size w4.heap.size A2 c2 l := ⟨Nat.le_refl _, by
      rcases HO4.out.2 with h | ⟨g, e, k1, k2, ho⟩
      · exact .inl h
      · exact .inr ⟨g, e, k1, Nat.lt_of_lt_of_le k2 HO4.out.1, ho⟩⟩
    obtain ⟨r1, r2⟩ := ownIn_ret hown HB4.out (r := w.heap.size + 1) (by omega) HLT1.out (.int .i64 p) (.slice A2 l.length c2)
    have HOR := Lib.hid r1
    have HBR := Lib.hid r2
    clear r1 r2 hown
    rcases hcase with hg | ⟨hg, h1⟩ | ⟨hg, h1, h2⟩
    all_goals
      go_wp2_with fail
      refine bodyPost_ret (v := .tuple #[.agg #[.int .i64 p, .slice A2 l.length c2], .bool false]) ?_ rfl ⟨A2, c2, rfl, HOR.out, HBR.out⟩
      simp [results, Try.results169, go_sem, s0, s1]
  · have hg : isGB p l = true := by
      cases h : isGB p l with
      | false => exact absurd (.inl h) hbad
      | true => rfl
    obtain ⟨K, rfl⟩ : ∃ K : Nat, k = (K : Int) := ⟨k.toNat, by omega⟩
    have hk : K < l.length := by omega
    obtain rfl : RR = true := HRR.out.trans (rem_yes hg hk).1
    have HLK := Lib.hid (HRL.out.trans (rem_yes hg hk).2)
    have hk0 : ¬ (K : Int) < 0 := by omega
    have hk1 : ¬ (l.length : Int) ≤ (K : Int) := by omega
    rcases HO4.out.2 with h | ⟨g, rfl, k1, k2, hown⟩
    · rw [h] at hk; simp at hk
    obtain ⟨hc1, hc2⟩ := own_caps hown
    have HOW := Lib.hid hown
    have hw : IntKind.i64.wrap ((K : Int) + 1) = (K : Int) + 1 := IntWalk.i64_in _ (by omega)
    have hg2 : g < w2.heap.size := k2
    have hcm : c2 ≤ 9223372036854775807 := by unfold maxLen at hc2; omega
    clear hbad hown k2
    go_wp2_with fail
    refine (slDelete l K g c2 w1.heap.size _ HOW.out hk hn hc1 hcm).mono ?_
    rw [← HLK.out]
    rintro e w5 ⟨rfl, ho5, hg5⟩
    have BO5 := Lib.hid (BO4.out.grown hg5 (by omega))
    have HR5 := Lib.hid (HR4.out.grown hg5 (by have := HLT1.out; omega))
    have HF5 := Lib.hid (show w5.frozen? ⟨w.heap.size + 1, 0, none⟩ = false ∧ w5.frozen? ⟨w.heap.size + 1, 1, none⟩ = false ∧ w5.frozen? ⟨w2.heap.size, 1, none⟩ = false from ⟨(World.frozen?_of_block (a := ⟨w.heap.size + 1, 0, none⟩) (hg5.block _ HR4.out.1 (by have := HLT1.out; simp; omega))).trans f0, (World.frozen?_of_block (a := ⟨w.heap.size + 1, 1, none⟩) (hg5.block _ HR4.out.1 (by have := HLT1.out; simp; omega))).trans f1, (World.frozen?_of_block (a := ⟨w2.heap.size, 1, none⟩) (hg5.block _ BO4.out.1 (by simp; omega))).trans fo⟩)
    have hwl := HLT1.out
    have HB5 := Lib.hid (HB4.out.grown hg5 HB4.out.size (fun j hj => by cases hj; omega))
    have hgs := grownBy_set w5 w2.heap.size 1 (.slice (some ⟨g, 0, none⟩) L.length c2)
    have HO6 := Lib.hid (ho5.kept hgs (.inr (by simp [Value.ownBlock]; omega)))
    have HB6 := Lib.hid (HB5.out.grown hgs HB5.out.size (fun j hj => by cases hj; have := HLT2.out; omega))
    have hne : w.heap.size + 1 ≠ w2.heap.size := by have := HLT2.out; omega
    have HR6 := Lib.hid (HR5.out.grown hgs hne)
    have b0 : (w5.setCell ⟨w2.heap.size, 1, none⟩ (.slice (some ⟨g, 0, none⟩) L.length c2)).cell? ⟨w2.heap.size, 0, none⟩ = some (.int .i64 p) := by
      rw [World.cell?_setCell_other _ _ _ _ (by intro e; simp at e)]
      exact BO5.out.2.1
    have b1 : (w5.setCell ⟨w2.heap.size, 1, none⟩ (.slice (some ⟨g, 0, none⟩) L.length c2)).cell? ⟨w2.heap.size, 1, none⟩ = some (.slice (some ⟨g, 0, none⟩) L.length c2) := World.cell?_setCell_same _ _ _ BO5.out.2.2
    obtain ⟨_, zz0, zz1⟩ := HR6.out
    obtain ⟨ff0, ff1, ff2⟩ := HF5.out
    obtain ⟨_, p0, p1⟩ := BO5.out
    obtain ⟨s0, s1⟩ := ret_cells (p := p) (v := .slice (some ⟨g, 0, none⟩) L.length c2) zz0 zz1
    obtain ⟨r1, r2⟩ := row_ret HO6.out HB6.out (r := w.heap.size + 1) (by omega) hwl (.int .i64 p) (.slice (some ⟨g, 0, none⟩) L.length c2)
    have HOR := Lib.hid r1
    have HBR := Lib.hid r2
    clear ho5 hg5 hgs r1 r2 x0 x1 o0 o1 z0 z1 f0 f1 fo
    go_wp2_with fail
    refine bodyPost_ret (v := .tuple #[.agg #[.int .i64 p, .slice (some ⟨g, 0, none⟩) L.length c2], .bool true]) ?_ rfl ⟨some ⟨g, 0, none⟩, c2, rfl, HOR.out, HBR.out⟩
    simp [results, Try.results169, go_sem, s0, s1]
end Go.Proofs.Ytggibhhdnlifcaa
