/- Several texts in one, in the order in which they build on each other: what stands on the way to the laws; each names its own matter. No condition. -/
import Derived.Test.YtedjhnedkghhoaaPk2
import Derived.Deep.RegionHeld3
import Derived.Laws.CopyOwn
import Derived.IntWalk
/- What (*Pebbles).pull does: a search by breadth for a free pebble, and the path turned round. No condition. -/
namespace Go.Proofs.Ytedjhnedkghhoaa
open Go.RowKit

set_option maxHeartbeats 8000000 in
set_option maxRecDepth 100000 in
theorem pull_c (P : Nat) (k0 : Int) (l : List (Int × Int)) (A : Option Addr) (cap pb : Nat) (f t z : Nat × Nat) (AF AT AZ : Option Addr) (cF cT cZ : Nat) (F T Z : List Int) (a b : Int) (gT : Nat) (w : World) (hS : PebS P k0 (plE l Z) F T) (hP : 1 ≤ P ∧ P ≤ 8) (hk0 : k0 ≤ 3) (hn : l.length ≤ 24) (hz24 : Z.length ≤ 24)
    (hZ : ∀ i, i < Z.length → 0 ≤ Z.getD i 0 ∧ Z.getD i 0 < (l.length : Int)) (ha : 0 ≤ a ∧ a < (P : Int)) (hb : 0 ≤ b ∧ b < (P : Int)) (hl : BarsAt w w.heap.size A l) (hst : Cel3 w pb 58 (.slice AF F.length cF) (.slice AT T.length cT) (.slice AZ Z.length cZ)) (ho : OwnF w f t z AF cF AT cT AZ cZ F T Z) (hgT : 0 < T.length → AT = some ⟨gT, 0, none⟩) (hpf : pb < f.1 ∨ f.2 ≤ pb) (hpt : pb < t.1 ∨ t.2 ≤ pb) :
    Calls Try.prog 163 #[.pointer (some ⟨pb, 0, none⟩), .agg #[.int .i64 (P : Int), .slice A l.length cap], .int .i64 a, .int .i64 b] w (PullP w f t z AF cF AT cT AZ cZ (plE l Z) F T Z a b) := by
  have hFl := hS.flen
  have hTl : T.length = Z.length := by rw [hS.ends.len, plE_len]
  obtain ⟨gF, rfl, _, _⟩ := ho.fst (by omega)
  have hhi := ho.hi
  have HE := Lib.hid (show ∀ i, i < Z.length → (plE l Z).getD i (0, 0) = l.getD (Z.getD i 0).toNat (0, 0) from fun i hi => plE_get l Z i hi)
  have HG := Lib.hid (fun k => bfs_good (T := T) hS.ends ha.1 ha.2 k)
  have HS := Lib.hid hS
  have HZ := Lib.hid hZ
  have HGT := Lib.hid hgT
  have HEL := Lib.hid (plE_len l Z)
  generalize plE l Z = E at *
  have HI := Lib.hid (show PullI w (((w.alloc (.cells #[.int .i64 (P : Int), .slice A l.length cap] 30)).alloc (.cells #[.pointer none, .pointer none, .pointer none, .pointer none, .pointer none, .pointer none, .pointer none, .pointer none] 174)).alloc (.cells #[.int .i64 a] 3)) pb f t z (P : Int) A cap l (some ⟨gF, 0, none⟩) cF AT cT AZ cZ F T Z a gT [(a, 0)] [(a, 0)] (.slice (some ⟨w.heap.size + 1 + 1, 0, none⟩) 1 1) from by
    have b1 := new_below w (.cells #[.int .i64 (P : Int), .slice A l.length cap] 30)
    have b2 := new_below (w.alloc (.cells #[.int .i64 (P : Int), .slice A l.length cap] 30)) (.cells #[.pointer none, .pointer none, .pointer none, .pointer none, .pointer none, .pointer none, .pointer none, .pointer none] 174)
    have b3 := new_below ((w.alloc (.cells #[.int .i64 (P : Int), .slice A l.length cap] 30)).alloc (.cells #[.pointer none, .pointer none, .pointer none, .pointer none, .pointer none, .pointer none, .pointer none, .pointer none] 174)) (.cells #[.int .i64 a] 3)
    have s1 : (w.alloc (.cells #[.int .i64 (P : Int), .slice A l.length cap] 30)).heap.size = w.heap.size + 1 := by simp
    have s2 : ((w.alloc (.cells #[.int .i64 (P : Int), .slice A l.length cap] 30)).alloc (.cells #[.pointer none, .pointer none, .pointer none, .pointer none, .pointer none, .pointer none, .pointer none, .pointer none] 174)).heap.size = w.heap.size + 1 + 1 := by simp
    have hball := below_on (below_on b1 b2 b1.size) b3 (by omega)
    have hr := World.ownsRow_lit (base := w.heap.size + 1 + 1) (e := 3) (size := 1) ((w.alloc (.cells #[.int .i64 (P : Int), .slice A l.length cap] 30)).alloc (.cells #[.pointer none, .pointer none, .pointer none, .pointer none, .pointer none, .pointer none, .pointer none, .pointer none] 174)) #[.int .i64 a] 1 (by omega) (by unfold maxLen; omega) (by simp)
    rw [s2] at hr
    have ha1 := heap_alloc_new (w.alloc (.cells #[.int .i64 (P : Int), .slice A l.length cap] 30)) (.cells #[.pointer none, .pointer none, .pointer none, .pointer none, .pointer none, .pointer none, .pointer none, .pointer none] 174)
    rw [s1] at ha1
    have hae : (arrL gT a [(a, 0)]) = [.pointer none, .pointer none, .pointer none, .pointer none, .pointer none, .pointer none, .pointer none, .pointer none] := by
      have h0 : ∀ v : Int, arrV gT a [(a, 0)] v = .pointer none := fun v => arrV_none (by by_cases e : v = a; exact .inr e; exact .inl (by simpa using e))
      unfold arrL
      simp only [h0]
      rfl
    exact ⟨hst.within (within_of hball) (.inr (Nat.zero_le _)), ho.below hball, ((box_new w (P : Int) (.slice A l.length cap) 30).kept b2).kept b3, (bars_in hl).within (within_of hball) (.inr (Nat.zero_le _)), by rw [hae]; exact (b3.block _ (by omega)).trans ha1, hr, hball, hst.lt, hhi.1, hhi.2.1, hhi.2.2⟩)
  clear hS hZ hgT hst ho hl
  go_enter Try.func163, Try.ntmps163
  go_wp2_with fail
  generalize (((w.alloc (.cells #[.int .i64 (P : Int), .slice A l.length cap] 30)).alloc (.cells #[.pointer none, .pointer none, .pointer none, .pointer none, .pointer none, .pointer none, .pointer none, .pointer none] 174)).alloc (.cells #[.int .i64 a] 3)) = w1 at *
  go_loopw [10, 11] (fun qv i wr => ∃ k : Nat, k ≤ (bfs E T a k).length ∧ i = .int .i64 k ∧ (∀ y ∈ (bfs E T a k).take k, givesB F a b y = false) ∧ PullI w wr pb f t z (P : Int) A cap l (some ⟨gF, 0, none⟩) cF AT cT AZ cZ F T Z a gT (bfs E T a k) (bfs E T a k) qv) (fun _ i _ => 9 - (intOf i).toNat)
  case atStart => exact ⟨0, Nat.zero_le _, rfl, fun y hy => (by simp at hy), HI.out⟩
  case round =>
    clear HI
    obtain ⟨k, hk, rfl, hno, hin⟩ := hrel
    have HIN := Lib.hid hin
    have HNO := Lib.hid hno
    have hshort := (HG.out k).short
    obtain ⟨A', c', rfl⟩ := own_shape hin.row
    clear hno
    by_cases hlt : k < (bfs E T a k).length
    · have hki : (k : Int) < ((bfs E T a k).length : Int) := by omega
      obtain ⟨gq, rfl⟩ : ∃ gq, A' = some ⟨gq, 0, none⟩ := by
        rcases hin.row.2 with ⟨_, e0⟩ | ⟨g, _, _, e, _⟩
        · omega
        · cases e
          exact ⟨g, rfl⟩
      have hq := (hin.row.cellAt k (show k < (bfs E T a k).length * 1 by omega)).trans (intCells_get ((bfs E T a k).map Prod.fst) k (by simpa using hlt))
      rw [map_fst_getD _ k hlt] at hq
      have hrg := (HG.out k).range ha k hlt
      have HFI := Lib.hid (fun hg : givesB F a b ((bfs E T a k).getD k (0, 0)) = true => find_impl k hlt (by omega) HNO.out hg)
      have HNX := Lib.hid (fun hg : givesB F a b ((bfs E T a k).getD k (0, 0)) = false => no_step hlt HNO.out hg)
      have HSC := Lib.hid (show bfs E T a (k + 1) = scanN E T ((bfs E T a k).getD k (0, 0)).1 (bfs E T a k) E.length by rw [bfs_succ, if_pos hlt])
      have HMEM := Lib.hid (getD_mem_fst _ k hlt)
      obtain ⟨gc0, gc1, gc2, _, _, _⟩ := hin.st.cells
      have hgb : givesB F a b ((bfs E T a k).getD k (0, 0)) = (decide (((bfs E T a k).getD k (0, 0)).1 ≠ a) && decide (((bfs E T a k).getD k (0, 0)).1 ≠ b) && decide (0 < F.getD ((bfs E T a k).getD k (0, 0)).1.toNat 0)) := rfl
      obtain ⟨fb, fo, hfb, hfc⟩ := row_at hin.own.reads.f (by omega)
      cases hfb
      obtain ⟨x, hx⟩ : ∃ x, (bfs E T a k).getD k (0, 0) = x := ⟨_, rfl⟩
      rw [hx] at hq hrg HFI HNX HSC HMEM hgb
      obtain ⟨v, i⟩ := x
      simp only at hq hrg hgb
      obtain ⟨n, rfl⟩ : ∃ n : Nat, v = (n : Int) := ⟨v.toNat, by omega⟩
      rw [Int.toNat_natCast] at hgb
      have hnF : (n : Int) < (F.length : Int) := by omega
      have hnP : n < P := by omega
      have hfn := hfc n (by omega)
      rw [Nat.zero_add] at hfn
      have HFC := Lib.hid hfc
      have HX := Lib.hid hx
      clear hfc hx
      by_cases hg : givesB F a b ((n : Int), i) = true
      · rw [hg] at hgb
        have hgb' := hgb.symm
        simp only [Bool.and_eq_true, decide_eq_true_eq] at hgb'
        obtain ⟨⟨g1, g2⟩, g3⟩ := hgb'
        obtain ⟨q1, r, hQ⟩ := HFI.out hg
        have hpk := (HG.out k).path
        have hTpos : 0 < T.length := by
          obtain ⟨_, _, _, _, _, _, hiE, _⟩ := hpk.at HMEM.out g1
          have := HEL.out
          omega
        obtain ⟨d, hd⟩ : ∃ d, d = F.getD n 0 := ⟨_, rfl⟩
        obtain ⟨d2, hd2⟩ : ∃ d2, d2 = F.getD a.toNat 0 := ⟨_, rfl⟩
        rw [← hd] at g3 hfn
        obtain ⟨gF', gT', e1, e2, b1, b3, hst3⟩ := hin.own.open_ (by omega) hTpos
        cases e1
        have e3 := HGT.out hTpos
        rw [e2] at e3
        cases e3
        cases e2
        obtain ⟨_, hf2⟩ := hst3.cellF n (by omega)
        have hst4 := hst3.setF n (d - 1)
        have han : a.toNat ≠ n := by omega
        have haF : a.toNat < F.length := by omega
        obtain ⟨hf3, hf4⟩ := hst4.cellF a.toNat (by rw [List.length_set]; omega)
        rw [set_getD_ne _ _ _ _ _ han, ← hd2] at hf3
        have hst5 := hst4.setF a.toNat (d2 + 1)
        have hw1 := within_set wr gF n (.int .i64 (d - 1))
        have hw2 := within_set (wr.setCell ⟨gF, n, none⟩ (.int .i64 (d - 1))) gF a.toNat (.int .i64 (d2 + 1))
        have hlo := hin.low
        have hc1 := (hin.st.within hw1 (by omega)).cells.1
        have harr := (hw2.block _ (Nat.lt_of_lt_of_le (Array.getElem?_eq_some_iff.1 hin.arr).1 hw1.size) (by omega)).trans ((hw1.block _ (Array.getElem?_eq_some_iff.1 hin.arr).1 (by omega)).trans hin.arr)
        have hrb1 := (Array.getElem?_eq_some_iff.1 harr).1
        have hmove : (F.set n (d - 1)).set a.toNat (d2 + 1) = movF F a (n : Int) := by unfold movF; rw [Int.toNat_natCast, hd, hd2]
        rw [hmove] at hst5
        have HST5 := Lib.hid hst5
        have HARR := Lib.hid harr
        have HWW := Lib.hid (And.intro hw1 hw2)
        have HBB := Lib.hid (show (f.1 ≤ gF ∧ gF < f.2) ∧ (t.1 ≤ gT ∧ gT < t.2) from ⟨b1, b3⟩)
        have HDS := Lib.hid hin.own.2.2
        have HTI := Lib.hid (show TurnI P E T a (bfs E T a k) (turnQ E a (bfsQ E T a).reverse (n : Int) T) (n : Int) T from by
          have e0 : bfs E T a k = ((bfs E T a k).take k ++ [((n : Int), i)]) ++ (bfs E T a k).drop (k + 1) := by rw [← HX.out, ← take_snoc_getD _ _ hlt, List.take_append_drop]
          have hnd := (HG.out (max E.length 8)).path.nodup (show bfs E T a (max E.length 8) = (bfs E T a k).take k ++ ((n : Int), i) :: r from hQ)
          have hp1 : PathQ P E T a ((bfs E T a k).take k ++ [((n : Int), i)]) := PathQ.pre (r := (bfs E T a k).drop (k + 1)) (by rw [← e0]; exact hpk) (by simp)
          have := TurnI.start (r := (bfs E T a k).drop (k + 1)) HS.out.ends hp1 (show (n : Int) ∈ _ by simp)
          rw [← e0] at this
          rw [hQ, turn_prefix (x := ((n : Int), i)) T hnd]
          exact this)
        have HFM := Lib.hid (show findM E a b (F, T) = some (movF F a (n : Int), turnQ E a (bfsQ E T a).reverse (n : Int) T) by
          show Option.map _ ((bfsQ E T a).find? (givesB F a b)) = _
          rw [q1]
          rfl)
        have hfv := HS.out.small (v := (n : Int)) (by omega)
        have hfa := HS.out.small (v := a) ha
        rw [Int.toNat_natCast, ← hd] at hfv
        rw [← hd2] at hfa
        have hai : (a.toNat : Int) = a := by omega
        obtain ⟨an, han2⟩ : ∃ an : Nat, a.toNat = an := ⟨_, rfl⟩
        rw [han2] at hai hf3 hf4 HST5 HARR HWW han haF
        subst hai
        have haF2 : (an : Int) < (F.length : Int) := by omega
        clear hd hd2
        have e4 : ((n : Int) != (an : Int)) = true := by simpa using g1
        have e5 : ((n : Int) != b) = true := by simpa using g2
        have g3d : decide (0 < d) = true := by simpa using g3
        clear g1 g2 hQ q1 hpk hst3 hst4 hst5 harr hw1 hw2 hmove hgb hg hin
        go_wp2_with fail
        have HCE := Lib.hid (show ∀ x ∈ bfs E T (an : Int) k, x.1 ≠ (an : Int) → ((wr.setCell ⟨gF, n, none⟩ (.int .i64 (d - 1))).setCell ⟨gF, an, none⟩ (.int .i64 (d2 + 1))).cell? ⟨w.heap.size + 1, x.1.toNat, none⟩ = some (.pointer (some ⟨gT, x.2, none⟩)) from fun x hx hxa => by
          obtain ⟨_, _, _, _, _, _, _, _, _, h6, h7, _⟩ := (HG.out k).path.at (List.mem_map_of_mem hx) hxa
          have e := arrL_get gT (an : Int) (bfs E T an k) x.1.toNat (by omega)
          rw [show ((x.1.toNat : Nat) : Int) = x.1 by omega, arrV_at (HG.out k).path hx hxa] at e
          exact (cell_of_row _ _ _ _ _ _ HARR.out).trans (by simpa using e))
        refine (turnPath_c P E (movF F an n) T Z _ an n (bfs E T an k) (w.heap.size + 1) 0 gF cF gT cT cZ z.1 z.2 AZ _ HST5.out HTI.out (by omega) HCE.out (by have := HBB.out; have := HIN.out.low; omega) (Array.getElem?_eq_some_iff.1 HARR.out).1).mono ?_
        rintro e6 w6 ⟨rfl, hst6, hw6⟩
        have HST6 := Lib.hid hst6
        have HW6 := Lib.hid hw6
        clear hst6 hw6
        go_wp2_with fail
        go_ret
        have hbl := HIN.out.bel
        have hlow := HIN.out.low
        have hbb := HBB.out
        have hsz1 := HWW.out.1.size
        have hsz2 := HWW.out.2.size
        have hsz6 := HW6.out.size
        have hszb := hbl.size
        obtain ⟨oz, od1, od2, od3⟩ := HDS.out
        unfold Dis at od1 od2 od3
        have oz6 := ((oz.within HWW.out.1 (by omega)).within HWW.out.2 (by omega)).within HW6.out (by omega)
        exact ⟨(((Within2.of (within_of hbl) (.inl (Nat.le_refl 0))).trans (Within2.of HWW.out.1 (by omega))).trans (Within2.of HWW.out.2 (by omega))).trans (Within2.of HW6.out (by omega)), .inr ⟨_, rfl, HFM.out, HST6.out.ownF hbb.1 hbb.2 (by omega) (by omega) oz6 (by unfold Dis; omega) (by unfold Dis; omega) (by unfold Dis; omega)⟩⟩
      · have hgf : givesB F a b ((n : Int), i) = false := by simpa using hg
        have HNX2 := Lib.hid (HNX.out hgf)
        have HGS := Lib.hid (fun j (hj : j ≤ E.length) => (HG.out k).scan HS.out.ends HMEM.out j hj)
        obtain ⟨d, hd⟩ : ∃ d, F.getD n 0 = d := ⟨_, rfl⟩
        rw [hd] at hgb hfn
        have hcase : ((n : Int) != a) = false ∨ (((n : Int) != a) = true ∧ ((n : Int) != b) = false) ∨ (((n : Int) != a) = true ∧ ((n : Int) != b) = true ∧ decide (0 < d) = false) := by
          by_cases k1 : (n : Int) = a
          · exact .inl (by simpa using k1)
          · by_cases k2 : (n : Int) = b
            · exact .inr (.inl ⟨by simpa using k1, by simpa using k2⟩)
            · rw [hgf] at hgb
              exact .inr (.inr ⟨by simpa using k1, by simpa using k2, by simpa [k1, k2] using hgb.symm⟩)
        have hst := HIN.out.st
        obtain ⟨hc0, hc1, hc2, _, _, _⟩ := hst.cells
        clear hgb hg hin hd hst gc0 gc1 gc2
        rcases hcase with c1 | ⟨c1, c2⟩ | ⟨c1, c2, c3⟩
        all_goals (
          go_wp2_with fail
          clear hc0 hc1 hc2
          go_loopw [10, 71] (fun qv jv wr' => ∃ j : Nat, j ≤ Z.length ∧ jv = .int .i64 j ∧ PullI w wr' pb f t z (P : Int) A cap l (some ⟨gF, 0, none⟩) cF AT cT AZ cZ F T Z a gT (scanN E T (n : Int) (bfs E T a k) j) (scanN E T (n : Int) (bfs E T a k) j) qv) (fun _ jv _ => Z.length - (intOf jv).toNat)
          case atStart => exact ⟨0, Nat.zero_le _, rfl, HIN.out⟩
          case round =>
            obtain ⟨j, hj, rfl, hin2⟩ := hrel
            have HIN2 := Lib.hid hin2
            obtain ⟨A2, c2', rfl⟩ := own_shape hin2.row
            obtain ⟨hc0, hc1, hc2, _, _, _⟩ := hin2.st.cells
            by_cases hlt2 : j < Z.length
            · have hji : (j : Int) < (Z.length : Int) := by omega
              have hjt : (j : Int) < (T.length : Int) := by omega
              obtain ⟨gF', gT', e1, e2, _, _, hst3⟩ := hin2.own.open_ (by omega) (by omega)
              cases e1
              have e3 := HGT.out (by omega)
              rw [e2] at e3
              cases e3
              cases e2
              have ht := (hst3.cellT j (by omega)).1
              obtain ⟨zb, zo, rfl, hzc⟩ := row_at hin2.own.reads.z (by omega)
              have hz := hzc j hlt2
              have HSN := Lib.hid (show scanN E T (n : Int) (bfs E T a k) (j + 1) = scan1 E T (n : Int) (scanN E T (n : Int) (bfs E T a k) j) j from rfl)
              obtain ⟨t, htd⟩ : ∃ t, T.getD j 0 = t := ⟨_, rfl⟩
              rw [htd] at ht
              clear hin2 hst3 hzc
              by_cases c5 : t = (n : Int)
              · subst c5
                have d5 : ((n : Int) != (n : Int)) = false := by simp
                obtain ⟨hz0, hz1⟩ := HZ.out j hlt2
                have hEj := HE.out j hlt2
                have hend := HS.out.ends.tail j (by rw [HEL.out]; exact hlt2)
                have hoth := HS.out.ends.oth_in (by rw [HEL.out]; exact hlt2) htd
                obtain ⟨gs, gm⟩ := HGS.out j (by rw [HEL.out]; omega)
                have hsh := gs.short
                rw [htd] at hend
                rw [hEj] at hend hoth
                obtain ⟨m, hm⟩ : ∃ m : Nat, Z.getD j 0 = (m : Int) := ⟨(Z.getD j 0).toNat, by omega⟩
                rw [hm] at hz hz0 hz1 hend hoth hEj
                rw [Int.toNat_natCast] at hend hoth hEj
                obtain ⟨bb, boff, rfl, _, hbc⟩ := HIN2.out.bars.at (by omega)
                have hx1 := (hbc m (by omega)).1
                have hx2 := (hbc m (by omega)).2
                obtain ⟨x, hxd⟩ : ∃ x, l.getD m (0, 0) = x := ⟨_, rfl⟩
                rw [hxd] at hx1 hx2 hend hoth hEj
                obtain ⟨x1, x2⟩ := x
                simp only at hx1 hx2
                obtain ⟨o, ho⟩ : ∃ o : Nat, oth (x1, x2) (n : Int) = (o : Int) := ⟨(oth (x1, x2) (n : Int)).toNat, by omega⟩
                rw [ho] at hoth
                have HO := Lib.hid ho
                have HEN := Lib.hid hend
                have HS1 := Lib.hid (show scan1 E T (n : Int) (scanN E T (n : Int) (bfs E T a k) j) j = if (o : Int) ∉ (scanN E T (n : Int) (bfs E T a k) j).map Prod.fst then (scanN E T (n : Int) (bfs E T a k) j) ++ [((o : Int), j)] else (scanN E T (n : Int) (bfs E T a k) j) by
                  unfold scan1
                  rw [htd, hEj, ho]
                  by_cases h : (o : Int) ∈ (scanN E T (n : Int) (bfs E T a k) j).map Prod.fst
                  · rw [if_neg (fun q => q.2 h), if_neg (fun q => q h)]
                  · rw [if_pos ⟨rfl, h⟩, if_pos h])
                have HGJ := Lib.hid gs
                have ho8 : o < 8 := by omega
                have ho8i : (o : Int) < 8 := by omega
                have hoP := hoth.1
                obtain ⟨_, gx0, gx1⟩ := HIN2.out.box
                have hmi : (m : Int) < (l.length : Int) := hz1
                clear hbc hxd ho hend hEj hm gs gm htd hz0 hoth
                by_cases c6 : (o : Int) = a
                · have d6 : ((o : Int) != a) = false := by simpa using c6
                  have HQ := Lib.hid (show (scanN E T (n : Int) (bfs E T a k) j) = scanN E T (n : Int) (bfs E T a k) (j + 1) by
                    rw [HSN.out, HS1.out, if_neg]
                    obtain ⟨r, e⟩ := HGJ.out.start
                    rw [e, c6]; simp)
                  clear c6
                  go_wp2_with (go_at_call 177; refine (otherEnd_c (x1, x2) (n : Int) _ HEN.out).mono ?_; rintro e w5 ⟨rfl, hb⟩; rw [HO.out]; have HIN5 := Lib.hid (HIN2.out.below hb); obtain ⟨hd0, hd1, hd2, _, _, _⟩ := HIN5.out.st.cells; have hfz := frozen_of_row _ _ o _ _ HIN5.out.arr; clear hb hc0 hc1 hc2)
                  go_roundw
                  case rel => exact ⟨j + 1, by omega, by go_num, by rw [← HQ.out]; exact HIN5.out⟩
                  case measure => simp [intOf]; omega
                · have d6 : ((o : Int) != a) = true := by simpa using c6
                  by_cases c7 : (o : Int) ∈ (scanN E T (n : Int) (bfs E T a k) j).map Prod.fst
                  · have HQ := Lib.hid (show (scanN E T (n : Int) (bfs E T a k) j) = scanN E T (n : Int) (bfs E T a k) (j + 1) by rw [HSN.out, HS1.out, if_neg]; simpa using c7)
                    obtain ⟨g7, j7, hv7⟩ := arrV_some (gT := gT) c7 c6
                    have HV := Lib.hid hv7
                    clear c6 c7 hv7
                    go_wp2_with (go_at_call 177; refine (otherEnd_c (x1, x2) (n : Int) _ HEN.out).mono ?_; rintro e w5 ⟨rfl, hb⟩; rw [HO.out]; have HIN5 := Lib.hid (HIN2.out.below hb); obtain ⟨hd0, hd1, hd2, _, _, _⟩ := HIN5.out.st.cells; have hfz := frozen_of_row _ _ o _ _ HIN5.out.arr; have har := (cell_of_row _ _ o _ _ _ HIN5.out.arr).trans (by simpa using (arrL_get gT a (scanN E T (n : Int) (bfs E T a k) j) o ho8).trans (congrArg some HV.out)); clear hb hc0 hc1 hc2)
                    go_roundw
                    case rel => exact ⟨j + 1, by omega, by go_num, by rw [← HQ.out]; exact HIN5.out⟩
                    case measure => simp [intOf]; omega
                  · have HQ := Lib.hid (show (scanN E T (n : Int) (bfs E T a k) j) ++ [((o : Int), j)] = scanN E T (n : Int) (bfs E T a k) (j + 1) by rw [HSN.out, HS1.out, if_pos c7])
                    have HV := Lib.hid (arrV_none (gT := gT) (a := a) (.inl c7))
                    have HNI := Lib.hid c7
                    have HNA := Lib.hid c6
                    clear c6 c7
                    go_wp2_with (first
                      | (go_at_call 177; refine (otherEnd_c (x1, x2) (n : Int) _ HEN.out).mono ?_; rintro e w5 ⟨rfl, hb⟩; rw [HO.out]; have HIN5 := Lib.hid (HIN2.out.below hb); obtain ⟨hd0, hd1, hd2, _, _, _⟩ := HIN5.out.st.cells; have hfz := frozen_of_row _ _ o _ _ HIN5.out.arr; have har := (cell_of_row _ _ o _ _ _ HIN5.out.arr).trans (by simpa using (arrL_get gT a (scanN E T (n : Int) (bfs E T a k) j) o ho8).trans (congrArg some HV.out)); clear hb hc0 hc1 hc2; have HR3 := Lib.hid (HIN5.out.reach o j ho8 HNI.out HNA.out); have hbs := (Array.getElem?_eq_some_iff.1 HR3.out.arr).1)
                      | (at_builtin; go_loud (refine wpList_at _ rfl _ _ 25 rfl (w.heap.size + 1 + 1) 3 (.int .i64 0) 1 8 Try.underlying25 infoInt rfl (by decide) _ _ _ rfl HR3.out.row #[.int .i64 (o : Int)] 1 rfl (by simp [Value.oneCell']) _ 1 (by simp only [World.size_setCell]; rfl) (by omega) (by unfold maxLen; omega) hbs ?_; intro v' w' ho hg _ _; obtain ⟨A3, c3', rfl⟩ := own_shape ho; have HN := Lib.hid (HR3.out.push ((o : Int), j) ho hg); clear ho hg)))
                    go_roundw
                    case rel => exact ⟨j + 1, by omega, by go_num, by rw [← HQ.out]; exact HN.out⟩
                    case measure => simp [intOf]; omega
              · have d5 : (t != (n : Int)) = true := by simpa using c5
                have HQ := Lib.hid (show (scanN E T (n : Int) (bfs E T a k) j) = scanN E T (n : Int) (bfs E T a k) (j + 1) by rw [HSN.out]; unfold scan1; rw [htd, if_neg]; exact fun h => c5 h.1)
                clear c5 htd
                go_wp2_with fail
                go_roundw
                case rel => exact ⟨j + 1, by omega, by go_num, by rw [← HQ.out]; exact HIN2.out⟩
                case measure => simp [intOf]; omega
            · obtain rfl : j = Z.length := by omega
              have hji : ¬ (Z.length : Int) < (Z.length : Int) := by omega
              clear hin2
              go_wp2_with fail
              go_roundw
              case rel => exact ⟨k + 1, by rw [HSC.out]; obtain ⟨r, e⟩ := scanN_pre E T (n : Int) (bfs E T a k) E.length; rw [e, List.length_append]; omega, by go_num, HNX2.out, by rw [HSC.out, HEL.out]; exact HIN2.out⟩
              case measure => simp [intOf]; omega)
    · have hkl : k = (bfs E T a k).length := by omega
      have HF := Lib.hid (find_no (E := E) (T := T) (F := F) (a := a) (b := b) k (by omega) (by omega) (by rw [← List.take_of_length_le (l := bfs E T a k) (i := k) (by omega)]; exact HNO.out))
      have hki : ¬ (k : Int) < ((bfs E T a k).length : Int) := by omega
      clear hin hkl
      go_wp2_with fail
      go_ret
      exact ⟨Within2.of (within_of HIN.out.bel) (.inl (Nat.le_refl 0)), .inl ⟨rfl, by show Option.map _ ((bfsQ E T a).find? (givesB F a b)) = none; rw [HF.out]; rfl, HIN.out.own⟩⟩
end Go.Proofs.Ytedjhnedkghhoaa
/- What stands while pebbles are gathered in a state of the call's own. No program's walk. No condition. -/
namespace Go.Proofs.Ytedjhnedkghhoaa
open Go.RowKit

/-- A row of the call's own is overwritten by a row of the same length. -/
theorem wpList_back {w : World} {ops : Array Oper} {rest : List Oper} {o : Oper} {a : Act} {Q : Exit → Act → World → Prop} (hgd : o.guard = none) (d s : Operand)
    (ho : o.op = .call { callee := .builtin .copy, args := #[d, s], argTypes := #[25, 25] }) (A AS : Option Addr) (zs ys : List Int) (cd cs lo hi lo2 hi2 n : Nat) (hd : a.eval d = .slice A n cd) (hs : a.eval s = .slice AS ys.length cs)
    (hz : OwnR w lo hi A cd zs) (hy : IntsIn w lo2 hi2 AS ys) (hl : ys.length = zs.length) (hnz : n = zs.length)
    (h : ∀ w', OwnR w' lo hi A cd ys → Within lo hi w w' → wpList Try.prog ops Q rest (a.put o.dst (goInt ys.length)) w') : wpList Try.prog ops Q (o :: rest) a w := by
  subst hnz
  have hu := Try.underlying25
  have hsz : (Try.prog.info? 3).map (·.size) = some 1 := by kernel_rfl
  by_cases h0 : ys.length = 0
  · have hy0 : ys = [] := List.eq_nil_of_length_eq_zero h0
    refine wpList_copy_nothing hgd d s _ _ ho 3 hu hsz A AS zs.length cd ys.length cs hd hs (by rw [h0]; simp) ?_
    have hz0 : zs = [] := List.eq_nil_of_length_eq_zero (by rw [← hl]; exact h0)
    have := h w (by rw [hy0]; rw [hz0] at hz; exact hz) (Within.refl _ _ _)
    rw [h0] at this
    exact this
  · rcases hz.2 with ⟨_, _, e⟩ | ⟨g, rfl, g1, g2, hr⟩
    · exact absurd (by rw [hl, e]; rfl) h0
    · obtain ⟨b, off, rfl, _, _, hc⟩ := hy.2 (by omega)
      rcases hr.2 with ⟨e0, _⟩ | ⟨g', cap', cur, e1, hg1, hheap, n1, n2, n3, n4⟩
      · cases e0
      · cases e1
        have hcl : (intCells ys).length = ys.length := intCells_len ys
        refine wpList_copy_own hgd d s _ _ ho 3 hu hsz g 0 zs.length cd ⟨b, off, none⟩ ys.length cs hd hs cur _ hheap (intCells ys) (by rw [hcl, hl]; simp) ?_ (by rw [hcl]; omega) (intCells_one ys) ?_
        · intro j v hj
          have hjl : j < ys.length := by rw [← hcl]; exact (List.getElem?_eq_some_iff.1 hj).1
          have e := (hc j hjl).trans (intCells_get ys j hjl).symm
          rw [hj] at e
          have ha : (⟨b, off, none⟩ : Addr).add j = ⟨b, off + j, none⟩ := by unfold Addr.add; split <;> simp_all
          rw [ha]
          exact e
        · rw [hcl]
          have hset := setRow_heap w g _ ((cur.toList.take 0 ++ (intCells ys ++ cur.toList.drop (0 + ys.length))).toArray) _ _ hheap
          refine h _ ⟨?_, .inr ⟨g, rfl, g1, g2, ⟨by rw [hcl, Nat.mul_one], .inr ⟨g, cd, _, by rw [hl], hg1, hset, by omega, n2, ?_, ?_⟩⟩⟩⟩ ⟨rfl, rfl, rfl, ?_, fun k _ hd => setRow_other w g k _ (by omega)⟩
          · simpa [World.setRow] using hz.1
          · simp [hcl]; omega
          · simp [← hcl]
          · simp [World.setRow]
theorem Box.at {W W' : World} {b : Nat} {q : Int} {v : Value} (h : Box W b q v) {f t : Nat × Nat} (hw : Within2 f t W W') (h1 : b < f.1 ∨ f.2 ≤ b) (h2 : b < t.1 ∨ t.2 ≤ b) : Box W' b q v := by
  have hb := hw.block b h.1 h1 h2
  exact ⟨Nat.lt_of_lt_of_le h.1 hw.size, (World.cell?_of_block (a := ⟨b, 0, none⟩) hb).trans h.2.1, (World.cell?_of_block (a := ⟨b, 1, none⟩) hb).trans h.2.2⟩
/-- What gathering answers, and what it makes of the state. -/
def GathP (w : World) (f t z : Nat × Nat) (AF : Option Addr) (cF : Nat) (AT : Option Addr) (cT : Nat) (AZ : Option Addr) (cZ : Nat) (E : List (Int × Int)) (F T Z : List Int) (a b want : Int) (e : Ending) (w' : World) : Prop :=
  Within2 f t w w' ∧ ((e = .returned (.bool false) ∧ gathR E a b want (F, T) = none ∧ OwnF w' f t z AF cF AT cT AZ cZ F T Z) ∨ ∃ s', e = .returned (.bool true) ∧ gathR E a b want (F, T) = some s' ∧ OwnF w' f t z AF cF AT cT AZ cZ s'.1 s'.2 Z)
/-- Where gathering stands: the state, the graph's box, the copies. -/
structure GatI (w wr : World) (pb : Nat) (f t z : Nat × Nat) (mF nF mT nT : Nat) (p : Int) (A : Option Addr) (cap : Nat) (l : List (Int × Int)) (AF : Option Addr) (cF : Nat) (AT : Option Addr) (cT : Nat) (AZ : Option Addr) (cZ : Nat) (BF BT : Option Addr) (F0 T0 F T Z : List Int) : Prop where
  st : Cel3 wr pb 58 (.slice AF F0.length cF) (.slice AT T0.length cT) (.slice AZ Z.length cZ)
  own : OwnF wr f t z AF cF AT cT AZ cZ F T Z
  box : Box wr w.heap.size p (.slice A l.length cap)
  bars : BarsIn wr 0 w.heap.size A l
  cf : IntsIn wr mF nF BF F0
  ct : IntsIn wr mT nT BT T0
  wit : Within2 f t w wr
  low : pb < w.heap.size ∧ (f.2 ≤ w.heap.size ∧ t.2 ≤ w.heap.size) ∧ w.heap.size ≤ mF ∧ w.heap.size ≤ mT ∧ w.heap.size + 1 ≤ wr.heap.size
  outf : pb < f.1 ∨ f.2 ≤ pb
  outt : pb < t.1 ∨ t.2 ≤ pb
  bar : 0 < l.length → ∀ g off, A = some ⟨g, off, none⟩ → (g < f.1 ∨ f.2 ≤ g) ∧ (g < t.1 ∨ t.2 ≤ g)
/-- The state was written, and nothing else. -/
theorem GatI.next {w wr w' : World} {pb : Nat} {f t z : Nat × Nat} {mF nF mT nT : Nat} {p : Int} {A : Option Addr} {cap : Nat} {l : List (Int × Int)} {AF : Option Addr} {cF : Nat} {AT : Option Addr} {cT : Nat} {AZ : Option Addr} {cZ : Nat} {BF BT : Option Addr} {F0 T0 F T F' T' Z : List Int}
    (h : GatI w wr pb f t z mF nF mT nT p A cap l AF cF AT cT AZ cZ BF BT F0 T0 F T Z) (hw : Within2 f t wr w') (ho : OwnF w' f t z AF cF AT cT AZ cZ F' T' Z) : GatI w w' pb f t z mF nF mT nT p A cap l AF cF AT cT AZ cZ BF BT F0 T0 F' T' Z := by
  obtain ⟨l1, l2, l3, l4, l5⟩ := h.low
  refine ⟨h.st.at hw h.outf h.outt, ho, h.box.at hw (by omega) (by omega), ⟨Nat.le_trans h.bars.1 hw.size, fun hl => ?_⟩, h.cf.at hw (by omega) (by omega), h.ct.at hw (by omega) (by omega), h.wit.trans hw, ⟨l1, l2, l3, l4, Nat.le_trans l5 hw.size⟩, h.outf, h.outt, h.bar⟩
  obtain ⟨b, off, e, h1, h2, hc⟩ := h.bars.2 hl
  refine ⟨b, off, e, h1, h2, fun k hk => ?_⟩
  obtain ⟨q1, q2⟩ := h.bar hl b off e
  have hb := hw.block b (Nat.lt_of_lt_of_le h2 h.bars.1) q1 q2
  have e1 : ∀ o, w'.cell? ⟨b, o, none⟩ = wr.cell? ⟨b, o, none⟩ := fun o => World.cell?_of_block (a := ⟨b, o, none⟩) hb
  rw [e1, e1]
  exact hc k hk
theorem GatI.pull {w wr : World} {P pb : Nat} {f t z : Nat × Nat} {mF nF mT nT : Nat} {k0 : Int} {A : Option Addr} {cap : Nat} {l : List (Int × Int)} {AF : Option Addr} {cF : Nat} {AT : Option Addr} {cT : Nat} {AZ : Option Addr} {cZ : Nat} {BF BT : Option Addr} {F0 T0 F T Z : List Int} {a b : Int} {gT : Nat}
    (h : GatI w wr pb f t z mF nF mT nT (P : Int) A cap l AF cF AT cT AZ cZ BF BT F0 T0 F T Z) (hS0 : PebS P k0 (plE l Z) F0 T0) (hS : PebS P k0 (plE l Z) F T) (hP : 1 ≤ P ∧ P ≤ 8) (hk0 : k0 ≤ 3) (hn : l.length ≤ 24) (hz24 : Z.length ≤ 24)
    (hZ : ∀ i, i < Z.length → 0 ≤ Z.getD i 0 ∧ Z.getD i 0 < (l.length : Int)) (ha : 0 ≤ a ∧ a < (P : Int)) (hb : 0 ≤ b ∧ b < (P : Int)) (hgT : 0 < T0.length → AT = some ⟨gT, 0, none⟩) :
    Calls Try.prog 163 #[.pointer (some ⟨pb, 0, none⟩), .agg #[.int .i64 (P : Int), .slice A l.length cap], .int .i64 a, .int .i64 b] wr (PullP wr f t z AF cF AT cT AZ cZ (plE l Z) F T Z a b) := by
  have e1 : F.length = F0.length := by rw [hS.flen, hS0.flen]
  have e2 : T.length = T0.length := by rw [hS.ends.len, hS0.ends.len]
  have hst := h.st
  rw [← e1, ← e2] at hst
  rw [← e2] at hgT
  exact pull_c P k0 l A cap pb f t z AF AT AZ cF cT cZ F T Z a b gT wr hS hP hk0 hn hz24 hZ ha hb h.bars.at hst h.own hgT h.outf h.outt
theorem GatI.pull_no {w wr : World} {P pb : Nat} {f t z : Nat × Nat} {mF nF mT nT : Nat} {k0 : Int} {A : Option Addr} {cap : Nat} {l : List (Int × Int)} {AF : Option Addr} {cF : Nat} {AT : Option Addr} {cT : Nat} {AZ : Option Addr} {cZ : Nat} {BF BT : Option Addr} {F0 T0 F T Z : List Int} {a b : Int} {gT : Nat}
    (h : GatI w wr pb f t z mF nF mT nT (P : Int) A cap l AF cF AT cT AZ cZ BF BT F0 T0 F T Z) (hS0 : PebS P k0 (plE l Z) F0 T0) (hS : PebS P k0 (plE l Z) F T) (hP : 1 ≤ P ∧ P ≤ 8) (hk0 : k0 ≤ 3) (hn : l.length ≤ 24) (hz24 : Z.length ≤ 24)
    (hZ : ∀ i, i < Z.length → 0 ≤ Z.getD i 0 ∧ Z.getD i 0 < (l.length : Int)) (ha : 0 ≤ a ∧ a < (P : Int)) (hb : 0 ≤ b ∧ b < (P : Int)) (hgT : 0 < T0.length → AT = some ⟨gT, 0, none⟩) (hf : findM (plE l Z) a b (F, T) = none) :
    Calls Try.prog 163 #[.pointer (some ⟨pb, 0, none⟩), .agg #[.int .i64 (P : Int), .slice A l.length cap], .int .i64 a, .int .i64 b] wr (fun e w' => e = .returned (.bool false) ∧ GatI w w' pb f t z mF nF mT nT (P : Int) A cap l AF cF AT cT AZ cZ BF BT F0 T0 F T Z) := by
  refine (h.pull hS0 hS hP hk0 hn hz24 hZ ha hb hgT).mono ?_
  rintro e w' ⟨hw, ⟨rfl, _, ho⟩ | ⟨s', _, hs, _⟩⟩
  · exact ⟨rfl, h.next hw ho⟩
  · rw [hf] at hs; cases hs
theorem GatI.pull_yes {w wr : World} {P pb : Nat} {f t z : Nat × Nat} {mF nF mT nT : Nat} {k0 : Int} {A : Option Addr} {cap : Nat} {l : List (Int × Int)} {AF : Option Addr} {cF : Nat} {AT : Option Addr} {cT : Nat} {AZ : Option Addr} {cZ : Nat} {BF BT : Option Addr} {F0 T0 F T Z : List Int} {a b : Int} {gT : Nat} {s : List Int × List Int}
    (h : GatI w wr pb f t z mF nF mT nT (P : Int) A cap l AF cF AT cT AZ cZ BF BT F0 T0 F T Z) (hS0 : PebS P k0 (plE l Z) F0 T0) (hS : PebS P k0 (plE l Z) F T) (hP : 1 ≤ P ∧ P ≤ 8) (hk0 : k0 ≤ 3) (hn : l.length ≤ 24) (hz24 : Z.length ≤ 24)
    (hZ : ∀ i, i < Z.length → 0 ≤ Z.getD i 0 ∧ Z.getD i 0 < (l.length : Int)) (ha : 0 ≤ a ∧ a < (P : Int)) (hb : 0 ≤ b ∧ b < (P : Int)) (hgT : 0 < T0.length → AT = some ⟨gT, 0, none⟩) (hf : findM (plE l Z) a b (F, T) = some s) :
    Calls Try.prog 163 #[.pointer (some ⟨pb, 0, none⟩), .agg #[.int .i64 (P : Int), .slice A l.length cap], .int .i64 a, .int .i64 b] wr (fun e w' => e = .returned (.bool true) ∧ GatI w w' pb f t z mF nF mT nT (P : Int) A cap l AF cF AT cT AZ cZ BF BT F0 T0 s.1 s.2 Z) := by
  refine (h.pull hS0 hS hP hk0 hn hz24 hZ ha hb hgT).mono ?_
  rintro e w' ⟨hw, ⟨rfl, hs, ho⟩ | ⟨s', rfl, hs, ho⟩⟩
  · rw [hf] at hs; cases hs
  · rw [hf] at hs
    cases hs
    exact ⟨rfl, h.next hw ho⟩
end Go.Proofs.Ytedjhnedkghhoaa
/- What (*Pebbles).gather does. No condition. -/
namespace Go.Proofs.Ytedjhnedkghhoaa
open Go.RowKit

set_option maxHeartbeats 8000000 in
set_option maxRecDepth 100000 in
theorem gather_c (P : Nat) (k0 : Int) (l : List (Int × Int)) (A : Option Addr) (cap pb : Nat) (f t z : Nat × Nat) (AF AT AZ : Option Addr) (cF cT cZ : Nat) (F T Z : List Int) (a b : Nat) (want : Int) (w : World) (hS : PebS P k0 (plE l Z) F T) (hP : 1 ≤ P ∧ P ≤ 8) (hk0 : k0 ≤ 3) (hn : l.length ≤ 24) (hz24 : Z.length ≤ 24)
    (hZ : ∀ i, i < Z.length → 0 ≤ Z.getD i 0 ∧ Z.getD i 0 < (l.length : Int)) (ha : a < P) (hb : b < P) (hab : a ≠ b) (hl : BarsAt w w.heap.size A l) (hst : Cel3 w pb 58 (.slice AF F.length cF) (.slice AT T.length cT) (.slice AZ Z.length cZ)) (ho : OwnF w f t z AF cF AT cT AZ cZ F T Z) (hpf : pb < f.1 ∨ f.2 ≤ pb) (hpt : pb < t.1 ∨ t.2 ≤ pb) (hbar : 0 < l.length → ∀ g off, A = some ⟨g, off, none⟩ → (g < f.1 ∨ f.2 ≤ g) ∧ (g < t.1 ∨ t.2 ≤ g)) :
    Calls Try.prog 123 #[.pointer (some ⟨pb, 0, none⟩), .agg #[.int .i64 (P : Int), .slice A l.length cap], .int .i64 (a : Int), .int .i64 (b : Int), .int .i64 want] w (GathP w f t z AF cF AT cT AZ cZ (plE l Z) F T Z a b want) := by
  have hFl := hS.flen
  have hTl : T.length = Z.length := by rw [hS.ends.len, plE_len]
  obtain ⟨gF, rfl, _, _⟩ := ho.fst (by omega)
  have hhi := ho.hi
  obtain ⟨gT, hgT⟩ : ∃ gT, 0 < T.length → AT = some ⟨gT, 0, none⟩ := by
    by_cases h : 0 < T.length
    · obtain ⟨_, gT, _, e, _⟩ := ho.open_ (by omega) h
      exact ⟨gT, fun _ => e⟩
    · exact ⟨0, fun k => absurd k h⟩
  have HGT := Lib.hid hgT
  have HS := Lib.hid hS
  have HZ := Lib.hid hZ
  have HBAR := Lib.hid hbar
  have b1 := new_below w (.cells #[.int .i64 (P : Int), .slice A l.length cap] 30)
  have hbx := box_new w (P : Int) (.slice A l.length cap) 30
  have HBX := Lib.hid hbx
  have HBI := Lib.hid ((bars_in hl).within (within_of b1) (.inr (Nat.zero_le _)))
  have HW1 := Lib.hid b1
  have HST := Lib.hid (hst.within (within_of b1) (.inr (Nat.zero_le _)))
  have HO := Lib.hid (ho.below b1)
  have hs1 : (w.alloc (.cells #[.int .i64 (P : Int), .slice A l.length cap] 30)).heap.size = w.heap.size + 1 := by simp
  have hplt := hst.lt
  have HFL := Lib.hid hFl
  have HTL := Lib.hid hTl
  have hF1 : F.length ≤ 1048576 := by omega
  have hT1 : T.length ≤ 1048576 := by omega
  clear hS hZ hgT hst ho hl hbar b1 hbx hFl hTl
  go_enter Try.func123, Try.ntmps123
  go_wp2_with fail
  generalize (w.alloc (.cells #[.int .i64 (P : Int), .slice A l.length cap] 30)) = w1 at *
  have hdr : Below w1.heap.size w1 w1.drew := (Below.refl _ _).drew
  have HST3 := Lib.hid (HST.out.kept hdr)
  have HO3 := Lib.hid (HO.out.below hdr)
  have HW3 := Lib.hid (below_on HW1.out hdr HW1.out.size)
  have HBX3 := Lib.hid (HBX.out.kept hdr)
  have HBI3 := Lib.hid (HBI.out.within (within_of hdr) (.inr (Nat.zero_le _)))
  have hz0 : w1.drew.heap.size = w1.heap.size := rfl
  have kk1 : (fun W' => W'.cell? ⟨pb, 0, none⟩ = some (.slice (some ⟨gF, 0, none⟩) F.length cF) ∧ W'.cell? ⟨pb, 1, none⟩ = some (.slice AT T.length cT)) w1 := ⟨HST.out.cells.1, HST.out.cells.2.1⟩
  clear hdr
  go_region_held3 (fun W' => W'.cell? ⟨pb, 0, none⟩ = some (.slice (some ⟨gF, 0, none⟩) F.length cF) ∧ W'.cell? ⟨pb, 1, none⟩ = some (.slice AT T.length cT))
    (first | exact kk1 | exact ⟨HST4.out.cells.1, HST4.out.cells.2.1⟩ | exact ⟨HST5.out.cells.1, HST5.out.cells.2.1⟩ | fail)
    (first
      | (go_at_call_of 142 (some (⟨gF, 0, none⟩ : Addr)); refine (slCloneI F (some ⟨gF, 0, none⟩) cF 0 _ _ HO3.out.reads.f hF1).mono ?_; rintro e w4 ⟨BF, bF, rfl, hc, hb4⟩; have HW4 := Lib.hid (below_on HW3.out hb4 HW3.out.size); have HST4 := Lib.hid (HST3.out.kept hb4); have HO4 := Lib.hid (HO3.out.below hb4); have HBX4 := Lib.hid (HBX3.out.kept hb4); have HBI4 := Lib.hid (HBI3.out.within (within_of hb4) (.inr (Nat.zero_le _))); have HCF4 := Lib.hid hc; have hz4 := hb4.size; clear hc hb4)
      | (go_at_call_of 142 AT; refine (slCloneI T AT cT 0 _ _ HO4.out.reads.t hT1).mono ?_; rintro e w5 ⟨BT, bT, rfl, hc, hb5⟩; have HW5 := Lib.hid (below_on HW4.out hb5 HW4.out.size); have HST5 := Lib.hid (HST4.out.kept hb5); have HO5 := Lib.hid (HO4.out.below hb5); have HBX5 := Lib.hid (HBX4.out.kept hb5); have HBI5 := Lib.hid (HBI4.out.within (within_of hb5) (.inr (Nat.zero_le _))); have HCF5 := Lib.hid (HCF4.out.within (within_of hb5) (.inr (Nat.zero_le _))); have HCT5 := Lib.hid hc; have hz5 := hb5.size; clear hc hb5)
      | fail)
  go_wp2_with fail
  have HI := Lib.hid (show GatI w w5 pb f t z w1.drew.heap.size w4.heap.size w4.heap.size w5.heap.size (P : Int) A cap l (some ⟨gF, 0, none⟩) cF AT cT AZ cZ BF BT F T F T Z from
    ⟨HST5.out, HO5.out, HBX5.out, HBI5.out, HCF5.out.reads, HCT5.out.reads, Within2.of (within_of HW5.out) (.inl (Nat.le_refl 0)), ⟨hplt, ⟨hhi.1, hhi.2.1⟩, by omega, by omega, by omega⟩, hpf, hpt, HBAR.out⟩)
  go_loopw [] (fun wr => ∃ F' T' : List Int, PebS P k0 (plE l Z) F' T' ∧ gathR (plE l Z) a b want (F, T) = gathR (plE l Z) a b want (F', T') ∧ GatI w wr pb f t z w1.drew.heap.size w4.heap.size w4.heap.size w5.heap.size (P : Int) A cap l (some ⟨gF, 0, none⟩) cF AT cT AZ cZ BF BT F T F' T' Z) (fun wr => (want - (intOf ((wr.cell? ⟨gF, a, none⟩).getD (.bool false)) + intOf ((wr.cell? ⟨gF, b, none⟩).getD (.bool false)))).toNat)
  case atStart => exact ⟨F, T, HS.out, rfl, HI.out⟩
  case round =>
    obtain ⟨F', T', hS', hg, hin⟩ := hrel
    have HG := Lib.hid hg
    have HS' := Lib.hid hS'
    have hfl := hS'.flen
    obtain ⟨fb, fo, e, hfc⟩ := row_at hin.own.reads.f (by omega)
    cases e
    have ha1 := hfc a (by omega)
    have hb1 := hfc b (by omega)
    rw [Nat.zero_add] at ha1 hb1
    have hsa := hS'.small (v := (a : Int)) (by omega)
    have hsb := hS'.small (v := (b : Int)) (by omega)
    rw [Int.toNat_natCast] at hsa hsb
    have HDN := Lib.hid (fun h : ¬ F'.getD a 0 + F'.getD b 0 < want => gathR_done (E := plE l Z) (a := (a : Int)) (b := (b : Int)) (want := want) (s := (F', T')) (by simpa using h))
    obtain ⟨d1, hd1⟩ : ∃ d1, F'.getD a 0 = d1 := ⟨_, rfl⟩
    obtain ⟨d2, hd2⟩ : ∃ d2, F'.getD b 0 = d2 := ⟨_, rfl⟩
    rw [hd1] at ha1 hsa HDN
    rw [hd2] at hb1 hsb HDN
    have HD := Lib.hid (And.intro hd1 hd2)
    have haF : (a : Int) < (F.length : Int) := by have := HFL.out; omega
    have hbF : (b : Int) < (F.length : Int) := by have := HFL.out; omega
    have HIN := Lib.hid hin
    have hcc := hin.st.cells.1
    clear hg hS' hfl hfc hd1 hd2 hin
    by_cases c1 : d1 + d2 < want
    · have e1 : decide (d1 + d2 < want) = true := by simpa using c1
      go_wp2_with fail
      go_big_quiet (fail)
      have HQ := Lib.hid (HIN.out.next (Within2.of (within_of (below_drewN wr.heap.size wr nq)) (.inl (Nat.le_refl 0))) (HIN.out.own.below (below_drewN wr.heap.size wr nq)))
      have hC1 : F'.getD (a : Int).toNat 0 + F'.getD (b : Int).toNat 0 < want := by rw [Int.toNat_natCast, Int.toNat_natCast, HD.out.1, HD.out.2]; exact c1
      have HC1 := Lib.hid hC1
      obtain ⟨_, gx0, gx1⟩ := HIN.out.box
      obtain ⟨r1, hr1⟩ : ∃ r1, findM (plE l Z) (a : Int) (b : Int) (F', T') = r1 := ⟨_, rfl⟩
      cases r1 with
      | some s' =>
        have HF1 := Lib.hid hr1
        have HK := Lib.hid (show PebS P k0 (plE l Z) s'.1 s'.2 ∧ s'.1.getD a 0 + s'.1.getD b 0 = d1 + d2 + 1 from by
          obtain ⟨k1, k2, k3⟩ := findM_ok HS'.out (a := (a : Int)) (b := (b : Int)) (by omega) (by omega) (by omega) HF1.out
          rw [Int.toNat_natCast] at k2 k3
          refine ⟨k1, ?_⟩
          rw [k2, k3, HD.out.1, HD.out.2]; omega)
        clear hr1 hC1
        go_wp2_with (go_at_call 163; refine (HQ.out.pull_yes (a := (a : Int)) (b := (b : Int)) HS.out HS'.out hP hk0 hn hz24 HZ.out ⟨by omega, by omega⟩ ⟨by omega, by omega⟩ HGT.out HF1.out).mono ?_; rintro e w6 ⟨rfl, h6⟩; obtain ⟨_, gy6, gz6⟩ := h6.box; have H6 := Lib.hid h6; clear h6)
        go_roundw
        case rel => exact ⟨s'.1, s'.2, HK.out.1, HG.out.trans (gathR_one HC1.out HF1.out (by rw [Int.toNat_natCast, Int.toNat_natCast]; show s'.1.getD a 0 + s'.1.getD b 0 = F'.getD a 0 + F'.getD b 0 + 1; rw [HK.out.2, HD.out.1, HD.out.2])), H6.out⟩
        case measure =>
          have hlen : s'.1.length = P := HK.out.1.flen
          obtain ⟨fb, fo, e, hfc⟩ := row_at H6.out.own.reads.f (by omega)
          cases e
          have q1 := hfc a (by omega)
          have q2 := hfc b (by omega)
          rw [Nat.zero_add] at q1 q2
          have q3 := HK.out.2
          rw [q1, q2, ha1, hb1]
          simp only [Option.getD_some, intOf]
          omega

      | none =>
        have HF1 := Lib.hid hr1
        obtain ⟨r2, hr2⟩ : ∃ r2, findM (plE l Z) (b : Int) (a : Int) (F', T') = r2 := ⟨_, rfl⟩
        cases r2 with
        | some s' =>
          have HF2 := Lib.hid hr2
          have HK := Lib.hid (show PebS P k0 (plE l Z) s'.1 s'.2 ∧ s'.1.getD a 0 + s'.1.getD b 0 = d1 + d2 + 1 from by
            obtain ⟨k1, k2, k3⟩ := findM_ok HS'.out (a := (b : Int)) (b := (a : Int)) (by omega) (by omega) (by omega) HF2.out
            rw [Int.toNat_natCast] at k2 k3
            refine ⟨k1, ?_⟩
            rw [k2, k3, HD.out.1, HD.out.2]; omega)
          clear hr1 hr2 hC1
          go_wp2_with (first
            | (go_at_call 163; refine (H6.out.pull_yes (a := (b : Int)) (b := (a : Int)) HS.out HS'.out hP hk0 hn hz24 HZ.out ⟨by omega, by omega⟩ ⟨by omega, by omega⟩ HGT.out HF2.out).mono ?_; rintro e w7 ⟨rfl, h7⟩; obtain ⟨_, gy7, gz7⟩ := h7.box; have H7 := Lib.hid h7; clear h7)
            | (go_at_call 163; refine (HQ.out.pull_no (a := (a : Int)) (b := (b : Int)) HS.out HS'.out hP hk0 hn hz24 HZ.out ⟨by omega, by omega⟩ ⟨by omega, by omega⟩ HGT.out HF1.out).mono ?_; rintro e w6 ⟨rfl, h6⟩; obtain ⟨_, gy6, gz6⟩ := h6.box; have H6 := Lib.hid h6; clear h6))
          go_roundw
          case rel => exact ⟨s'.1, s'.2, HK.out.1, HG.out.trans (gathR_two HC1.out HF1.out HF2.out (by rw [Int.toNat_natCast, Int.toNat_natCast]; show s'.1.getD a 0 + s'.1.getD b 0 = F'.getD a 0 + F'.getD b 0 + 1; rw [HK.out.2, HD.out.1, HD.out.2])), H7.out⟩
          case measure =>
            have hlen : s'.1.length = P := HK.out.1.flen
            obtain ⟨fb, fo, e, hfc⟩ := row_at H7.out.own.reads.f (by omega)
            cases e
            have q1 := hfc a (by omega)
            have q2 := hfc b (by omega)
            rw [Nat.zero_add] at q1 q2
            have q3 := HK.out.2
            rw [q1, q2, ha1, hb1]
            simp only [Option.getD_some, intOf]
            omega

        | none =>
          have HF2 := Lib.hid hr2
          have HLF := Lib.hid (show F'.length = F.length by rw [HS'.out.flen, HFL.out])
          have HLT := Lib.hid (show T'.length = T.length by rw [HS'.out.ends.len, HS.out.ends.len])
          clear hr1 hr2 hC1
          go_wp2_with (first
            | (go_at_call 163; refine (H6.out.pull_no (a := (b : Int)) (b := (a : Int)) HS.out HS'.out hP hk0 hn hz24 HZ.out ⟨by omega, by omega⟩ ⟨by omega, by omega⟩ HGT.out HF2.out).mono ?_; rintro e w7 ⟨rfl, h7⟩; obtain ⟨of7, ot7, oz7, x1, x2, x3⟩ := h7.own; obtain ⟨v0, v1, _, _, _, _⟩ := h7.st.cells; have OF := Lib.hid of7; have OT := Lib.hid ot7; have OZ := Lib.hid oz7; clear of7 ot7 oz7; have H7 := Lib.hid h7; clear h7)
            | (go_at_call 163; refine (HQ.out.pull_no (a := (a : Int)) (b := (b : Int)) HS.out HS'.out hP hk0 hn hz24 HZ.out ⟨by omega, by omega⟩ ⟨by omega, by omega⟩ HGT.out HF1.out).mono ?_; rintro e w6 ⟨rfl, h6⟩; obtain ⟨_, gy6, gz6⟩ := h6.box; have H6 := Lib.hid h6; clear h6)
            | (with_reducible refine wpList_back rfl _ _ rfl AT BT T' T cT bT t.1 t.2 _ _ T.length rfl rfl (OT.out.within HW8.out (by unfold Dis at x1; omega)) (H7.out.ct.within HW8.out (by have := H7.out.low; omega)) HLT.out.symm HLT.out.symm ?_; intro w9 ot9 hw9; have OT9 := Lib.hid ot9; have HW9 := Lib.hid hw9; clear ot9 hw9)
            | (with_reducible refine wpList_back rfl _ _ rfl (some ⟨gF, 0, none⟩) BF F' F cF bF f.1 f.2 _ _ F.length rfl rfl OF.out H7.out.cf HLF.out.symm HLF.out.symm ?_; intro w8 of8 hw8; have OF8 := Lib.hid of8; have HW8 := Lib.hid hw8; have HST8 := Lib.hid (H7.out.st.within hw8 H7.out.outf); obtain ⟨u0, u1, _, _, _, _⟩ := HST8.out.cells; clear of8 hw8))
          go_ret
          refine ⟨(H7.out.wit.trans (Within2.of HW8.out (by omega))).trans (Within2.of HW9.out (by omega)), .inl ⟨rfl, by rw [HG.out]; exact gathR_no HC1.out HF1.out HF2.out, ?_⟩⟩
          unfold Dis at x1 x2 x3
          have k8 := HW8.out.size
          have k9 := HW9.out.size
          exact ⟨OF8.out.within HW9.out (by omega), OT9.out, (OZ.out.within HW8.out (by omega)).within HW9.out (by omega), x1, x2, x3⟩
    · have e1 : decide (d1 + d2 < want) = false := by simpa using c1
      go_wp2_with fail
      go_big_quiet (fail)
      go_wp2_with fail
      go_ret
      have HQ := Lib.hid (HIN.out.next (Within2.of (within_of (below_drewN wr.heap.size wr nq)) (.inl (Nat.le_refl 0))) (HIN.out.own.below (below_drewN wr.heap.size wr nq)))
      exact ⟨HQ.out.wit, .inr ⟨(F', T'), rfl, by rw [HG.out]; exact HDN.out c1, HQ.out.own⟩⟩
end Go.Proofs.Ytedjhnedkghhoaa
/- What (*Pebbles).place does. No condition. -/
namespace Go.Proofs.Ytedjhnedkghhoaa
open Go.RowKit

set_option maxHeartbeats 8000000 in
set_option maxRecDepth 100000 in
theorem place_c (P : Nat) (k0 : Int) (l : List (Int × Int)) (A : Option Addr) (cap pb B : Nat) (f t z : Nat × Nat) (AF AT AZ : Option Addr) (cF cT cZ : Nat) (F T Z : List Int) (c : Int) (n : Nat) (w : World) (hI : IsPeb (P : Int) k0 l F T Z) (hc : 0 ≤ c ∧ c ≤ 100) (hn : n < l.length)
    (hl : BarsIn w 0 B A l) (hst : Cel3 w pb 58 (.slice AF F.length cF) (.slice AT T.length cT) (.slice AZ Z.length cZ)) (ho : OwnF w f t z AF cF AT cT AZ cZ F T Z) (hB : B ≤ w.heap.size ∧ B ≤ pb ∧ B ≤ f.1 ∧ B ≤ t.1 ∧ B ≤ z.1) (hpf : pb < f.1 ∨ f.2 ≤ pb) (hpt : pb < t.1 ∨ t.2 ≤ pb) (hpz : pb < z.1 ∨ z.2 ≤ pb) (ht12 : t.1 ≤ w.heap.size) (hz12 : z.1 ≤ w.heap.size) :
    Calls Try.prog 111 #[.pointer (some ⟨pb, 0, none⟩), .agg #[.int .i64 (P : Int), .slice A l.length cap], .int .i64 c, .int .i64 (n : Int)] w (PlaceP w B pb f t z AF cF AT cT AZ cZ l c F T Z (n : Int)) := by
  have hFP : F.length = P := by have := hI.2.2.1; omega
  have hS := hI.state
  rw [hFP] at hS
  have hOB := hI.1.2.2 n hn
  unfold OkBar at hOB
  have hP8 := hI.1.1
  have hl24 := hI.1.2.1
  have hz24 : Z.length ≤ 24 := by have := hI.many; omega
  have hz24t : T.length ≤ 24 := by have := hI.2.2.2.1; omega
  have hk := hI.2.1
  have hbar : 0 < l.length → ∀ g off, A = some ⟨g, off, none⟩ → (g < f.1 ∨ f.2 ≤ g) ∧ (g < t.1 ∨ t.2 ≤ g) := fun h0 g off e => by
    obtain ⟨b, o, e1, _, h2, _⟩ := hl.2 h0
    rw [e] at e1
    cases e1
    omega
  obtain ⟨bb, boff, rfl, _, hbc⟩ := hl.at (by omega)
  have hx1 := (hbc n hn).1
  have hx2 := (hbc n hn).2
  obtain ⟨x, hxd⟩ : ∃ x, l.getD n (0, 0) = x := ⟨_, rfl⟩
  rw [hxd] at hx1 hx2 hOB
  obtain ⟨x1, x2⟩ := x
  simp only at hx1 hx2 hOB
  obtain ⟨a, rfl⟩ : ∃ a : Nat, x1 = (a : Int) := ⟨x1.toNat, by omega⟩
  obtain ⟨b, rfl⟩ : ∃ b : Nat, x2 = (b : Int) := ⟨x2.toNat, by omega⟩
  have HX := Lib.hid hxd
  have HS := Lib.hid hS
  have HZ := Lib.hid (fun i hi => (hI.2.2.2.2.1 i hi).1)
  have HBAR := Lib.hid hbar
  have hni : (n : Int) < (l.length : Int) := by omega
  have b1 := new_below w (.cells #[.int .i64 (P : Int), .slice (some ⟨bb, boff, none⟩) l.length cap] 30)
  have b2 := new_below (w.alloc (.cells #[.int .i64 (P : Int), .slice (some ⟨bb, boff, none⟩) l.length cap] 30)) (.cells #[.int .i64 (a : Int), .int .i64 (b : Int)] 103)
  have hb12 := below_on b1 b2 b1.size
  have HW := Lib.hid hb12
  have HBX := Lib.hid ((box_new w (P : Int) (.slice (some ⟨bb, boff, none⟩) l.length cap) 30).kept b2)
  have HBI := Lib.hid (hl.within (within_of hb12) (.inr (Nat.zero_le _)))
  have hb3 := box_new (w.alloc (.cells #[.int .i64 (P : Int), .slice (some ⟨bb, boff, none⟩) l.length cap] 30)) (a : Int) (.int .i64 (b : Int)) 103
  rw [show (w.alloc (.cells #[.int .i64 (P : Int), .slice (some ⟨bb, boff, none⟩) l.length cap] 30)).heap.size = w.heap.size + 1 by simp] at hb3
  have HB3 := Lib.hid hb3
  clear hb3
  have HST := Lib.hid (hst.kept hb12)
  have HO := Lib.hid (ho.below hb12)
  have hplt := hst.lt
  have hh := ho.hi
  have HTT := Lib.hid hI.2.2.2.1
  have HFP := Lib.hid hFP
  clear hI hS hxd hbc hbar b1 b2 hb12 hl hst ho hFP
  go_enter Try.func111, Try.ntmps111
  go_wp2_with fail
  refine (gather_c P k0 l (some ⟨bb, boff, none⟩) cap pb f t z AF AT AZ cF cT cZ F T Z a b (c + 1) _ HS.out (by omega) (by omega) hl24 hz24 HZ.out (by omega) (by omega) (by omega) HBI.out.at HST.out HO.out hpf hpt HBAR.out).mono ?_
  rintro e w3 ⟨hw, ⟨rfl, hg, ho⟩ | ⟨s', rfl, hg, ho⟩⟩
  · have HW3 := Lib.hid (below_low2 ((Within2.of (within_of HW.out) (.inl (Nat.le_refl 0))).trans hw) hB.2.2.1 hB.2.2.2.1 hB.1)
    have HO3 := Lib.hid ho
    have HG := Lib.hid hg
    have HST3 := Lib.hid (HST.out.at hw hpf hpt)
    clear hw ho hg
    go_wp2_with fail
    go_ret
    exact ⟨HW3.out, .inl ⟨rfl, by unfold plaR; rw [Int.toNat_natCast, HX.out, HG.out]; rfl, HO3.out, HST3.out⟩⟩
  · obtain ⟨hq, _⟩ := gathR_ok (P := P) (by omega) (by omega) (by omega) HS.out hg
    have HL1 := Lib.hid (show s'.1.length = F.length by rw [hq.flen, HFP.out])
    have HL2 := Lib.hid (show s'.2.length = T.length by rw [hq.ends.len, HS.out.ends.len])
    have hst3 := HST.out.at hw hpf hpt
    rw [← HL1.out, ← HL2.out] at hst3
    have HST3 := Lib.hid hst3
    have HB := Lib.hid (HB3.out.at hw (by omega) (by omega))
    have HW3 := Lib.hid (below_low2 ((Within2.of (within_of HW.out) (.inl (Nat.le_refl 0))).trans hw) hB.2.2.1 hB.2.2.2.1 hB.1)
    have hsa := hq.small (v := (a : Int)) (by omega)
    have hsb := hq.small (v := (b : Int)) (by omega)
    rw [Int.toNat_natCast] at hsa hsb
    have hfl := hq.flen
    obtain ⟨F', T'⟩ := s'
    simp only at hsa hsb hfl hst3 ho HST3 HL1 HL2
    obtain ⟨gF, rfl, g1, g2, hF⟩ := ho.1.open_ (by omega)
    have ha1 := (hF.cellAt a (by omega)).trans (intCells_get F' a (by omega))
    have hb1 := (hF.cellAt b (by omega)).trans (intCells_get F' b (by omega))
    have hfa := hF.frozenAt a
    have hfb := hF.frozenAt b
    have HF := Lib.hid hF
    have HO3 := Lib.hid ho
    have HG := Lib.hid hg
    have haF : (a : Int) < (F'.length : Int) := by omega
    have hbF : (b : Int) < (F'.length : Int) := by omega
    obtain ⟨d1, hd1⟩ : ∃ d1, F'.getD a 0 = d1 := ⟨_, rfl⟩
    obtain ⟨d2, hd2⟩ : ∃ d2, F'.getD b 0 = d2 := ⟨_, rfl⟩
    rw [hd1] at ha1 hsa
    rw [hd2] at hb1 hsb
    have HD := Lib.hid (And.intro hd1 hd2)
    have HFL := Lib.hid hfl
    have HTL := Lib.hid (show T'.length ≤ 24 by rw [HL2.out]; exact hz24t)
    have hs3 : w.heap.size ≤ w3.heap.size := HW3.out.size
    obtain ⟨hc0, hc1, hc2, hz0, hz1, hz2⟩ := hst3.cells
    obtain ⟨_, y0, y1⟩ := HB.out
    have hpb1 : w.heap.size ≠ pb := by omega
    have hpb2 : w.heap.size + 1 ≠ pb := by omega
    clear hq hst3 hd1 hd2 hfl hF ho hg hw
    have hgp : gF ≠ pb := by omega
    by_cases c1 : d1 = 0
    · have e1 : (d1 == 0) = true := by simpa using c1
      have hw4 := within_set w3 gF b (.int .i64 (d2 - 1))
      obtain ⟨o1, o2, o3, x1, x2, x3⟩ := HO3.out
      have HXX := Lib.hid (And.intro x1 (And.intro x2 x3))
      unfold Dis at x1 x2 x3
      have HT4 := Lib.hid (o2.within hw4 (by omega))
      have HZ4 := Lib.hid (o3.within hw4 (by omega))
      have HF4 := Lib.hid (show (w3.setCell ⟨gF, b, none⟩ (.int .i64 (d2 - 1))).ownsRow 0 3 1 (.slice (some ⟨gF, 0, none⟩) (F'.set b (d2 - 1)).length cF) (F'.set b (d2 - 1)).length (intCells (F'.set b (d2 - 1))) from by
        have h1 := (HF.out.stored b (.int .i64 (d2 - 1))).1
        rw [intCells_set] at h1
        rw [List.length_set]
        exact h1)
      have HST4 := Lib.hid (HST3.out.within hw4 (by omega))
      have HTW := Lib.hid (show t.1 ≤ (w3.setCell ⟨gF, b, none⟩ (.int .i64 (d2 - 1))).heap.size from Nat.le_trans ht12 (Nat.le_trans hs3 hw4.size))
      have HZV := Lib.hid (show z.1 ≤ (w3.setCell ⟨gF, b, none⟩ (.int .i64 (d2 - 1))).heap.size from Nat.le_trans hz12 (Nat.le_trans hs3 hw4.size))
      have HW4 := Lib.hid hw4
      obtain ⟨m0, m1, m2, m3, m4, m5⟩ := HST4.out.cells
      clear o1 o2 o3 x1 x2 x3 hw4
      go_wp2_with (first
        | (at_builtin; refine wpList_pushR _ rfl _ _ rfl z.1 z.2 AZ cZ Z (n : Int) rfl HZ6.out _ (by first | rfl | (simp only [World.size_setCell]; rfl)) (by omega) HZW.out ?_; intro A7 c7 w7 lo7 hi7 hr7 hor7 hw7; have HR7 := Lib.hid hr7; have HOR7 := Lib.hid hor7; have HW7 := Lib.hid hw7; have HST7 := Lib.hid (HST6.out.within hw7 hpz); obtain ⟨r0, r1, r2, r3, r4, r5⟩ := HST7.out.cells; clear hr7 hor7 hw7)
        | (at_builtin; refine wpList_pushR _ rfl _ _ rfl t.1 t.2 AT cT T' (b : Int) rfl HT4.out _ (by first | rfl | (simp only [World.size_setCell]; rfl)) (by have := HTL.out; omega) HTW.out ?_; intro A5 c5 w5 lo5 hi5 hr5 hor5 hw5; have HR5 := Lib.hid hr5; have HOR5 := Lib.hid hor5; have HW5 := Lib.hid hw5; have HST5 := Lib.hid (HST4.out.within hw5 hpt); have HST6 := Lib.hid (HST5.out.set1 (.slice A5 (T'.length + 1) c5)); have HZ6 := Lib.hid ((HZ4.out.within hw5 (by have := HXX.out.2.2; unfold Dis at this; omega)).within (within_set w5 pb 1 (.slice A5 (T'.length + 1) c5)) (by omega)); have HZW := Lib.hid (show z.1 ≤ (w5.setCell ⟨pb, 1, none⟩ (.slice A5 (T'.length + 1) c5)).heap.size from by rw [World.size_setCell]; exact Nat.le_trans HZV.out hw5.size); obtain ⟨p0, p1, p2, p3, p4, p5⟩ := HST5.out.cells; obtain ⟨u0, u1, u2, u3, u4, u5⟩ := HST6.out.cells; clear hr5 hor5 hw5))
      go_ret
      have hr5 := HR5.out
      have hr7 := HR7.out
      have hor5 := HOR5.out
      have hor7 := HOR7.out
      have w4 := HW4.out
      have w5w := HW5.out
      have w7w := HW7.out
      have xx := HXX.out
      have q5 := within_set w5 pb 1 (.slice A5 (T'.length + 1) c5)
      have q7 := within_set w7 pb 2 (.slice A7 (Z.length + 1) c7)
      have s4 := w4.size
      have s5 := w5w.size
      have s6 := q5.size
      have s7 := w7w.size
      have s8 := q7.size
      unfold Dis at xx
      have hB' := hB
      have e4 : (w3.setCell ⟨gF, b, none⟩ (.int .i64 (d2 - 1))).heap.size = w3.heap.size := by simp
      have e6 : (w5.setCell ⟨pb, 1, none⟩ (.slice A5 (T'.length + 1) c5)).heap.size = w5.heap.size := by simp
      have e8 : (w7.setCell ⟨pb, 2, none⟩ (.slice A7 (Z.length + 1) c7)).heap.size = w7.heap.size := by simp
      have hbel : Below B w (w7.setCell ⟨pb, 2, none⟩ (.slice A7 (Z.length + 1) c7)) := ((((HW3.out.trans (below_low w4 (by omega) (by omega))).trans (below_low w5w (by omega) (by omega))).trans (below_low q5 (by omega) (by omega))).trans (below_low w7w (by omega) (by omega))).trans (below_low q7 (by omega) (by omega))
      have hf8 := own_block (own_block (own_block (own_block HF4.out (w5w.block gF (HF4.out.lt gF rfl).2 (by omega))) (q5.block gF (by have := (HF4.out.lt gF rfl).2; omega) (by omega))) (w7w.block gF (by have := (HF4.out.lt gF rfl).2; omega) (by omega))) (q7.block gF (by have := (HF4.out.lt gF rfl).2; omega) (by omega))
      have ht8 := ((hr5.within q5 (by omega)).within w7w (by omega)).within q7 (by omega)
      have hz8 := hr7.within q7 (by omega)
      have hc8 := HST7.out.set2 (.slice A7 (Z.length + 1) c7)
      refine ⟨hbel, .inr ⟨(F'.set b (d2 - 1), (T' ++ [(b : Int)]), (Z ++ [(n : Int)])), A5, c5, A7, c7, (lo5, hi5), (lo7, hi7), rfl, ?_, ⟨⟨by show f.2 ≤ _; omega, .inr ⟨gF, rfl, g1, g2, own_rebase hf8 g1⟩⟩, ht8, hz8, ?_, ?_, ?_⟩, ?_, ?_, ?_⟩⟩
      · unfold plaR
        rw [Int.toNat_natCast, HX.out, HG.out]
        simp only [Option.map_some, Int.toNat_natCast, HD.out.1, HD.out.2]
        rw [if_pos c1]
      · unfold Dis; show f.2 ≤ lo5 ∨ hi5 ≤ f.1; omega
      · unfold Dis; show f.2 ≤ lo7 ∨ hi7 ≤ f.1; omega
      · unfold Dis; show hi5 ≤ lo7 ∨ hi7 ≤ lo5; omega
      · show Cel3 _ pb _ (.slice _ (F'.set b (d2 - 1)).length _) (.slice _ (T' ++ [(b : Int)]).length _) (.slice _ (Z ++ [(n : Int)]).length _)
        rw [List.length_set, List.length_append, List.length_append]
        exact hc8
      · rcases hor5 with ⟨rfl, rfl⟩ | h
        · exact .inl rfl
        · exact .inr ⟨by show w.heap.size ≤ lo5; omega, by show lo5 ≤ _; omega⟩
      · rcases hor7 with ⟨rfl, rfl⟩ | h
        · exact .inl rfl
        · exact .inr ⟨by show w.heap.size ≤ lo7; omega, by show lo7 ≤ _; omega⟩
    · have e1 : (d1 == 0) = false := by simpa using c1
      have hw4 := within_set w3 gF a (.int .i64 (d1 - 1))
      obtain ⟨o1, o2, o3, x1, x2, x3⟩ := HO3.out
      have HXX := Lib.hid (And.intro x1 (And.intro x2 x3))
      unfold Dis at x1 x2 x3
      have HT4 := Lib.hid (o2.within hw4 (by omega))
      have HZ4 := Lib.hid (o3.within hw4 (by omega))
      have HF4 := Lib.hid (show (w3.setCell ⟨gF, a, none⟩ (.int .i64 (d1 - 1))).ownsRow 0 3 1 (.slice (some ⟨gF, 0, none⟩) (F'.set a (d1 - 1)).length cF) (F'.set a (d1 - 1)).length (intCells (F'.set a (d1 - 1))) from by
        have h1 := (HF.out.stored a (.int .i64 (d1 - 1))).1
        rw [intCells_set] at h1
        rw [List.length_set]
        exact h1)
      have HST4 := Lib.hid (HST3.out.within hw4 (by omega))
      have HTW := Lib.hid (show t.1 ≤ (w3.setCell ⟨gF, a, none⟩ (.int .i64 (d1 - 1))).heap.size from Nat.le_trans ht12 (Nat.le_trans hs3 hw4.size))
      have HZV := Lib.hid (show z.1 ≤ (w3.setCell ⟨gF, a, none⟩ (.int .i64 (d1 - 1))).heap.size from Nat.le_trans hz12 (Nat.le_trans hs3 hw4.size))
      have HW4 := Lib.hid hw4
      obtain ⟨m0, m1, m2, m3, m4, m5⟩ := HST4.out.cells
      clear o1 o2 o3 x1 x2 x3 hw4
      go_wp2_with (first
        | (at_builtin; refine wpList_pushR _ rfl _ _ rfl z.1 z.2 AZ cZ Z (n : Int) rfl HZ6.out _ (by first | rfl | (simp only [World.size_setCell]; rfl)) (by omega) HZW.out ?_; intro A7 c7 w7 lo7 hi7 hr7 hor7 hw7; have HR7 := Lib.hid hr7; have HOR7 := Lib.hid hor7; have HW7 := Lib.hid hw7; have HST7 := Lib.hid (HST6.out.within hw7 hpz); obtain ⟨r0, r1, r2, r3, r4, r5⟩ := HST7.out.cells; clear hr7 hor7 hw7)
        | (at_builtin; refine wpList_pushR _ rfl _ _ rfl t.1 t.2 AT cT T' (a : Int) rfl HT4.out _ (by first | rfl | (simp only [World.size_setCell]; rfl)) (by have := HTL.out; omega) HTW.out ?_; intro A5 c5 w5 lo5 hi5 hr5 hor5 hw5; have HR5 := Lib.hid hr5; have HOR5 := Lib.hid hor5; have HW5 := Lib.hid hw5; have HST5 := Lib.hid (HST4.out.within hw5 hpt); have HST6 := Lib.hid (HST5.out.set1 (.slice A5 (T'.length + 1) c5)); have HZ6 := Lib.hid ((HZ4.out.within hw5 (by have := HXX.out.2.2; unfold Dis at this; omega)).within (within_set w5 pb 1 (.slice A5 (T'.length + 1) c5)) (by omega)); have HZW := Lib.hid (show z.1 ≤ (w5.setCell ⟨pb, 1, none⟩ (.slice A5 (T'.length + 1) c5)).heap.size from by rw [World.size_setCell]; exact Nat.le_trans HZV.out hw5.size); obtain ⟨p0, p1, p2, p3, p4, p5⟩ := HST5.out.cells; obtain ⟨u0, u1, u2, u3, u4, u5⟩ := HST6.out.cells; clear hr5 hor5 hw5))
      go_ret
      have hr5 := HR5.out
      have hr7 := HR7.out
      have hor5 := HOR5.out
      have hor7 := HOR7.out
      have w4 := HW4.out
      have w5w := HW5.out
      have w7w := HW7.out
      have xx := HXX.out
      have q5 := within_set w5 pb 1 (.slice A5 (T'.length + 1) c5)
      have q7 := within_set w7 pb 2 (.slice A7 (Z.length + 1) c7)
      have s4 := w4.size
      have s5 := w5w.size
      have s6 := q5.size
      have s7 := w7w.size
      have s8 := q7.size
      unfold Dis at xx
      have hB' := hB
      have e4 : (w3.setCell ⟨gF, a, none⟩ (.int .i64 (d1 - 1))).heap.size = w3.heap.size := by simp
      have e6 : (w5.setCell ⟨pb, 1, none⟩ (.slice A5 (T'.length + 1) c5)).heap.size = w5.heap.size := by simp
      have e8 : (w7.setCell ⟨pb, 2, none⟩ (.slice A7 (Z.length + 1) c7)).heap.size = w7.heap.size := by simp
      have hbel : Below B w (w7.setCell ⟨pb, 2, none⟩ (.slice A7 (Z.length + 1) c7)) := ((((HW3.out.trans (below_low w4 (by omega) (by omega))).trans (below_low w5w (by omega) (by omega))).trans (below_low q5 (by omega) (by omega))).trans (below_low w7w (by omega) (by omega))).trans (below_low q7 (by omega) (by omega))
      have hf8 := own_block (own_block (own_block (own_block HF4.out (w5w.block gF (HF4.out.lt gF rfl).2 (by omega))) (q5.block gF (by have := (HF4.out.lt gF rfl).2; omega) (by omega))) (w7w.block gF (by have := (HF4.out.lt gF rfl).2; omega) (by omega))) (q7.block gF (by have := (HF4.out.lt gF rfl).2; omega) (by omega))
      have ht8 := ((hr5.within q5 (by omega)).within w7w (by omega)).within q7 (by omega)
      have hz8 := hr7.within q7 (by omega)
      have hc8 := HST7.out.set2 (.slice A7 (Z.length + 1) c7)
      refine ⟨hbel, .inr ⟨(F'.set a (d1 - 1), (T' ++ [(a : Int)]), (Z ++ [(n : Int)])), A5, c5, A7, c7, (lo5, hi5), (lo7, hi7), rfl, ?_, ⟨⟨by show f.2 ≤ _; omega, .inr ⟨gF, rfl, g1, g2, own_rebase hf8 g1⟩⟩, ht8, hz8, ?_, ?_, ?_⟩, ?_, ?_, ?_⟩⟩
      · unfold plaR
        rw [Int.toNat_natCast, HX.out, HG.out]
        simp only [Option.map_some, Int.toNat_natCast, HD.out.1, HD.out.2]
        rw [if_neg c1]
      · unfold Dis; show f.2 ≤ lo5 ∨ hi5 ≤ f.1; omega
      · unfold Dis; show f.2 ≤ lo7 ∨ hi7 ≤ f.1; omega
      · unfold Dis; show hi5 ≤ lo7 ∨ hi7 ≤ lo5; omega
      · show Cel3 _ pb _ (.slice _ (F'.set a (d1 - 1)).length _) (.slice _ (T' ++ [(a : Int)]).length _) (.slice _ (Z ++ [(n : Int)]).length _)
        rw [List.length_set, List.length_append, List.length_append]
        exact hc8
      · rcases hor5 with ⟨rfl, rfl⟩ | h
        · exact .inl rfl
        · exact .inr ⟨by show w.heap.size ≤ lo5; omega, by show lo5 ≤ _; omega⟩
      · rcases hor7 with ⟨rfl, rfl⟩ | h
        · exact .inl rfl
        · exact .inr ⟨by show w.heap.size ≤ lo7; omega, by show lo7 ≤ _; omega⟩
end Go.Proofs.Ytedjhnedkghhoaa
/- What impl.NewPebbles answers: the two other rows are nil. No condition. -/
namespace Go.Proofs.Ytedjhnedkghhoaa
open Go.RowKit

/-- A new state and a bool: the free pebbles in a row of the call's own, the other rows nil. -/
def NewOB (w : World) (F : List Int) (r : Bool) (e : Ending) (w' : World) : Prop :=
  ∃ (AF : Option Addr) (cF a b : Nat), e = .returned (.tuple #[pebV AF F.length cF none 0 0 none 0 0, .bool r]) ∧ OwnInts w' a b AF cF F ∧ w.heap.size ≤ a ∧ b ≤ w'.heap.size ∧ Below w.heap.size w w'

set_option maxHeartbeats 2000000 in
set_option maxRecDepth 100000 in
theorem implNewN (p k : Int) (l : List (Int × Int)) (A : Option Addr) (cap : Nat) (w : World) (hl : BarsAt w w.heap.size A l) (hn : l.length ≤ 1048576) :
    Calls Try.prog 59 #[.agg #[.int .i64 p, .slice A l.length cap], .int .i64 k] w (NewOB w (newF p k l) (newB p k l)) := by
  have HISG : ∀ W : World, BarsAt W W.heap.size A l → Calls Try.prog 102 #[.agg #[.int .i64 p, .slice A l.length cap]] W fun e w' => e = .returned (.bool (isGB p l)) ∧ Below W.heap.size W w' := fun W h => implIsGraph p l A cap W h hn
  by_cases hbad : isGB p l = false ∨ k < 1 ∨ 3 < k
  · have HR := Lib.hid (new_no hbad)
    rcases hg : isGB p l with _ | _
    · skip
      rw [hg] at HISG
      clear hbad
      have W0 := Lib.hid (Below.refl w.heap.size w)
      have HB_0 := Lib.hid (bars_in hl)
      clear hl
      have Z1 := Lib.hid (within_alloc w (.cells #[.int .i64 p, (.slice A l.length cap)] 30)).size
      have W1 := Lib.hid (within_on W0.out (within_alloc w (.cells #[.int .i64 p, (.slice A l.length cap)] 30)) W0.out.size (.inr (Nat.le_refl _)))
      have HB_1 := Lib.hid (HB_0.out.within (within_alloc w (.cells #[.int .i64 p, (.slice A l.length cap)] 30)) (by omega))
      have Y1 := Lib.hid (show (w.alloc (.cells #[.int .i64 p, (.slice A l.length cap)] 30)).heap.size = w.heap.size + 1 by simp)
      have hnew := box_new w p (.slice A l.length cap) 30
      have BX_1 := Lib.hid hnew
      clear hnew
      have Z2 := Lib.hid (within_alloc (w.alloc (.cells #[.int .i64 p, (.slice A l.length cap)] 30)) (.cells #[(.slice none 0 0), (.slice none 0 0), (.slice none 0 0)] 58)).size
      have W2 := Lib.hid (within_on W1.out (within_alloc (w.alloc (.cells #[.int .i64 p, (.slice A l.length cap)] 30)) (.cells #[(.slice none 0 0), (.slice none 0 0), (.slice none 0 0)] 58)) W1.out.size (.inr (Nat.le_refl _)))
      have HB_2 := Lib.hid (HB_1.out.within (within_alloc (w.alloc (.cells #[.int .i64 p, (.slice A l.length cap)] 30)) (.cells #[(.slice none 0 0), (.slice none 0 0), (.slice none 0 0)] 58)) (by omega))
      have BX_2 := Lib.hid (BX_1.out.within (within_alloc (w.alloc (.cells #[.int .i64 p, (.slice A l.length cap)] 30)) (.cells #[(.slice none 0 0), (.slice none 0 0), (.slice none 0 0)] 58)) (by omega))
      have Y2 := Lib.hid (show ((w.alloc (.cells #[.int .i64 p, (.slice A l.length cap)] 30)).alloc (.cells #[(.slice none 0 0), (.slice none 0 0), (.slice none 0 0)] 58)).heap.size = (w.alloc (.cells #[.int .i64 p, (.slice A l.length cap)] 30)).heap.size + 1 by simp)
      have hnew := cel3_new (w.alloc (.cells #[.int .i64 p, (.slice A l.length cap)] 30)) (.slice none 0 0) (.slice none 0 0) (.slice none 0 0) 58
      rw [show (w.alloc (.cells #[.int .i64 p, (.slice A l.length cap)] 30)).heap.size = w.heap.size + 1 by simp] at hnew
      have GR_2 := Lib.hid hnew
      clear hnew
      go_enter Try.func59, Try.ntmps59
      obtain ⟨g0_0, g0_1, g0_2⟩ := BX_2.out
      go_wp2_with fail
      clear g0_0 g0_1 g0_2
      generalize ((w.alloc (.cells #[.int .i64 p, (.slice A l.length cap)] 30)).alloc (.cells #[(.slice none 0 0), (.slice none 0 0), (.slice none 0 0)] 58)) = w2 at *
      generalize (w.alloc (.cells #[.int .i64 p, (.slice A l.length cap)] 30)) = w1 at *
      refine (HISG _ HB_2.out.at).mono ?_
      rintro e w3 ⟨rfl, hb⟩
      have Z3 := Lib.hid (within_of hb).size
      have W3 := Lib.hid (within_on W2.out (within_of hb) W2.out.size (.inr (Nat.le_refl _)))
      have HB_3 := Lib.hid (HB_2.out.within (within_of hb) (by omega))
      have BX_3 := Lib.hid (BX_2.out.within (within_of hb) (by omega))
      have GR_3 := Lib.hid (GR_2.out.within (within_of hb) (by omega))
      clear hb HISG
      obtain ⟨g1_0, g1_1, g1_2, g1_3, g1_4, g1_5⟩ := GR_3.out.cells
      have Z4 := Lib.hid ((ret3 GR_3.out (.slice none 0 0) (.slice none 0 0) (.slice none 0 0)).2).size
      have W4 := Lib.hid (within_on W3.out ((ret3 GR_3.out (.slice none 0 0) (.slice none 0 0) (.slice none 0 0)).2) W3.out.size (by have := Z1.out; have := Z2.out; have := Z3.out; have := Z4.out; have := Y1.out; have := Y2.out; omega))
      have HB_4 := Lib.hid (HB_3.out.within ((ret3 GR_3.out (.slice none 0 0) (.slice none 0 0) (.slice none 0 0)).2) (by have := Z1.out; have := Z2.out; have := Z3.out; have := Z4.out; have := Y1.out; have := Y2.out; omega))
      have BX_4 := Lib.hid (BX_3.out.within ((ret3 GR_3.out (.slice none 0 0) (.slice none 0 0) (.slice none 0 0)).2) (by have := Z1.out; have := Z2.out; have := Z3.out; have := Z4.out; have := Y1.out; have := Y2.out; omega))
      have GR_4 := Lib.hid ((ret3 GR_3.out (.slice none 0 0) (.slice none 0 0) (.slice none 0 0)).1)
      obtain ⟨g2_0, g2_1, g2_2, g2_3, g2_4, g2_5⟩ := GR_4.out.cells
      go_wp2_with fail
      generalize (((w3.setCell ⟨w.heap.size + 1, 0, none⟩ (.slice none 0 0)).setCell ⟨w.heap.size + 1, 1, none⟩ (.slice none 0 0)).setCell ⟨w.heap.size + 1, 2, none⟩ (.slice none 0 0)) = w4 at *
      refine bodyPost_ret (v := .tuple #[pebV none 0 0 none 0 0 none 0 0, .bool false]) ?_ rfl ?_
      · simp [results, Try.results59, go_sem, g2_0, g2_1, g2_2]
      · rw [HR.out.1, HR.out.2]
        exact ⟨none, 0, _, _, rfl, ⟨Nat.le_refl _, .inl rfl⟩, W4.out.size, Nat.le_refl _, W4.out⟩
    · skip
      rw [hg] at HISG
      have hk : (k < 1) ∨ (¬ k < 1 ∧ 3 < k) := by simp only [hg] at hbad; simp at hbad; omega
      clear hbad
      have W0 := Lib.hid (Below.refl w.heap.size w)
      have HB_0 := Lib.hid (bars_in hl)
      clear hl
      have Z1 := Lib.hid (within_alloc w (.cells #[.int .i64 p, (.slice A l.length cap)] 30)).size
      have W1 := Lib.hid (within_on W0.out (within_alloc w (.cells #[.int .i64 p, (.slice A l.length cap)] 30)) W0.out.size (.inr (Nat.le_refl _)))
      have HB_1 := Lib.hid (HB_0.out.within (within_alloc w (.cells #[.int .i64 p, (.slice A l.length cap)] 30)) (by omega))
      have Y1 := Lib.hid (show (w.alloc (.cells #[.int .i64 p, (.slice A l.length cap)] 30)).heap.size = w.heap.size + 1 by simp)
      have hnew := box_new w p (.slice A l.length cap) 30
      have BX_1 := Lib.hid hnew
      clear hnew
      have Z2 := Lib.hid (within_alloc (w.alloc (.cells #[.int .i64 p, (.slice A l.length cap)] 30)) (.cells #[(.slice none 0 0), (.slice none 0 0), (.slice none 0 0)] 58)).size
      have W2 := Lib.hid (within_on W1.out (within_alloc (w.alloc (.cells #[.int .i64 p, (.slice A l.length cap)] 30)) (.cells #[(.slice none 0 0), (.slice none 0 0), (.slice none 0 0)] 58)) W1.out.size (.inr (Nat.le_refl _)))
      have HB_2 := Lib.hid (HB_1.out.within (within_alloc (w.alloc (.cells #[.int .i64 p, (.slice A l.length cap)] 30)) (.cells #[(.slice none 0 0), (.slice none 0 0), (.slice none 0 0)] 58)) (by omega))
      have BX_2 := Lib.hid (BX_1.out.within (within_alloc (w.alloc (.cells #[.int .i64 p, (.slice A l.length cap)] 30)) (.cells #[(.slice none 0 0), (.slice none 0 0), (.slice none 0 0)] 58)) (by omega))
      have Y2 := Lib.hid (show ((w.alloc (.cells #[.int .i64 p, (.slice A l.length cap)] 30)).alloc (.cells #[(.slice none 0 0), (.slice none 0 0), (.slice none 0 0)] 58)).heap.size = (w.alloc (.cells #[.int .i64 p, (.slice A l.length cap)] 30)).heap.size + 1 by simp)
      have hnew := cel3_new (w.alloc (.cells #[.int .i64 p, (.slice A l.length cap)] 30)) (.slice none 0 0) (.slice none 0 0) (.slice none 0 0) 58
      rw [show (w.alloc (.cells #[.int .i64 p, (.slice A l.length cap)] 30)).heap.size = w.heap.size + 1 by simp] at hnew
      have GR_2 := Lib.hid hnew
      clear hnew
      go_enter Try.func59, Try.ntmps59
      obtain ⟨g0_0, g0_1, g0_2⟩ := BX_2.out
      go_wp2_with fail
      clear g0_0 g0_1 g0_2
      generalize ((w.alloc (.cells #[.int .i64 p, (.slice A l.length cap)] 30)).alloc (.cells #[(.slice none 0 0), (.slice none 0 0), (.slice none 0 0)] 58)) = w2 at *
      generalize (w.alloc (.cells #[.int .i64 p, (.slice A l.length cap)] 30)) = w1 at *
      refine (HISG _ HB_2.out.at).mono ?_
      rintro e w3 ⟨rfl, hb⟩
      have Z3 := Lib.hid (within_of hb).size
      have W3 := Lib.hid (within_on W2.out (within_of hb) W2.out.size (.inr (Nat.le_refl _)))
      have HB_3 := Lib.hid (HB_2.out.within (within_of hb) (by omega))
      have BX_3 := Lib.hid (BX_2.out.within (within_of hb) (by omega))
      have GR_3 := Lib.hid (GR_2.out.within (within_of hb) (by omega))
      clear hb HISG
      rcases hk with hk | ⟨hk1, hk⟩
      all_goals
        obtain ⟨g1_0, g1_1, g1_2, g1_3, g1_4, g1_5⟩ := GR_3.out.cells
        have Z4 := Lib.hid ((ret3 GR_3.out (.slice none 0 0) (.slice none 0 0) (.slice none 0 0)).2).size
        have W4 := Lib.hid (within_on W3.out ((ret3 GR_3.out (.slice none 0 0) (.slice none 0 0) (.slice none 0 0)).2) W3.out.size (by have := Z1.out; have := Z2.out; have := Z3.out; have := Z4.out; have := Y1.out; have := Y2.out; omega))
        have HB_4 := Lib.hid (HB_3.out.within ((ret3 GR_3.out (.slice none 0 0) (.slice none 0 0) (.slice none 0 0)).2) (by have := Z1.out; have := Z2.out; have := Z3.out; have := Z4.out; have := Y1.out; have := Y2.out; omega))
        have BX_4 := Lib.hid (BX_3.out.within ((ret3 GR_3.out (.slice none 0 0) (.slice none 0 0) (.slice none 0 0)).2) (by have := Z1.out; have := Z2.out; have := Z3.out; have := Z4.out; have := Y1.out; have := Y2.out; omega))
        have GR_4 := Lib.hid ((ret3 GR_3.out (.slice none 0 0) (.slice none 0 0) (.slice none 0 0)).1)
        obtain ⟨g2_0, g2_1, g2_2, g2_3, g2_4, g2_5⟩ := GR_4.out.cells
        go_wp2_with fail
        generalize (((w3.setCell ⟨w.heap.size + 1, 0, none⟩ (.slice none 0 0)).setCell ⟨w.heap.size + 1, 1, none⟩ (.slice none 0 0)).setCell ⟨w.heap.size + 1, 2, none⟩ (.slice none 0 0)) = w4 at *
        refine bodyPost_ret (v := .tuple #[pebV none 0 0 none 0 0 none 0 0, .bool false]) ?_ rfl ?_
        · simp [results, Try.results59, go_sem, g2_0, g2_1, g2_2]
        · rw [HR.out.1, HR.out.2]
          exact ⟨none, 0, _, _, rfl, ⟨Nat.le_refl _, .inl rfl⟩, W4.out.size, Nat.le_refl _, W4.out⟩
  · skip
    have hg : isGB p l = true := by
      cases h : isGB p l with
      | true => rfl
      | false => exact absurd (.inl h) hbad
    have hG : IsG p l := Classical.byContradiction fun g => by rw [isGB_no g] at hg; cases hg
    obtain ⟨P, rfl⟩ : ∃ P : Nat, p = (P : Int) := ⟨p.toNat, by have := hG.1; omega⟩
    have hP : 1 ≤ P ∧ P ≤ 8 := by have := hG.1; omega
    have hk1 : ¬ k < 1 := by omega
    have hk2 : ¬ 3 < k := by omega
    have HR := Lib.hid (new_yes (l := l) hg (by omega : 1 ≤ k) (by omega))
    rw [hg] at HISG
    clear hbad hG hg
    have W0 := Lib.hid (Below.refl w.heap.size w)
    have HB_0 := Lib.hid (bars_in hl)
    clear hl
    have Z1 := Lib.hid (within_alloc w (.cells #[.int .i64 (P : Int), (.slice A l.length cap)] 30)).size
    have W1 := Lib.hid (within_on W0.out (within_alloc w (.cells #[.int .i64 (P : Int), (.slice A l.length cap)] 30)) W0.out.size (.inr (Nat.le_refl _)))
    have HB_1 := Lib.hid (HB_0.out.within (within_alloc w (.cells #[.int .i64 (P : Int), (.slice A l.length cap)] 30)) (by omega))
    have Y1 := Lib.hid (show (w.alloc (.cells #[.int .i64 (P : Int), (.slice A l.length cap)] 30)).heap.size = w.heap.size + 1 by simp)
    have hnew := box_new w (P : Int) (.slice A l.length cap) 30
    have BX_1 := Lib.hid hnew
    clear hnew
    have Z2 := Lib.hid (within_alloc (w.alloc (.cells #[.int .i64 (P : Int), (.slice A l.length cap)] 30)) (.cells #[(.slice none 0 0), (.slice none 0 0), (.slice none 0 0)] 58)).size
    have W2 := Lib.hid (within_on W1.out (within_alloc (w.alloc (.cells #[.int .i64 (P : Int), (.slice A l.length cap)] 30)) (.cells #[(.slice none 0 0), (.slice none 0 0), (.slice none 0 0)] 58)) W1.out.size (.inr (Nat.le_refl _)))
    have HB_2 := Lib.hid (HB_1.out.within (within_alloc (w.alloc (.cells #[.int .i64 (P : Int), (.slice A l.length cap)] 30)) (.cells #[(.slice none 0 0), (.slice none 0 0), (.slice none 0 0)] 58)) (by omega))
    have BX_2 := Lib.hid (BX_1.out.within (within_alloc (w.alloc (.cells #[.int .i64 (P : Int), (.slice A l.length cap)] 30)) (.cells #[(.slice none 0 0), (.slice none 0 0), (.slice none 0 0)] 58)) (by omega))
    have Y2 := Lib.hid (show ((w.alloc (.cells #[.int .i64 (P : Int), (.slice A l.length cap)] 30)).alloc (.cells #[(.slice none 0 0), (.slice none 0 0), (.slice none 0 0)] 58)).heap.size = (w.alloc (.cells #[.int .i64 (P : Int), (.slice A l.length cap)] 30)).heap.size + 1 by simp)
    have hnew := cel3_new (w.alloc (.cells #[.int .i64 (P : Int), (.slice A l.length cap)] 30)) (.slice none 0 0) (.slice none 0 0) (.slice none 0 0) 58
    rw [show (w.alloc (.cells #[.int .i64 (P : Int), (.slice A l.length cap)] 30)).heap.size = w.heap.size + 1 by simp] at hnew
    have GR_2 := Lib.hid hnew
    clear hnew
    go_enter Try.func59, Try.ntmps59
    obtain ⟨g0_0, g0_1, g0_2⟩ := BX_2.out
    go_wp2_with fail
    clear g0_0 g0_1 g0_2
    generalize ((w.alloc (.cells #[.int .i64 (P : Int), (.slice A l.length cap)] 30)).alloc (.cells #[(.slice none 0 0), (.slice none 0 0), (.slice none 0 0)] 58)) = w2 at *
    generalize (w.alloc (.cells #[.int .i64 (P : Int), (.slice A l.length cap)] 30)) = w1 at *
    refine (HISG _ HB_2.out.at).mono ?_
    rintro e w3 ⟨rfl, hb⟩
    have Z3 := Lib.hid (within_of hb).size
    have W3 := Lib.hid (within_on W2.out (within_of hb) W2.out.size (.inr (Nat.le_refl _)))
    have HB_3 := Lib.hid (HB_2.out.within (within_of hb) (by omega))
    have BX_3 := Lib.hid (BX_2.out.within (within_of hb) (by omega))
    have GR_3 := Lib.hid (GR_2.out.within (within_of hb) (by omega))
    clear hb HISG
    have Z4 := Lib.hid (within_alloc w3 (.cells #[.int .i64 k] 3)).size
    have W4 := Lib.hid (within_on W3.out (within_alloc w3 (.cells #[.int .i64 k] 3)) W3.out.size (.inr (Nat.le_refl _)))
    have HB_4 := Lib.hid (HB_3.out.within (within_alloc w3 (.cells #[.int .i64 k] 3)) (by omega))
    have BX_4 := Lib.hid (BX_3.out.within (within_alloc w3 (.cells #[.int .i64 k] 3)) (by omega))
    have GR_4 := Lib.hid (GR_3.out.within (within_alloc w3 (.cells #[.int .i64 k] 3)) (by omega))
    have Y4 := Lib.hid (show (w3.alloc (.cells #[.int .i64 k] 3)).heap.size = w3.heap.size + 1 by simp)
    have hck : (w3.alloc (.cells #[.int .i64 k] 3)).cell? ⟨w3.heap.size, 0, none⟩ = some (.int .i64 k) := by rw [World.cell?_alloc_at _ _ _ _ rfl]; rfl
    have HCK := Lib.hid hck
    clear hck
    obtain ⟨g1_0, g1_1, g1_2⟩ := BX_4.out
    go_wp2_with fail
    clear g1_0 g1_1 g1_2
    generalize (w3.alloc (.cells #[.int .i64 k] 3)) = w4 at *
    refine (slRepeat P k w3.heap.size _ hP.1 hP.2 HCK.out).mono ?_
    rintro e w5 ⟨g, rfl, ho, hb⟩
    have Z5 := Lib.hid (within_of hb).size
    have W5 := Lib.hid (within_on W4.out (within_of hb) W4.out.size (.inr (Nat.le_refl _)))
    have HB_5 := Lib.hid (HB_4.out.within (within_of hb) (by omega))
    have BX_5 := Lib.hid (BX_4.out.within (within_of hb) (by omega))
    have GR_5 := Lib.hid (GR_4.out.within (within_of hb) (by omega))
    have OF_5 := Lib.hid (own_ints' (zs := List.replicate P k) (by rw [List.length_replicate]; exact ho))
    clear ho hb
    obtain ⟨g2_0, g2_1, g2_2, g2_3, g2_4, g2_5⟩ := GR_5.out.cells
    have Z6 := Lib.hid ((ret3 GR_5.out (.slice (some ⟨g, 0, none⟩) P P) (.slice none 0 0) (.slice none 0 0)).2).size
    have W6 := Lib.hid (within_on W5.out ((ret3 GR_5.out (.slice (some ⟨g, 0, none⟩) P P) (.slice none 0 0) (.slice none 0 0)).2) W5.out.size (by have := Z1.out; have := Z2.out; have := Z3.out; have := Z4.out; have := Z5.out; have := Z6.out; have := Y1.out; have := Y2.out; have := Y4.out; omega))
    have HB_6 := Lib.hid (HB_5.out.within ((ret3 GR_5.out (.slice (some ⟨g, 0, none⟩) P P) (.slice none 0 0) (.slice none 0 0)).2) (by have := Z1.out; have := Z2.out; have := Z3.out; have := Z4.out; have := Z5.out; have := Z6.out; have := Y1.out; have := Y2.out; have := Y4.out; omega))
    have BX_6 := Lib.hid (BX_5.out.within ((ret3 GR_5.out (.slice (some ⟨g, 0, none⟩) P P) (.slice none 0 0) (.slice none 0 0)).2) (by have := Z1.out; have := Z2.out; have := Z3.out; have := Z4.out; have := Z5.out; have := Z6.out; have := Y1.out; have := Y2.out; have := Y4.out; omega))
    have GR_6 := Lib.hid ((ret3 GR_5.out (.slice (some ⟨g, 0, none⟩) P P) (.slice none 0 0) (.slice none 0 0)).1)
    have OF_6 := Lib.hid (OF_5.out.within ((ret3 GR_5.out (.slice (some ⟨g, 0, none⟩) P P) (.slice none 0 0) (.slice none 0 0)).2) (by have := Z1.out; have := Z2.out; have := Z3.out; have := Z4.out; have := Z5.out; have := Z6.out; have := Y1.out; have := Y2.out; have := Y4.out; omega))
    obtain ⟨g3_0, g3_1, g3_2, g3_3, g3_4, g3_5⟩ := GR_6.out.cells
    go_wp2_with fail
    generalize (((w5.setCell ⟨w.heap.size + 1, 0, none⟩ (.slice (some ⟨g, 0, none⟩) P P)).setCell ⟨w.heap.size + 1, 1, none⟩ (.slice none 0 0)).setCell ⟨w.heap.size + 1, 2, none⟩ (.slice none 0 0)) = w6 at *
    refine bodyPost_ret (v := .tuple #[pebV (some ⟨g, 0, none⟩) P P none 0 0 none 0 0, .bool true]) ?_ rfl ?_
    · simp [results, Try.results59, go_sem, g3_0, g3_1, g3_2]
    · rw [HR.out.1, HR.out.2]
      exact ⟨some ⟨g, 0, none⟩, P, _, _, by rw [List.length_replicate], OF_6.out, (by have := Z1.out; have := Z2.out; have := Z3.out; have := Z4.out; have := Z5.out; have := Z6.out; have := Y1.out; have := Y2.out; have := Y4.out; omega), (by have := Z1.out; have := Z2.out; have := Z3.out; have := Z4.out; have := Z5.out; have := Z6.out; have := Y1.out; have := Y2.out; have := Y4.out; omega), W6.out⟩

end Go.Proofs.Ytedjhnedkghhoaa
/- A row's range is chosen so that it begins in the heap; what a state of the call's own asks ahead of a bar's placing. No program's walk. No condition. -/
namespace Go.Proofs.Ytedjhnedkghhoaa
open Go.RowKit

theorem OwnR.norm {W : World} {r : Nat × Nat} {A : Option Addr} {cap : Nat} {zs : List Int} (h : OwnR W r.1 r.2 A cap zs) : ∃ q : Nat × Nat, OwnR W q.1 q.2 A cap zs ∧ q.1 ≤ W.heap.size ∧ (q = r ∨ q = (W.heap.size, W.heap.size)) := by
  rcases h.2 with e | ⟨g, e, h1, h2, ho⟩
  · exact ⟨(W.heap.size, W.heap.size), ⟨Nat.le_refl _, .inl e⟩, Nat.le_refl _, .inr rfl⟩
  · exact ⟨r, h, by have := h.1; omega, .inl rfl⟩
theorem OwnF.norm {W : World} {f t z : Nat × Nat} {AF AT AZ : Option Addr} {cF cT cZ : Nat} {F T Z : List Int} (h : OwnF W f t z AF cF AT cT AZ cZ F T Z) {B pb : Nat} (hB : B ≤ W.heap.size) (hp : pb < W.heap.size) (h2 : B ≤ t.1) (h3 : B ≤ z.1) (p2 : pb < t.1 ∨ t.2 ≤ pb) (p3 : pb < z.1 ∨ z.2 ≤ pb) :
    ∃ t' z' : Nat × Nat, OwnF W f t' z' AF cF AT cT AZ cZ F T Z ∧ B ≤ t'.1 ∧ B ≤ z'.1 ∧ (pb < t'.1 ∨ t'.2 ≤ pb) ∧ (pb < z'.1 ∨ z'.2 ≤ pb) ∧ t'.1 ≤ W.heap.size ∧ z'.1 ≤ W.heap.size := by
  obtain ⟨o1, o2, o3, d1, d2, d3⟩ := h
  obtain ⟨t', o2', l2, e2⟩ := o2.norm
  obtain ⟨z', o3', l3, e3⟩ := o3.norm
  have s1 := o1.1
  have s2 := o2.1
  have s3 := o3.1
  unfold Dis at d1 d2 d3
  refine ⟨t', z', ⟨o1, o2', o3', ?_, ?_, ?_⟩, ?_, ?_, ?_, ?_, l2, l3⟩
  all_goals (rcases e2 with rfl | rfl <;> rcases e3 with rfl | rfl)
  all_goals (first | omega | (unfold Dis; omega) | (unfold Dis; simp only []; omega))
theorem BarsIn.widen {W : World} {lo hi lo' hi' : Nat} {A : Option Addr} {l : List (Int × Int)} (h : BarsIn W lo hi A l) (h1 : lo' ≤ lo) (h2 : hi ≤ hi') (h3 : hi' ≤ W.heap.size) : BarsIn W lo' hi' A l :=
  ⟨h3, fun hl => by
    obtain ⟨b, off, e, b1, b2, hc⟩ := h.2 hl
    exact ⟨b, off, e, by omega, by omega, hc⟩⟩
end Go.Proofs.Ytedjhnedkghhoaa
/- What impl.RunPebbles answers. No condition. -/
namespace Go.Proofs.Ytedjhnedkghhoaa
open Go.RowKit

/-- What stands in the program's run of the game: the graph's box, the result's box, the state's box with its rows' ranges. -/
structure RunI (w W : World) (P : Nat) (A : Option Addr) (cap : Nat) (l : List (Int × Int)) (pb : Nat) (f t z : Nat × Nat) (AF AT AZ : Option Addr) (cF cT cZ : Nat) (R : List Int × List Int × List Int) : Prop where
  gb : Box W w.heap.size (P : Int) (.slice A l.length cap)
  rb : Cel3 W (w.heap.size + 1) 58 (.slice none 0 0) (.slice none 0 0) (.slice none 0 0)
  st : Cel3 W pb 58 (.slice AF R.1.length cF) (.slice AT R.2.1.length cT) (.slice AZ R.2.2.length cZ)
  own : OwnF W f t z AF cF AT cT AZ cZ R.1 R.2.1 R.2.2
  bars : BarsIn W 0 w.heap.size A l
  bel : Below w.heap.size w W
  lo : w.heap.size + 2 ≤ pb ∧ w.heap.size + 2 ≤ f.1 ∧ w.heap.size + 2 ≤ t.1 ∧ w.heap.size + 2 ≤ z.1
  hp : (pb < f.1 ∨ f.2 ≤ pb) ∧ (pb < t.1 ∨ t.2 ≤ pb) ∧ (pb < z.1 ∨ z.2 ≤ pb)
  hs : t.1 ≤ W.heap.size ∧ z.1 ≤ W.heap.size
theorem RunI.mk0 {w W : World} {P : Nat} {k c : Int} {A : Option Addr} {cap : Nat} {l : List (Int × Int)} {pb a b : Nat} {AF : Option Addr} {cF : Nat} (g : Box W w.heap.size (P : Int) (.slice A l.length cap)) (r : Cel3 W (w.heap.size + 1) 58 (.slice none 0 0) (.slice none 0 0) (.slice none 0 0))
    (h : Cel3 W pb 58 (.slice AF (runN P k c l 0).1.length cF) (.slice none 0 0) (.slice none 0 0)) (ho : OwnR W a b AF cF (runN P k c l 0).1) (hb : BarsIn W 0 w.heap.size A l) (hw : Below w.heap.size w W) (h1 : w.heap.size + 2 ≤ pb) (h2 : w.heap.size + 2 ≤ a) (h3 : b ≤ pb) (h4 : pb < W.heap.size) :
    RunI w W P A cap l pb (a, b) (W.heap.size, W.heap.size) (W.heap.size, W.heap.size) AF none none cF 0 0 (runN P k c l 0) :=
  ⟨g, r, h, ⟨ho, ⟨Nat.le_refl _, .inl ⟨rfl, rfl, rfl⟩⟩, ⟨Nat.le_refl _, .inl ⟨rfl, rfl, rfl⟩⟩, .inl (by show b ≤ W.heap.size; omega), .inl (by show b ≤ W.heap.size; omega), .inl (Nat.le_refl _)⟩, hb, hw,
    ⟨h1, h2, by show _ ≤ W.heap.size; omega, by show _ ≤ W.heap.size; omega⟩, ⟨.inr h3, .inl h4, .inl h4⟩, ⟨Nat.le_refl _, Nat.le_refl _⟩⟩
theorem runN_zero {P : Nat} {k c : Int} {l : List (Int × Int)} (h : newB (P : Int) k l = true) : (runN P k c l 0).1 ≠ [] := by
  have h1 := (newB_is h).1.1
  intro e
  have h2 : (runN P k c l 0).1.length = P := by simp [runN]
  rw [e] at h2
  simp at h2
  omega
theorem own_new {W : World} {a b : Nat} {A : Option Addr} {cap : Nat} {zs : List Int} (h : OwnInts W a b A cap zs) (hz : zs ≠ []) : OwnR W a b A cap zs :=
  ⟨h.1, by
    rcases h.2 with e | r
    · exact absurd e hz
    · exact .inr r⟩
/-- The program's next bar. -/
theorem RunI.call {w W : World} {P : Nat} {k c : Int} {A : Option Addr} {cap : Nat} {l : List (Int × Int)} {pb : Nat} {f t z : Nat × Nat} {AF AT AZ : Option Addr} {cF cT cZ : Nat} {n : Nat} (h : RunI w W P A cap l pb f t z AF AT AZ cF cT cZ (runN P k c l n)) (hk : newB (P : Int) k l = true) (hr : rangeB k c = true) (hn : n < l.length) :
    Calls Try.prog 111 #[.pointer (some ⟨pb, 0, none⟩), .agg #[.int .i64 (P : Int), .slice A l.length cap], .int .i64 c, .int .i64 (n : Int)] W (fun e W' => ∃ (b : Bool) (f' t' z' : Nat × Nat) (BF BT BZ : Option Addr) (dF dT dZ : Nat), e = .returned (.bool b) ∧ RunI w W' P A cap l pb f' t' z' BF BT BZ dF dT dZ (runN P k c l (n + 1))) := by
  obtain ⟨h1, h2, h3, h4, h5, h6, h7, h8, h9⟩ := h
  have hlt := h3.lt
  have hs := runN_step hk hr hn
  have hrr := rangeB_is hr
  have hs0 := h6.size
  refine (place_c P k l A cap pb (w.heap.size + 2) f t z AF AT AZ cF cT cZ _ _ _ c n W (runN_at hk hr (Nat.le_of_lt hn)) (by omega) hn (h5.widen (Nat.le_refl _) (by omega) (by omega)) h3 h4 (by omega) h8.1 h8.2.1 h8.2.2 h9.1 h9.2).mono ?_
  rintro e W' ⟨hb, ⟨rfl, hp, ho, hc⟩ | ⟨s, AT', cT', AZ', cZ', t', z', rfl, hp, ho, hc, ht, hz⟩⟩
  · have hw := within_low hb
    have e1 : runN P k c l (n + 1) = runN P k c l n := by rw [hs.2, hp]; rfl
    have hsz := hb.size
    rw [e1]
    exact ⟨false, f, t, z, AF, AT, AZ, cF, cT, cZ, rfl, h1.within hw (by omega), h2.within hw (by omega), hc, ho, h5.within hw (by omega), within_on h6 hw h6.size (.inl (by omega)), h7, h8, by omega, by omega⟩
  · have hw := within_low hb
    have e1 : runN P k c l (n + 1) = s := by rw [hs.2, hp]; rfl
    have hsz := hb.size
    rw [e1]
    refine ⟨true, f, t', z', AF, AT', AZ', cF, cT', cZ', rfl, h1.within hw (by omega), h2.within hw (by omega), hc, ho, h5.within hw (by omega), within_on h6 hw h6.size (.inl (by omega)), ⟨h7.1, h7.2.1, ?_, ?_⟩, ⟨h8.1, ?_, ?_⟩, ?_, ?_⟩
    · rcases ht with e | e
      · rw [e]; exact h7.2.2.1
      · omega
    · rcases hz with e | e
      · rw [e]; exact h7.2.2.2
      · omega
    · rcases ht with e | e
      · rw [e]; exact h8.2.1
      · omega
    · rcases hz with e | e
      · rw [e]; exact h8.2.2
      · omega
    · rcases ht with e | e
      · rw [e]; omega
      · omega
    · rcases hz with e | e
      · rw [e]; omega
      · omega

set_option maxHeartbeats 4000000 in
set_option maxRecDepth 100000 in
theorem implRunP (p k c : Int) (l : List (Int × Int)) (A : Option Addr) (cap : Nat) (w : World) (hl : BarsAt w w.heap.size A l) (hn : l.length ≤ 1048576) :
    Calls Try.prog 39 #[.agg #[.int .i64 p, .slice A l.length cap], .int .i64 k, .int .i64 c] w (PebOB w (runV p k c l).1 (runV p k c l).2.1 (runV p k c l).2.2 (runB p k c l)) := by
  by_cases hb1 : newB p k l = true
  case neg =>
    have hb1' : newB p k l = false := by simpa using hb1
    have HR := Lib.hid (runV_no (c := c) (.inl hb1'))
    clear hb1
    rename newB p k l = false => hb1
    have HNW : ∀ W : World, BarsAt W W.heap.size A l → Calls Try.prog 59 #[.agg #[.int .i64 p, .slice A l.length cap], .int .i64 k] W (NewOB W (newF p k l) false) := fun W h => by have hc := implNewN p k l A cap W h hn; rw [hb1] at hc; exact hc
    clear hb1
    have W0 := Lib.hid (Below.refl w.heap.size w)
    have HB_0 := Lib.hid (bars_in hl)
    clear hl
    have Z1 := Lib.hid (within_alloc w (.cells #[.int .i64 p, (.slice A l.length cap)] 30)).size
    have W1 := Lib.hid (within_on W0.out (within_alloc w (.cells #[.int .i64 p, (.slice A l.length cap)] 30)) W0.out.size (.inr (Nat.le_refl _)))
    have HB_1 := Lib.hid (HB_0.out.within (within_alloc w (.cells #[.int .i64 p, (.slice A l.length cap)] 30)) (by omega))
    have Y1 := Lib.hid (show (w.alloc (.cells #[.int .i64 p, (.slice A l.length cap)] 30)).heap.size = w.heap.size + 1 by simp)
    have hnew := box_new w p (.slice A l.length cap) 30
    have BX_1 := Lib.hid hnew
    clear hnew
    have Z2 := Lib.hid (within_alloc (w.alloc (.cells #[.int .i64 p, (.slice A l.length cap)] 30)) (.cells #[(.slice none 0 0), (.slice none 0 0), (.slice none 0 0)] 58)).size
    have W2 := Lib.hid (within_on W1.out (within_alloc (w.alloc (.cells #[.int .i64 p, (.slice A l.length cap)] 30)) (.cells #[(.slice none 0 0), (.slice none 0 0), (.slice none 0 0)] 58)) W1.out.size (.inr (Nat.le_refl _)))
    have HB_2 := Lib.hid (HB_1.out.within (within_alloc (w.alloc (.cells #[.int .i64 p, (.slice A l.length cap)] 30)) (.cells #[(.slice none 0 0), (.slice none 0 0), (.slice none 0 0)] 58)) (by omega))
    have BX_2 := Lib.hid (BX_1.out.within (within_alloc (w.alloc (.cells #[.int .i64 p, (.slice A l.length cap)] 30)) (.cells #[(.slice none 0 0), (.slice none 0 0), (.slice none 0 0)] 58)) (by omega))
    have Y2 := Lib.hid (show ((w.alloc (.cells #[.int .i64 p, (.slice A l.length cap)] 30)).alloc (.cells #[(.slice none 0 0), (.slice none 0 0), (.slice none 0 0)] 58)).heap.size = (w.alloc (.cells #[.int .i64 p, (.slice A l.length cap)] 30)).heap.size + 1 by simp)
    have hnew := cel3_new (w.alloc (.cells #[.int .i64 p, (.slice A l.length cap)] 30)) (.slice none 0 0) (.slice none 0 0) (.slice none 0 0) 58
    rw [show (w.alloc (.cells #[.int .i64 p, (.slice A l.length cap)] 30)).heap.size = w.heap.size + 1 by simp] at hnew
    have GR_2 := Lib.hid hnew
    clear hnew
    go_enter Try.func39, Try.ntmps39
    obtain ⟨g0_0, g0_1, g0_2⟩ := BX_2.out
    go_wp2_with fail
    clear g0_0 g0_1 g0_2
    generalize ((w.alloc (.cells #[.int .i64 p, (.slice A l.length cap)] 30)).alloc (.cells #[(.slice none 0 0), (.slice none 0 0), (.slice none 0 0)] 58)) = w2 at *
    generalize (w.alloc (.cells #[.int .i64 p, (.slice A l.length cap)] 30)) = w1 at *
    refine (HNW _ HB_2.out.at).mono ?_
    rintro e w3 ⟨AF, cF, a, b, rfl, ho, ha1, hb1, hb⟩
    have Z3 := Lib.hid (within_of hb).size
    have W3 := Lib.hid (within_on W2.out (within_of hb) W2.out.size (.inr (Nat.le_refl _)))
    have HB_3 := Lib.hid (HB_2.out.within (within_of hb) (by omega))
    have BX_3 := Lib.hid (BX_2.out.within (within_of hb) (by omega))
    have GR_3 := Lib.hid (GR_2.out.within (within_of hb) (by omega))
    clear hb ho HNW ha1 hb1
    have Z4 := Lib.hid (within_alloc w3 (.cells #[(.slice AF (newF p k l).length cF), (.slice none 0 0), (.slice none 0 0)] 58)).size
    have W4 := Lib.hid (within_on W3.out (within_alloc w3 (.cells #[(.slice AF (newF p k l).length cF), (.slice none 0 0), (.slice none 0 0)] 58)) W3.out.size (.inr (Nat.le_refl _)))
    have HB_4 := Lib.hid (HB_3.out.within (within_alloc w3 (.cells #[(.slice AF (newF p k l).length cF), (.slice none 0 0), (.slice none 0 0)] 58)) (by omega))
    have BX_4 := Lib.hid (BX_3.out.within (within_alloc w3 (.cells #[(.slice AF (newF p k l).length cF), (.slice none 0 0), (.slice none 0 0)] 58)) (by omega))
    have GR_4 := Lib.hid (GR_3.out.within (within_alloc w3 (.cells #[(.slice AF (newF p k l).length cF), (.slice none 0 0), (.slice none 0 0)] 58)) (by omega))
    have Y4 := Lib.hid (show (w3.alloc (.cells #[(.slice AF (newF p k l).length cF), (.slice none 0 0), (.slice none 0 0)] 58)).heap.size = w3.heap.size + 1 by simp)
    have hnew := cel3_new w3 (.slice AF (newF p k l).length cF) (.slice none 0 0) (.slice none 0 0) 58
    have BP_4 := Lib.hid hnew
    clear hnew
    obtain ⟨g1_0, g1_1, g1_2, g1_3, g1_4, g1_5⟩ := GR_4.out.cells
    have Z5 := Lib.hid ((ret3 GR_4.out (.slice none 0 0) (.slice none 0 0) (.slice none 0 0)).2).size
    have W5 := Lib.hid (within_on W4.out ((ret3 GR_4.out (.slice none 0 0) (.slice none 0 0) (.slice none 0 0)).2) W4.out.size (by have := Z1.out; have := Z2.out; have := Z3.out; have := Z4.out; have := Z5.out; have := Y1.out; have := Y2.out; have := Y4.out; omega))
    have HB_5 := Lib.hid (HB_4.out.within ((ret3 GR_4.out (.slice none 0 0) (.slice none 0 0) (.slice none 0 0)).2) (by have := Z1.out; have := Z2.out; have := Z3.out; have := Z4.out; have := Z5.out; have := Y1.out; have := Y2.out; have := Y4.out; omega))
    have BX_5 := Lib.hid (BX_4.out.within ((ret3 GR_4.out (.slice none 0 0) (.slice none 0 0) (.slice none 0 0)).2) (by have := Z1.out; have := Z2.out; have := Z3.out; have := Z4.out; have := Z5.out; have := Y1.out; have := Y2.out; have := Y4.out; omega))
    have GR_5 := Lib.hid ((ret3 GR_4.out (.slice none 0 0) (.slice none 0 0) (.slice none 0 0)).1)
    have BP_5 := Lib.hid (BP_4.out.within ((ret3 GR_4.out (.slice none 0 0) (.slice none 0 0) (.slice none 0 0)).2) (by have := Z1.out; have := Z2.out; have := Z3.out; have := Z4.out; have := Z5.out; have := Y1.out; have := Y2.out; have := Y4.out; omega))
    obtain ⟨g2_0, g2_1, g2_2, g2_3, g2_4, g2_5⟩ := GR_5.out.cells
    go_wp2_with fail
    generalize ((((w3.alloc (.cells #[(.slice AF (newF p k l).length cF), (.slice none 0 0), (.slice none 0 0)] 58)).setCell ⟨w.heap.size + 1, 0, none⟩ (.slice none 0 0)).setCell ⟨w.heap.size + 1, 1, none⟩ (.slice none 0 0)).setCell ⟨w.heap.size + 1, 2, none⟩ (.slice none 0 0)) = w5 at *
    generalize (w3.alloc (.cells #[(.slice AF (newF p k l).length cF), (.slice none 0 0), (.slice none 0 0)] 58)) = w4 at *
    refine bodyPost_ret (v := .tuple #[pebV none 0 0 none 0 0 none 0 0, .bool false]) ?_ rfl ?_
    · simp [results, Try.results39, go_sem, g2_0, g2_1, g2_2]
    · rw [HR.out.1, HR.out.2]
      exact ⟨none, 0, none, 0, none, 0, rfl, own3_nil _ _ W5.out.size _ _ _ _ _ _, W5.out⟩
  by_cases hb2 : rangeB k c = true
  case neg =>
    have hb2' : rangeB k c = false := by simpa using hb2
    have HR := Lib.hid (runV_no (p := p) (l := l) (.inr hb2'))
    have HRG := Lib.hid hb2'
    clear hb2 hb2'
    have HNW : ∀ W : World, BarsAt W W.heap.size A l → Calls Try.prog 59 #[.agg #[.int .i64 p, .slice A l.length cap], .int .i64 k] W (NewOB W (newF p k l) true) := fun W h => by have hc := implNewN p k l A cap W h hn; rw [hb1] at hc; exact hc
    clear hb1
    have W0 := Lib.hid (Below.refl w.heap.size w)
    have HB_0 := Lib.hid (bars_in hl)
    clear hl
    have Z1 := Lib.hid (within_alloc w (.cells #[.int .i64 p, (.slice A l.length cap)] 30)).size
    have W1 := Lib.hid (within_on W0.out (within_alloc w (.cells #[.int .i64 p, (.slice A l.length cap)] 30)) W0.out.size (.inr (Nat.le_refl _)))
    have HB_1 := Lib.hid (HB_0.out.within (within_alloc w (.cells #[.int .i64 p, (.slice A l.length cap)] 30)) (by omega))
    have Y1 := Lib.hid (show (w.alloc (.cells #[.int .i64 p, (.slice A l.length cap)] 30)).heap.size = w.heap.size + 1 by simp)
    have hnew := box_new w p (.slice A l.length cap) 30
    have BX_1 := Lib.hid hnew
    clear hnew
    have Z2 := Lib.hid (within_alloc (w.alloc (.cells #[.int .i64 p, (.slice A l.length cap)] 30)) (.cells #[(.slice none 0 0), (.slice none 0 0), (.slice none 0 0)] 58)).size
    have W2 := Lib.hid (within_on W1.out (within_alloc (w.alloc (.cells #[.int .i64 p, (.slice A l.length cap)] 30)) (.cells #[(.slice none 0 0), (.slice none 0 0), (.slice none 0 0)] 58)) W1.out.size (.inr (Nat.le_refl _)))
    have HB_2 := Lib.hid (HB_1.out.within (within_alloc (w.alloc (.cells #[.int .i64 p, (.slice A l.length cap)] 30)) (.cells #[(.slice none 0 0), (.slice none 0 0), (.slice none 0 0)] 58)) (by omega))
    have BX_2 := Lib.hid (BX_1.out.within (within_alloc (w.alloc (.cells #[.int .i64 p, (.slice A l.length cap)] 30)) (.cells #[(.slice none 0 0), (.slice none 0 0), (.slice none 0 0)] 58)) (by omega))
    have Y2 := Lib.hid (show ((w.alloc (.cells #[.int .i64 p, (.slice A l.length cap)] 30)).alloc (.cells #[(.slice none 0 0), (.slice none 0 0), (.slice none 0 0)] 58)).heap.size = (w.alloc (.cells #[.int .i64 p, (.slice A l.length cap)] 30)).heap.size + 1 by simp)
    have hnew := cel3_new (w.alloc (.cells #[.int .i64 p, (.slice A l.length cap)] 30)) (.slice none 0 0) (.slice none 0 0) (.slice none 0 0) 58
    rw [show (w.alloc (.cells #[.int .i64 p, (.slice A l.length cap)] 30)).heap.size = w.heap.size + 1 by simp] at hnew
    have GR_2 := Lib.hid hnew
    clear hnew
    go_enter Try.func39, Try.ntmps39
    obtain ⟨g0_0, g0_1, g0_2⟩ := BX_2.out
    go_wp2_with fail
    clear g0_0 g0_1 g0_2
    generalize ((w.alloc (.cells #[.int .i64 p, (.slice A l.length cap)] 30)).alloc (.cells #[(.slice none 0 0), (.slice none 0 0), (.slice none 0 0)] 58)) = w2 at *
    generalize (w.alloc (.cells #[.int .i64 p, (.slice A l.length cap)] 30)) = w1 at *
    refine (HNW _ HB_2.out.at).mono ?_
    rintro e w3 ⟨AF, cF, a, b, rfl, ho, ha1, hb1, hb⟩
    have Z3 := Lib.hid (within_of hb).size
    have W3 := Lib.hid (within_on W2.out (within_of hb) W2.out.size (.inr (Nat.le_refl _)))
    have HB_3 := Lib.hid (HB_2.out.within (within_of hb) (by omega))
    have BX_3 := Lib.hid (BX_2.out.within (within_of hb) (by omega))
    have GR_3 := Lib.hid (GR_2.out.within (within_of hb) (by omega))
    clear hb ho HNW ha1 hb1
    have Z4 := Lib.hid (within_alloc w3 (.cells #[(.slice AF (newF p k l).length cF), (.slice none 0 0), (.slice none 0 0)] 58)).size
    have W4 := Lib.hid (within_on W3.out (within_alloc w3 (.cells #[(.slice AF (newF p k l).length cF), (.slice none 0 0), (.slice none 0 0)] 58)) W3.out.size (.inr (Nat.le_refl _)))
    have HB_4 := Lib.hid (HB_3.out.within (within_alloc w3 (.cells #[(.slice AF (newF p k l).length cF), (.slice none 0 0), (.slice none 0 0)] 58)) (by omega))
    have BX_4 := Lib.hid (BX_3.out.within (within_alloc w3 (.cells #[(.slice AF (newF p k l).length cF), (.slice none 0 0), (.slice none 0 0)] 58)) (by omega))
    have GR_4 := Lib.hid (GR_3.out.within (within_alloc w3 (.cells #[(.slice AF (newF p k l).length cF), (.slice none 0 0), (.slice none 0 0)] 58)) (by omega))
    have Y4 := Lib.hid (show (w3.alloc (.cells #[(.slice AF (newF p k l).length cF), (.slice none 0 0), (.slice none 0 0)] 58)).heap.size = w3.heap.size + 1 by simp)
    have hnew := cel3_new w3 (.slice AF (newF p k l).length cF) (.slice none 0 0) (.slice none 0 0) 58
    have BP_4 := Lib.hid hnew
    clear hnew
    obtain ⟨g1_0, g1_1, g1_2⟩ := BX_4.out
    go_wp2_with fail
    clear g1_0 g1_1 g1_2
    generalize (w3.alloc (.cells #[(.slice AF (newF p k l).length cF), (.slice none 0 0), (.slice none 0 0)] 58)) = w4 at *
    refine (implRange k c _).mono ?_
    rintro e w9 ⟨rfl, rfl⟩
    rw [HRG.out]
    obtain ⟨g2_0, g2_1, g2_2, g2_3, g2_4, g2_5⟩ := GR_4.out.cells
    have Z5 := Lib.hid ((ret3 GR_4.out (.slice none 0 0) (.slice none 0 0) (.slice none 0 0)).2).size
    have W5 := Lib.hid (within_on W4.out ((ret3 GR_4.out (.slice none 0 0) (.slice none 0 0) (.slice none 0 0)).2) W4.out.size (by have := Z1.out; have := Z2.out; have := Z3.out; have := Z4.out; have := Z5.out; have := Y1.out; have := Y2.out; have := Y4.out; omega))
    have HB_5 := Lib.hid (HB_4.out.within ((ret3 GR_4.out (.slice none 0 0) (.slice none 0 0) (.slice none 0 0)).2) (by have := Z1.out; have := Z2.out; have := Z3.out; have := Z4.out; have := Z5.out; have := Y1.out; have := Y2.out; have := Y4.out; omega))
    have BX_5 := Lib.hid (BX_4.out.within ((ret3 GR_4.out (.slice none 0 0) (.slice none 0 0) (.slice none 0 0)).2) (by have := Z1.out; have := Z2.out; have := Z3.out; have := Z4.out; have := Z5.out; have := Y1.out; have := Y2.out; have := Y4.out; omega))
    have GR_5 := Lib.hid ((ret3 GR_4.out (.slice none 0 0) (.slice none 0 0) (.slice none 0 0)).1)
    have BP_5 := Lib.hid (BP_4.out.within ((ret3 GR_4.out (.slice none 0 0) (.slice none 0 0) (.slice none 0 0)).2) (by have := Z1.out; have := Z2.out; have := Z3.out; have := Z4.out; have := Z5.out; have := Y1.out; have := Y2.out; have := Y4.out; omega))
    obtain ⟨g3_0, g3_1, g3_2, g3_3, g3_4, g3_5⟩ := GR_5.out.cells
    go_wp2_with fail
    generalize (((w4.setCell ⟨w.heap.size + 1, 0, none⟩ (.slice none 0 0)).setCell ⟨w.heap.size + 1, 1, none⟩ (.slice none 0 0)).setCell ⟨w.heap.size + 1, 2, none⟩ (.slice none 0 0)) = w5 at *
    refine bodyPost_ret (v := .tuple #[pebV none 0 0 none 0 0 none 0 0, .bool false]) ?_ rfl ?_
    · simp [results, Try.results39, go_sem, g3_0, g3_1, g3_2]
    · rw [HR.out.1, HR.out.2]
      exact ⟨none, 0, none, 0, none, 0, rfl, own3_nil _ _ W5.out.size _ _ _ _ _ _, W5.out⟩
  obtain ⟨P, rfl⟩ : ∃ P : Nat, p = (P : Int) := ⟨p.toNat, by have := (newB_is hb1).1.1; omega⟩
  have HP := Lib.hid (And.intro hb1 hb2)
  have HRG := Lib.hid hb2
  have HR := Lib.hid (runV_yes hb1 hb2)
  have hnf : newF (P : Int) k l = (runN P k c l 0).1 := by unfold newF; rw [if_pos hb1, Int.toNat_natCast]; rfl
  have HNW : ∀ W : World, BarsAt W W.heap.size A l → Calls Try.prog 59 #[.agg #[.int .i64 (P : Int), .slice A l.length cap], .int .i64 k] W (NewOB W (runN P k c l 0).1 true) := fun W h => by have hc := implNewN (P : Int) k l A cap W h hn; rw [hb1, hnf] at hc; exact hc
  clear hb1 hb2 hnf
  have W0 := Lib.hid (Below.refl w.heap.size w)
  have HB_0 := Lib.hid (bars_in hl)
  clear hl
  have Z1 := Lib.hid (within_alloc w (.cells #[.int .i64 (P : Int), (.slice A l.length cap)] 30)).size
  have W1 := Lib.hid (within_on W0.out (within_alloc w (.cells #[.int .i64 (P : Int), (.slice A l.length cap)] 30)) W0.out.size (.inr (Nat.le_refl _)))
  have HB_1 := Lib.hid (HB_0.out.within (within_alloc w (.cells #[.int .i64 (P : Int), (.slice A l.length cap)] 30)) (by omega))
  have Y1 := Lib.hid (show (w.alloc (.cells #[.int .i64 (P : Int), (.slice A l.length cap)] 30)).heap.size = w.heap.size + 1 by simp)
  have hnew := box_new w (P : Int) (.slice A l.length cap) 30
  have BX_1 := Lib.hid hnew
  clear hnew
  have Z2 := Lib.hid (within_alloc (w.alloc (.cells #[.int .i64 (P : Int), (.slice A l.length cap)] 30)) (.cells #[(.slice none 0 0), (.slice none 0 0), (.slice none 0 0)] 58)).size
  have W2 := Lib.hid (within_on W1.out (within_alloc (w.alloc (.cells #[.int .i64 (P : Int), (.slice A l.length cap)] 30)) (.cells #[(.slice none 0 0), (.slice none 0 0), (.slice none 0 0)] 58)) W1.out.size (.inr (Nat.le_refl _)))
  have HB_2 := Lib.hid (HB_1.out.within (within_alloc (w.alloc (.cells #[.int .i64 (P : Int), (.slice A l.length cap)] 30)) (.cells #[(.slice none 0 0), (.slice none 0 0), (.slice none 0 0)] 58)) (by omega))
  have BX_2 := Lib.hid (BX_1.out.within (within_alloc (w.alloc (.cells #[.int .i64 (P : Int), (.slice A l.length cap)] 30)) (.cells #[(.slice none 0 0), (.slice none 0 0), (.slice none 0 0)] 58)) (by omega))
  have Y2 := Lib.hid (show ((w.alloc (.cells #[.int .i64 (P : Int), (.slice A l.length cap)] 30)).alloc (.cells #[(.slice none 0 0), (.slice none 0 0), (.slice none 0 0)] 58)).heap.size = (w.alloc (.cells #[.int .i64 (P : Int), (.slice A l.length cap)] 30)).heap.size + 1 by simp)
  have hnew := cel3_new (w.alloc (.cells #[.int .i64 (P : Int), (.slice A l.length cap)] 30)) (.slice none 0 0) (.slice none 0 0) (.slice none 0 0) 58
  rw [show (w.alloc (.cells #[.int .i64 (P : Int), (.slice A l.length cap)] 30)).heap.size = w.heap.size + 1 by simp] at hnew
  have GR_2 := Lib.hid hnew
  clear hnew
  go_enter Try.func39, Try.ntmps39
  obtain ⟨g0_0, g0_1, g0_2⟩ := BX_2.out
  go_wp2_with fail
  clear g0_0 g0_1 g0_2
  generalize ((w.alloc (.cells #[.int .i64 (P : Int), (.slice A l.length cap)] 30)).alloc (.cells #[(.slice none 0 0), (.slice none 0 0), (.slice none 0 0)] 58)) = w2 at *
  generalize (w.alloc (.cells #[.int .i64 (P : Int), (.slice A l.length cap)] 30)) = w1 at *
  refine (HNW _ HB_2.out.at).mono ?_
  rintro e w3 ⟨AF, cF, a, b, rfl, ho, ha1, hb1, hb⟩
  have Z3 := Lib.hid (within_of hb).size
  have W3 := Lib.hid (within_on W2.out (within_of hb) W2.out.size (.inr (Nat.le_refl _)))
  have HB_3 := Lib.hid (HB_2.out.within (within_of hb) (by omega))
  have BX_3 := Lib.hid (BX_2.out.within (within_of hb) (by omega))
  have GR_3 := Lib.hid (GR_2.out.within (within_of hb) (by omega))
  have OP_3 := Lib.hid (own_new ho (runN_zero HP.out.1))
  clear hb HNW
  have HAB := Lib.hid (And.intro ha1 hb1)
  clear ho ha1 hb1
  have Z4 := Lib.hid (within_alloc w3 (.cells #[(.slice AF (runN P k c l 0).1.length cF), (.slice none 0 0), (.slice none 0 0)] 58)).size
  have W4 := Lib.hid (within_on W3.out (within_alloc w3 (.cells #[(.slice AF (runN P k c l 0).1.length cF), (.slice none 0 0), (.slice none 0 0)] 58)) W3.out.size (.inr (Nat.le_refl _)))
  have HB_4 := Lib.hid (HB_3.out.within (within_alloc w3 (.cells #[(.slice AF (runN P k c l 0).1.length cF), (.slice none 0 0), (.slice none 0 0)] 58)) (by omega))
  have BX_4 := Lib.hid (BX_3.out.within (within_alloc w3 (.cells #[(.slice AF (runN P k c l 0).1.length cF), (.slice none 0 0), (.slice none 0 0)] 58)) (by omega))
  have GR_4 := Lib.hid (GR_3.out.within (within_alloc w3 (.cells #[(.slice AF (runN P k c l 0).1.length cF), (.slice none 0 0), (.slice none 0 0)] 58)) (by omega))
  have OP_4 := Lib.hid (OP_3.out.within (within_alloc w3 (.cells #[(.slice AF (runN P k c l 0).1.length cF), (.slice none 0 0), (.slice none 0 0)] 58)) (by omega))
  have Y4 := Lib.hid (show (w3.alloc (.cells #[(.slice AF (runN P k c l 0).1.length cF), (.slice none 0 0), (.slice none 0 0)] 58)).heap.size = w3.heap.size + 1 by simp)
  have hnew := cel3_new w3 (.slice AF (runN P k c l 0).1.length cF) (.slice none 0 0) (.slice none 0 0) 58
  have BP_4 := Lib.hid hnew
  clear hnew
  obtain ⟨g1_0, g1_1, g1_2⟩ := BX_4.out
  go_wp2_with fail
  clear g1_0 g1_1 g1_2
  generalize (w3.alloc (.cells #[(.slice AF (runN P k c l 0).1.length cF), (.slice none 0 0), (.slice none 0 0)] 58)) = w4 at *
  refine (implRange k c _).mono ?_
  rintro e w9 ⟨rfl, rfl⟩
  rw [HRG.out]
  have HN := Lib.hid (show RunI w w4 P A cap l w3.heap.size (a, b) (w4.heap.size, w4.heap.size) (w4.heap.size, w4.heap.size) AF none none cF 0 0 (runN P k c l 0) from RunI.mk0 BX_4.out GR_4.out BP_4.out OP_4.out HB_4.out W4.out (by have := HAB.out; have := Z1.out; have := Z2.out; have := Z3.out; have := Z4.out; have := Y1.out; have := Y2.out; have := Y4.out; omega) (by have := HAB.out; have := Z1.out; have := Z2.out; have := Z3.out; have := Z4.out; have := Y1.out; have := Y2.out; have := Y4.out; omega) (by have := HAB.out; have := Z1.out; have := Z2.out; have := Z3.out; have := Z4.out; have := Y1.out; have := Y2.out; have := Y4.out; omega) (by have := HAB.out; have := Z1.out; have := Z2.out; have := Z3.out; have := Z4.out; have := Y1.out; have := Y2.out; have := Y4.out; omega))
  obtain ⟨g2_0, g2_1, g2_2⟩ := BX_4.out
  go_wp2_with fail
  clear g2_0 g2_1 g2_2
  go_loopw [29] (fun i wr => ∃ j : Nat, j ≤ l.length ∧ i = .int .i64 j ∧ ∃ f t z AF AT AZ cF cT cZ, RunI w wr P A cap l w3.heap.size f t z AF AT AZ cF cT cZ (runN P k c l j)) (fun i _ => l.length - (intOf i).toNat)
  case atStart => exact ⟨0, Nat.zero_le _, rfl, _, _, _, _, _, _, _, _, _, HN.out⟩
  case round =>
    obtain ⟨j, hj, rfl, f, t, z, AF, AT, AZ, cF, cT, cZ, hst⟩ := hrel
    have HS := Lib.hid hst
    obtain ⟨_, g1, g2⟩ := hst.gb
    obtain ⟨c0, c1, c2, f0, f1, f2⟩ := hst.st.cells
    clear hst
    by_cases hlt : j < l.length
    · have hji : (j : Int) < (l.length : Int) := by omega
      go_wp2_with (go_at_call 111; refine (HS.out.call HP.out.1 HP.out.2 hlt).mono ?_; rintro e w5 ⟨r, f2, t2, z2, BF, BT, BZ, dF, dT, dZ, rfl, hs5⟩; have HS2 := Lib.hid hs5; clear hs5)
      go_roundw
      case rel => exact ⟨j + 1, by omega, by go_num, _, _, _, _, _, _, _, _, _, HS2.out⟩
      case measure => simp [intOf]; omega
    · obtain rfl : j = l.length := by omega
      obtain ⟨r0, r1, r2, q0, q1, q2⟩ := HS.out.rb.cells
      have h3 := ret3 HS.out.rb (.slice AF (runN P k c l l.length).1.length cF) (.slice AT (runN P k c l l.length).2.1.length cT) (.slice AZ (runN P k c l l.length).2.2.length cZ)
      obtain ⟨s0, s1, s2, _⟩ := h3.1.cells
      have HW := Lib.hid h3.2
      clear h3
      go_wp2_with fail
      refine bodyPost_ret (v := .tuple #[pebV AF (runN P k c l l.length).1.length cF AT (runN P k c l l.length).2.1.length cT AZ (runN P k c l l.length).2.2.length cZ, .bool true]) ?_ rfl ?_
      · simp [results, Try.results39, go_sem, s0, s1, s2]
      · have hlo := HS.out.lo
        have hz := HW.out.size
        have hhi := HS.out.own.hi
        have hbs := HS.out.bel.size
        rw [HR.out.1, HR.out.2]
        have hown := HS.out.own.own3 (lo := w.heap.size + 2) ⟨hlo.2.1, hhi.1⟩ ⟨hlo.2.2.1, hhi.2.1⟩ ⟨hlo.2.2.2, hhi.2.2⟩ (Nat.le_refl _)
        exact ⟨AF, cF, AT, cT, AZ, cZ, rfl, (hown.within HW.out (.inr (Nat.le_refl _))).widen (by omega) hz (Nat.le_refl _), within_on HS.out.bel HW.out hbs (.inl (by omega))⟩
end Go.Proofs.Ytedjhnedkghhoaa
/- What impl.RankOf answers. No condition. -/
namespace Go.Proofs.Ytedjhnedkghhoaa
open Go.RowKit

set_option maxHeartbeats 2000000 in
set_option maxRecDepth 100000 in
theorem implRank (p k c : Int) (l : List (Int × Int)) (A : Option Addr) (cap : Nat) (w : World) (hl : BarsAt w w.heap.size A l) (hn : l.length ≤ 1048576) :
    Calls Try.prog 68 #[.agg #[.int .i64 p, .slice A l.length cap], .int .i64 k, .int .i64 c] w fun e w' => e = .returned (.int .i64 (rankV p k c l)) ∧ Below w.heap.size w w' := by
  obtain ⟨rv, hrv⟩ : ∃ rv, rankV p k c l = rv := ⟨_, rfl⟩
  rw [hrv]
  unfold rankV at hrv
  cases hb : runB p k c l with
  | false =>
    have HRV := Lib.hid (show rv = -1 from by rw [← hrv, hb]; rfl)
    clear hrv
    have HNW : ∀ W : World, BarsAt W W.heap.size A l → Calls Try.prog 39 #[.agg #[.int .i64 p, .slice A l.length cap], .int .i64 k, .int .i64 c] W (PebOB W (runV p k c l).1 (runV p k c l).2.1 (runV p k c l).2.2 false) := fun W h => by have hc := implRunP p k c l A cap W h hn; rw [hb] at hc; exact hc
    clear hb
    have W0 := Lib.hid (Below.refl w.heap.size w)
    have HB_0 := Lib.hid (bars_in hl)
    clear hl
    have Z1 := Lib.hid (within_alloc w (.cells #[.int .i64 p, (.slice A l.length cap)] 30)).size
    have W1 := Lib.hid (within_on W0.out (within_alloc w (.cells #[.int .i64 p, (.slice A l.length cap)] 30)) W0.out.size (.inr (Nat.le_refl _)))
    have HB_1 := Lib.hid (HB_0.out.within (within_alloc w (.cells #[.int .i64 p, (.slice A l.length cap)] 30)) (by omega))
    have Y1 := Lib.hid (show (w.alloc (.cells #[.int .i64 p, (.slice A l.length cap)] 30)).heap.size = w.heap.size + 1 by simp)
    have hnew := box_new w p (.slice A l.length cap) 30
    have BX_1 := Lib.hid hnew
    clear hnew
    go_enter Try.func68, Try.ntmps68
    obtain ⟨g0_0, g0_1, g0_2⟩ := BX_1.out
    go_wp2_with fail
    clear g0_0 g0_1 g0_2
    generalize (w.alloc (.cells #[.int .i64 p, (.slice A l.length cap)] 30)) = w1 at *
    refine (HNW _ HB_1.out.at).mono ?_
    rintro e w2 ⟨AF, cF, AT, cT, AZ, cZ, rfl, ho, hb⟩
    have Z2 := Lib.hid (within_of hb).size
    have W2 := Lib.hid (within_on W1.out (within_of hb) W1.out.size (.inr (Nat.le_refl _)))
    have HB_2 := Lib.hid (HB_1.out.within (within_of hb) (by omega))
    have BX_2 := Lib.hid (BX_1.out.within (within_of hb) (by omega))
    have OP_2 := Lib.hid (ho)
    clear ho hb
    have Z3 := Lib.hid (within_alloc w2 (.cells #[(.slice AF (runV p k c l).1.length cF), (.slice AT (runV p k c l).2.1.length cT), (.slice AZ (runV p k c l).2.2.length cZ)] 58)).size
    have W3 := Lib.hid (within_on W2.out (within_alloc w2 (.cells #[(.slice AF (runV p k c l).1.length cF), (.slice AT (runV p k c l).2.1.length cT), (.slice AZ (runV p k c l).2.2.length cZ)] 58)) W2.out.size (.inr (Nat.le_refl _)))
    have HB_3 := Lib.hid (HB_2.out.within (within_alloc w2 (.cells #[(.slice AF (runV p k c l).1.length cF), (.slice AT (runV p k c l).2.1.length cT), (.slice AZ (runV p k c l).2.2.length cZ)] 58)) (by omega))
    have BX_3 := Lib.hid (BX_2.out.within (within_alloc w2 (.cells #[(.slice AF (runV p k c l).1.length cF), (.slice AT (runV p k c l).2.1.length cT), (.slice AZ (runV p k c l).2.2.length cZ)] 58)) (by omega))
    have OP_3 := Lib.hid (OP_2.out.within (within_alloc w2 (.cells #[(.slice AF (runV p k c l).1.length cF), (.slice AT (runV p k c l).2.1.length cT), (.slice AZ (runV p k c l).2.2.length cZ)] 58)) (by omega))
    have Y3 := Lib.hid (show (w2.alloc (.cells #[(.slice AF (runV p k c l).1.length cF), (.slice AT (runV p k c l).2.1.length cT), (.slice AZ (runV p k c l).2.2.length cZ)] 58)).heap.size = w2.heap.size + 1 by simp)
    have hnew := cel3_new w2 (.slice AF (runV p k c l).1.length cF) (.slice AT (runV p k c l).2.1.length cT) (.slice AZ (runV p k c l).2.2.length cZ) 58
    have BP_3 := Lib.hid hnew
    clear hnew
    obtain ⟨g1_0, g1_1, g1_2, g1_3, g1_4, g1_5⟩ := BP_3.out.cells
    go_wp2_with fail
    clear g1_0 g1_1 g1_2 g1_3 g1_4 g1_5
    generalize (w2.alloc (.cells #[(.slice AF (runV p k c l).1.length cF), (.slice AT (runV p k c l).2.1.length cT), (.slice AZ (runV p k c l).2.2.length cZ)] 58)) = w3 at *
    go_ret
    exact ⟨by rw [HRV.out]; rfl, W3.out⟩
  | true =>
    have HRV := Lib.hid (show rv = (((runV p k c l).2.2.length : Nat) : Int) from by rw [← hrv, hb]; rfl)
    clear hrv
    have HNW : ∀ W : World, BarsAt W W.heap.size A l → Calls Try.prog 39 #[.agg #[.int .i64 p, .slice A l.length cap], .int .i64 k, .int .i64 c] W (PebOB W (runV p k c l).1 (runV p k c l).2.1 (runV p k c l).2.2 true) := fun W h => by have hc := implRunP p k c l A cap W h hn; rw [hb] at hc; exact hc
    clear hb
    have W0 := Lib.hid (Below.refl w.heap.size w)
    have HB_0 := Lib.hid (bars_in hl)
    clear hl
    have Z1 := Lib.hid (within_alloc w (.cells #[.int .i64 p, (.slice A l.length cap)] 30)).size
    have W1 := Lib.hid (within_on W0.out (within_alloc w (.cells #[.int .i64 p, (.slice A l.length cap)] 30)) W0.out.size (.inr (Nat.le_refl _)))
    have HB_1 := Lib.hid (HB_0.out.within (within_alloc w (.cells #[.int .i64 p, (.slice A l.length cap)] 30)) (by omega))
    have Y1 := Lib.hid (show (w.alloc (.cells #[.int .i64 p, (.slice A l.length cap)] 30)).heap.size = w.heap.size + 1 by simp)
    have hnew := box_new w p (.slice A l.length cap) 30
    have BX_1 := Lib.hid hnew
    clear hnew
    go_enter Try.func68, Try.ntmps68
    obtain ⟨g0_0, g0_1, g0_2⟩ := BX_1.out
    go_wp2_with fail
    clear g0_0 g0_1 g0_2
    generalize (w.alloc (.cells #[.int .i64 p, (.slice A l.length cap)] 30)) = w1 at *
    refine (HNW _ HB_1.out.at).mono ?_
    rintro e w2 ⟨AF, cF, AT, cT, AZ, cZ, rfl, ho, hb⟩
    have Z2 := Lib.hid (within_of hb).size
    have W2 := Lib.hid (within_on W1.out (within_of hb) W1.out.size (.inr (Nat.le_refl _)))
    have HB_2 := Lib.hid (HB_1.out.within (within_of hb) (by omega))
    have BX_2 := Lib.hid (BX_1.out.within (within_of hb) (by omega))
    have OP_2 := Lib.hid (ho)
    clear ho hb
    have Z3 := Lib.hid (within_alloc w2 (.cells #[(.slice AF (runV p k c l).1.length cF), (.slice AT (runV p k c l).2.1.length cT), (.slice AZ (runV p k c l).2.2.length cZ)] 58)).size
    have W3 := Lib.hid (within_on W2.out (within_alloc w2 (.cells #[(.slice AF (runV p k c l).1.length cF), (.slice AT (runV p k c l).2.1.length cT), (.slice AZ (runV p k c l).2.2.length cZ)] 58)) W2.out.size (.inr (Nat.le_refl _)))
    have HB_3 := Lib.hid (HB_2.out.within (within_alloc w2 (.cells #[(.slice AF (runV p k c l).1.length cF), (.slice AT (runV p k c l).2.1.length cT), (.slice AZ (runV p k c l).2.2.length cZ)] 58)) (by omega))
    have BX_3 := Lib.hid (BX_2.out.within (within_alloc w2 (.cells #[(.slice AF (runV p k c l).1.length cF), (.slice AT (runV p k c l).2.1.length cT), (.slice AZ (runV p k c l).2.2.length cZ)] 58)) (by omega))
    have OP_3 := Lib.hid (OP_2.out.within (within_alloc w2 (.cells #[(.slice AF (runV p k c l).1.length cF), (.slice AT (runV p k c l).2.1.length cT), (.slice AZ (runV p k c l).2.2.length cZ)] 58)) (by omega))
    have Y3 := Lib.hid (show (w2.alloc (.cells #[(.slice AF (runV p k c l).1.length cF), (.slice AT (runV p k c l).2.1.length cT), (.slice AZ (runV p k c l).2.2.length cZ)] 58)).heap.size = w2.heap.size + 1 by simp)
    have hnew := cel3_new w2 (.slice AF (runV p k c l).1.length cF) (.slice AT (runV p k c l).2.1.length cT) (.slice AZ (runV p k c l).2.2.length cZ) 58
    have BP_3 := Lib.hid hnew
    clear hnew
    obtain ⟨g1_0, g1_1, g1_2, g1_3, g1_4, g1_5⟩ := BP_3.out.cells
    go_wp2_with fail
    clear g1_0 g1_1 g1_2 g1_3 g1_4 g1_5
    generalize (w2.alloc (.cells #[(.slice AF (runV p k c l).1.length cF), (.slice AT (runV p k c l).2.1.length cT), (.slice AZ (runV p k c l).2.2.length cZ)] 58)) = w3 at *
    go_ret
    exact ⟨by rw [HRV.out]; rfl, W3.out⟩
end Go.Proofs.Ytedjhnedkghhoaa
/- What ReachOf answers, and what stands while it is sought; rows of bools. No program's walk. No condition. -/
namespace Go.Proofs.Ytedjhnedkghhoaa
open Go.RowKit

def startF (V : Nat) : Nat → Bool := fun u => decide (u = V)
/-- The points that are reached from v. -/
noncomputable def reachL (p : Int) (l : List (Int × Int)) (v : Int) : List Int := if (isGB p l && (decide (0 ≤ v) && decide (v < p))) = true then outF p.toNat (iterF l p.toNat (startF v.toNat)) else []
theorem reachL_no {p v : Int} {l : List (Int × Int)} (h : isGB p l = false ∨ v < 0 ∨ p ≤ v) : reachL p l v = [] := by
  unfold reachL
  rw [if_neg]
  intro k
  simp only [Bool.and_eq_true, decide_eq_true_eq] at k
  rcases h with h | h | h
  · rw [h] at k; cases k.1
  · omega
  · omega
theorem reachL_yes {P V : Nat} {l : List (Int × Int)} (h : isGB (P : Int) l = true) (hv : V < P) : reachL P l V = outF P (iterF l P (startF V)) := by
  unfold reachL
  rw [if_pos]
  · rfl
  · rw [h]; simp; omega
theorem reachL_len (p v : Int) (l : List (Int × Int)) : (reachL p l v).length ≤ 8 := by
  unfold reachL
  split
  · rename_i h
    simp only [Bool.and_eq_true] at h
    have : IsG p l := by
      refine Classical.byContradiction fun g => ?_
      rw [isGB_no g] at h
      cases h.1
    exact Nat.le_trans (outF_len _ _) (by have := this.1; omega)
  · simp
theorem infoBool : (Try.prog.info? 4).map (fun i => (i.zero, i.size, i.bytes)) = some (some (.bool false), 1, 1) := by kernel_rfl
def boolCells (n : Nat) (S : Nat → Bool) : List Value := (rowB n S).map Value.bool
theorem boolCells_none (n : Nat) : List.replicate n (Value.bool false) = boolCells n (fun _ => false) := by
  apply List.ext_getElem?
  intro i
  by_cases hi : i < n
  · simp [boolCells, rowB, hi]
  · rw [List.getElem?_eq_none (by simp; omega), List.getElem?_eq_none (by simp [boolCells, rowB]; omega)]
theorem boolCells_start (n V : Nat) : (boolCells n (fun _ => false)).set V (.bool true) = boolCells n (startF V) := by
  unfold boolCells
  rw [← List.map_set]
  congr 1
  apply List.ext_getElem?
  intro i
  by_cases hi : i < n
  · rw [rowB_get _ _ _ hi, List.getElem?_set, rowB_get _ _ _ hi]
    simp only [rowB_len, startF]
    by_cases h : V = i
    · subst h; simp [hi]
    · have h' : ¬ i = V := fun e => h e.symm
      simp [h, h']
  · rw [List.getElem?_eq_none (by simp [rowB_len]; omega), List.getElem?_eq_none (by simp [rowB_len]; omega)]
theorem boolCells_get (n : Nat) (S : Nat → Bool) (v : Nat) (h : v < n) : (boolCells n S)[v]? = some (.bool (S v)) := by
  unfold boolCells
  rw [List.getElem?_map, rowB_get n S v h]
  rfl
theorem boolCells_set (n : Nat) (S : Nat → Bool) (x : Int × Int) (c : Bool) (h : (S x.1.toNat || S x.2.toNat) = c) :
    ((boolCells n S).set x.1.toNat (.bool c)).set x.2.toNat (.bool c) = boolCells n (relaxF S x) := by
  unfold boolCells
  rw [← List.map_set, ← List.map_set, ← h, rowB_set]
theorem fold_step (l : List (Int × Int)) (S : Nat → Bool) (j : Nat) (h : j < l.length) : (l.take (j + 1)).foldl relaxF S = relaxF ((l.take j).foldl relaxF S) (l.getD j (0, 0)) := by
  rw [take_getD l (0, 0) j h, List.foldl_append]
  rfl

/-- Where the walk of spec.ReachOf stands: the row of what is reached, the empty row of answers, the graph in its box. -/
def ReachSt (w wr : World) (P : Nat) (n : Nat) (A : Option Addr) (cap gs : Nat) (S : Nat → Bool) : Prop :=
  wr.ownsRow w.heap.size 4 1 (.slice (some ⟨gs, 0, none⟩) P P) P (boolCells P S) ∧ Box wr w.heap.size (P : Int) (.slice A n cap) ∧ wr.ownsRow w.heap.size 3 1 (.slice (some ⟨w.heap.size + 1, 0, none⟩) 0 0) 0 [] ∧ Below w.heap.size w wr ∧ w.heap.size + 1 < gs
theorem ReachSt.set {w wr : World} {P n : Nat} {A : Option Addr} {cap gs : Nat} {S S' : Nat → Bool} (h : ReachSt w wr P n A cap gs S) (a b : Nat) (u u' : Value) (hs : ((boolCells P S).set a u).set b u' = boolCells P S') : ReachSt w ((wr.setCell ⟨gs, a, none⟩ u).setCell ⟨gs, b, none⟩ u') P n A cap gs S' := by
  obtain ⟨h1, h2, h3, h4, h5⟩ := h
  have s1 := h1.stored a u
  have s2 := s1.1.stored b u'
  have hg := s1.2.trans_ s2.2
  rw [hs] at s2
  have hlt := h1.lt gs rfl
  exact ⟨s2.1, h2.grown hg (by omega), h3.kept hg (.inr (by simp [Value.ownBlock]; omega)), h4.grown hg (Nat.le_trans h4.size (Nat.le_refl _)) (fun k hk => by cases hk; exact hlt.1), h5⟩

theorem ReachSt.set1 {w wr : World} {P n : Nat} {A : Option Addr} {cap gs : Nat} {S S' : Nat → Bool} (h : ReachSt w wr P n A cap gs S) (a : Nat) (u : Value) (hs : (boolCells P S).set a u = boolCells P S') : ReachSt w (wr.setCell ⟨gs, a, none⟩ u) P n A cap gs S' := by
  obtain ⟨h1, h2, h3, h4, h5⟩ := h
  have s1 := h1.stored a u
  rw [hs] at s1
  have hlt := h1.lt gs rfl
  exact ⟨s1.1, h2.grown s1.2 (by omega), h3.kept s1.2 (.inr (by simp [Value.ownBlock]; omega)), h4.grown s1.2 (Nat.le_trans h4.size (Nat.le_refl _)) (fun k hk => by cases hk; exact hlt.1), h5⟩
theorem ReachSt.start {w w2 w3 : World} {P n : Nat} {A : Option Addr} {cap : Nat} (hb : Below w.heap.size w w2) (hx : Box w2 w.heap.size (P : Int) (.slice A n cap)) (ho : w2.ownsRow w.heap.size 3 1 (.slice (some ⟨w.heap.size + 1, 0, none⟩) 0 0) 0 []) (hs : w.heap.size + 1 < w2.heap.size)
    (hown3 : w3.ownsRow w2.heap.size 4 1 (.slice (some ⟨w2.heap.size, 0, none⟩) P P) P (List.replicate P (.bool false))) (hb3 : Below w2.heap.size w2 w3) : ReachSt w w3 P n A cap w2.heap.size (fun _ => false) := by
  rw [boolCells_none] at hown3
  exact ⟨own_base hown3 hb.size, hx.kept hb3, own_below ho hb3, below_on hb hb3 hb.size, hs⟩

/-- Where the walk stands that collects the answers. -/
def OutSt (w wr : World) (P n : Nat) (A : Option Addr) (cap gs : Nat) (S : Nat → Bool) (k : Nat) (A' : Option Addr) (c' : Nat) : Prop :=
  wr.ownsRow w.heap.size 3 1 (.slice A' (outF k S).length c') (outF k S).length (intCells (outF k S)) ∧ (∀ a, A' = some a → a.block ≠ gs ∧ a.block ≠ w.heap.size) ∧ wr.ownsRow w.heap.size 4 1 (.slice (some ⟨gs, 0, none⟩) P P) P (boolCells P S) ∧ Box wr w.heap.size (P : Int) (.slice A n cap) ∧ Below w.heap.size w wr
theorem ReachSt.out {w wr : World} {P n : Nat} {A : Option Addr} {cap gs : Nat} {S : Nat → Bool} (h : ReachSt w wr P n A cap gs S) : OutSt w wr P n A cap gs S 0 (some ⟨w.heap.size + 1, 0, none⟩) 0 :=
  ⟨h.2.2.1, fun a e => by cases e; exact ⟨by have := h.2.2.2.2; show w.heap.size + 1 ≠ gs; omega, by show w.heap.size + 1 ≠ w.heap.size; omega⟩, h.1, h.2.1, h.2.2.2.1⟩
theorem OutSt.no {w wr : World} {P n : Nat} {A : Option Addr} {cap gs : Nat} {S : Nat → Bool} {k : Nat} {A' : Option Addr} {c' : Nat} (h : OutSt w wr P n A cap gs S k A' c') (hs : S k = false) : OutSt w wr P n A cap gs S (k + 1) A' c' := by
  have e : outF (k + 1) S = outF k S := by rw [outF_succ, hs]; simp
  unfold OutSt at *
  rw [e]
  exact h
theorem OutSt.yes {w wr w' : World} {P n : Nat} {A : Option Addr} {cap gs : Nat} {S : Nat → Bool} {k : Nat} {A' A2 : Option Addr} {c' c2 : Nat} (h : OutSt w wr P n A cap gs S k A' c') (hs : S k = true)
    (ho : w'.ownsRow w.heap.size 3 1 (.slice A2 ((outF k S).length + 1) c2) ((outF k S).length + 1) (intCells (outF k S) ++ [.int .i64 k])) (hg : wr.grownBy w' (Value.slice A' (outF k S).length c').ownBlock)
    (hat : (Value.slice A2 ((outF k S).length + 1) c2).ownBlock = (Value.slice A' (outF k S).length c').ownBlock ∨ (Value.slice A2 ((outF k S).length + 1) c2).ownBlock = some (wr.heap.size + 1)) : OutSt w w' P n A cap gs S (k + 1) A2 c2 := by
  have e : outF (k + 1) S = outF k S ++ [(k : Int)] := by rw [outF_succ, hs]; simp
  have e2 : (outF (k + 1) S).length = (outF k S).length + 1 := by rw [e]; simp
  obtain ⟨h1, h2, h3, h4, h5⟩ := h
  have hgs := h3.lt gs rfl
  have hob : ∀ g, (Value.slice A' (outF k S).length c').ownBlock = some g → g ≠ gs ∧ g ≠ w.heap.size := fun g hgg => by
    cases A' with
    | none => cases hgg
    | some a => cases hgg; exact h2 a rfl
  unfold OutSt
  rw [e2, e]
  refine ⟨by rw [show intCells (outF k S ++ [(k : Int)]) = intCells (outF k S) ++ [.int .i64 k] by simp [intCells]]; exact ho, fun a ea => ?_, h3.kept hg ?_, ?_, h5.grown hg (Nat.le_trans h5.size (Nat.le_refl _)) fun g hgg => (h1.lt g hgg).1⟩
  · subst ea
    rcases hat with hat | hat
    · exact hob a.block hat.symm
    · have hat' : a.block = wr.heap.size + 1 := by simpa [Value.ownBlock] using hat
      have := h4.1
      exact ⟨by omega, by omega⟩
  · refine .inr fun hc => ?_
    exact (hob gs hc.symm).1 rfl
  · refine ⟨Nat.lt_of_lt_of_le h4.1 hg.size, ?_, ?_⟩
    · exact (World.cell?_of_block (hg.block w.heap.size h4.1 fun hc => (hob _ hc.symm).2 rfl)).trans h4.2.1
    · exact (World.cell?_of_block (a := ⟨w.heap.size, 1, none⟩) (hg.block w.heap.size h4.1 fun hc => (hob _ hc.symm).2 rfl)).trans h4.2.2
end Go.Proofs.Ytedjhnedkghhoaa
/- What the program's OnlyBars answers: the same as the specification's. No condition. -/
namespace Go.Proofs.Ytedjhnedkghhoaa
open Go.RowKit

theorem inS_step (zs : List Int) (j : Nat) (h : j < zs.length) (u : Nat) : inS (zs.take (j + 1)) u = (inS (zs.take j) u || decide ((u : Int) = zs.getD j 0)) := by
  unfold inS
  rw [take_getD zs 0 j h]
  simp [List.mem_append]
theorem boolCells_same (n : Nat) (S T : Nat → Bool) (h : ∀ u, u < n → S u = T u) : boolCells n S = boolCells n T := by
  unfold boolCells rowB
  congr 1
  exact List.map_congr_left fun u hu => h u (List.mem_range.1 hu)
theorem boolCells_one (n : Nat) (S : Nat → Bool) (a : Nat) : (boolCells n S).set a (.bool true) = boolCells n (fun u => S u || decide (u = a)) := by
  unfold boolCells
  rw [← List.map_set]
  congr 1
  apply List.ext_getElem?
  intro i
  by_cases hi : i < n
  · rw [rowB_get _ _ _ hi, List.getElem?_set, rowB_get _ _ _ hi]
    simp only [rowB_len]
    by_cases h : a = i
    · subst h; simp [hi]
    · have h' : ¬ i = a := fun e => h e.symm
      simp [h, h']
  · rw [List.getElem?_eq_none (by simp [rowB_len]; omega), List.getElem?_eq_none (by simp [rowB_len]; omega)]

set_option maxHeartbeats 4000000 in
set_option maxRecDepth 100000 in
theorem implOnly (p : Int) (l : List (Int × Int)) (zs : List Int) (A Z : Option Addr) (cap cz lo hi : Nat) (w : World) (hl : BarsAt w w.heap.size A l) (hz : IntsIn w lo hi Z zs) (hn : l.length ≤ 1048576) (hnz : zs.length ≤ 1048576) :
    Calls Try.prog 134 #[.agg #[.int .i64 p, .slice A l.length cap], .slice Z zs.length cz] w (GraphO w p (onlyL l zs)) := by
  have hA1 := new_below w (.cells #[.int .i64 p, .slice A l.length cap] 30)
  have hA2 := new_below (w.alloc (.cells #[.int .i64 p, .slice A l.length cap] 30)) (.cells #[.int .i64 0, .slice none 0 0] 30)
  have hsz1 : (w.alloc (.cells #[.int .i64 p, .slice A l.length cap] 30)).heap.size = w.heap.size + 1 := by simp
  have hsz2 : ((w.alloc (.cells #[.int .i64 p, .slice A l.length cap] 30)).alloc (.cells #[.int .i64 0, .slice none 0 0] 30)).heap.size = w.heap.size + 2 := by simp
  have HA := Lib.hid (below_on hA1 hA2 hA1.size)
  have HLW := Lib.hid hl
  have HZW := Lib.hid hz
  have hB := (box_new w p (.slice A l.length cap) 30).kept hA2
  have BX := Lib.hid hB
  have hR := box_new (w.alloc (.cells #[.int .i64 p, .slice A l.length cap] 30)) 0 (.slice none 0 0) 30
  have hF : ((w.alloc (.cells #[.int .i64 p, .slice A l.length cap] 30)).alloc (.cells #[.int .i64 0, .slice none 0 0] 30)).frozen? ⟨(w.alloc (.cells #[.int .i64 p, .slice A l.length cap] 30)).heap.size, 0, none⟩ = false ∧ ((w.alloc (.cells #[.int .i64 p, .slice A l.length cap] 30)).alloc (.cells #[.int .i64 0, .slice none 0 0] 30)).frozen? ⟨(w.alloc (.cells #[.int .i64 p, .slice A l.length cap] 30)).heap.size, 1, none⟩ = false := ⟨World.frozen?_alloc_at _ _ _ _ rfl, World.frozen?_alloc_at _ _ _ _ rfl⟩
  rw [hsz1] at hR hF
  have HR := Lib.hid hR
  have HF := Lib.hid hF
  have HSZ := Lib.hid hsz2
  clear hl hz hA1 hA2 hsz1 hR hF hsz2
  go_enter Try.func134, Try.ntmps134
  obtain ⟨_, g1, g2⟩ := hB
  go_wp2_with (at_make; generalize ((w.alloc (.cells #[.int .i64 p, .slice A l.length cap] 30)).alloc (.cells #[.int .i64 0, .slice none 0 0] 30)) = w1 at *; refine wpList_mkn _ rfl _ _ 164 rfl w1.heap.size 4 (.bool false) 1 Try.underlying164 infoBool rfl _ _ _ _ l.length rfl rfl rfl rfl (by omega) (by unfold maxLen; omega) (Nat.le_refl _) ?_; intro w2 hown2 hb2; have HO2 := Lib.hid hown2; have HB2 := Lib.hid hb2; clear hown2 hb2)
  clear g1 g2
  go_loopw [17] (fun i wr => ∃ j : Nat, j ≤ zs.length ∧ i = .int .i64 j ∧ wr.ownsRow w1.heap.size 4 1 (.slice (some ⟨w1.heap.size, 0, none⟩) l.length l.length) l.length (boolCells l.length (inS (zs.take j))) ∧ Below w1.heap.size w1 wr) (fun i _ => zs.length - (intOf i).toNat)
  case atStart => exact ⟨0, by omega, rfl, by have := HO2.out; rw [boolCells_none] at this; rw [boolCells_same _ _ (fun _ => false) (fun u _ => by simp [inS])]; exact this, HB2.out⟩
  case round =>
    obtain ⟨j, hj, rfl, hown, hb⟩ := hrel
    have HB := Lib.hid hb
    have HO := Lib.hid hown
    have hbs := hb.size
    clear hb
    by_cases hlt : j < zs.length
    · have hij : (j : Int) < (zs.length : Int) := by omega
      obtain ⟨bz, oz, rfl, hz1, hz2, hcell⟩ := HZW.out.2 (by omega)
      have hbz : bz < w.heap.size := Nat.lt_of_lt_of_le hz2 HZW.out.1
      have hc := ((below_on HA.out HB.out HA.out.size).cell (p := ⟨bz, oz + j, none⟩) hbz).trans (hcell j hlt)
      clear hcell
      have HS := Lib.hid (inS_step zs j hlt)
      obtain ⟨z, hz⟩ : ∃ z, zs.getD j 0 = z := ⟨_, rfl⟩
      rw [hz] at hc HS
      clear hz
      by_cases h0 : 0 ≤ z
      · by_cases h1 : z < (l.length : Int)
        · obtain ⟨a, rfl⟩ : ∃ a : Nat, z = (a : Int) := ⟨z.toNat, by omega⟩
          have han : a < l.length := by omega
          have hca := (hown.cellAt a (by omega)).trans (boolCells_get l.length _ a han)
          have hfa := hown.frozenAt a
          have hst := hown.stored a (.bool true)
          have HB3 := Lib.hid (HB.out.grown hst.2 hbs fun g e => by cases e; exact Nat.le_refl _)
          have ho3 := hst.1
          rw [boolCells_one _ _ a] at ho3
          have HO3 := Lib.hid ho3
          have HE := Lib.hid (boolCells_same l.length (inS (zs.take (j + 1))) (fun u => inS (zs.take j) u || decide (u = a)) fun u _ => by rw [HS.out u]; congr 1; simp; omega)
          clear hown hst ho3
          go_wp2_with fail
          go_roundw
          case rel => exact ⟨j + 1, by omega, by go_num, by rw [HE.out]; exact HO3.out, HB3.out⟩
          case measure => simp [intOf]; omega
        · have HE := Lib.hid (boolCells_same l.length (inS (zs.take (j + 1))) (inS (zs.take j)) fun u hu => by rw [HS.out u, decide_eq_false (by omega), Bool.or_false])
          clear hown
          go_wp2_with fail
          go_roundw
          case rel => exact ⟨j + 1, by omega, by go_num, by rw [HE.out]; exact HO.out, HB.out⟩
          case measure => simp [intOf]; omega
      · have HE := Lib.hid (boolCells_same l.length (inS (zs.take (j + 1))) (inS (zs.take j)) fun u hu => by rw [HS.out u, decide_eq_false (by omega), Bool.or_false])
        clear hown
        go_wp2_with fail
        go_roundw
        case rel => exact ⟨j + 1, by omega, by go_num, by rw [HE.out]; exact HO.out, HB.out⟩
        case measure => simp [intOf]; omega
    · obtain rfl : j = zs.length := by omega
      obtain ⟨wq, rfl⟩ : ∃ x, x = wr := ⟨wr, rfl⟩
      have hown' := HO.out
      rw [List.take_length] at hown'
      have HOK := Lib.hid hown'
      have hlt1 : w1.heap.size < wq.heap.size := (hown'.lt _ rfl).2
      have HG := Lib.hid (gbox_nil wq w.heap.size [w.heap.size, w.heap.size + 1, w1.heap.size] p (Nat.le_trans HA.out.size hbs) (fun o ho => by have := HSZ.out; simp at ho; omega))
      have BXR := Lib.hid (BX.out.kept HB.out)
      have HRR := Lib.hid (HR.out.kept HB.out)
      have HFR := Lib.hid (show wq.frozen? ⟨w.heap.size + 1, 0, none⟩ = false ∧ wq.frozen? ⟨w.heap.size + 1, 1, none⟩ = false from ⟨(HB.out.frozen (p := ⟨w.heap.size + 1, 0, none⟩) HR.out.1).trans HF.out.1, (HB.out.frozen (p := ⟨w.heap.size + 1, 1, none⟩) HR.out.1).trans HF.out.2⟩)
      have HAW := Lib.hid (below_on HA.out HB.out HA.out.size)
      obtain ⟨_, g1, g2⟩ := BXR.out
      clear hown hown' hlt
      go_wp2_with fail
      clear g1 g2
      go_loopw [39] (fun i wr => ∃ k : Nat, k ≤ l.length ∧ i = .int .i64 k ∧ ∃ A' c', GBox w.heap.size wq wr wq.heap.size [w.heap.size, w.heap.size + 1, w1.heap.size] p A' c' (onlyK l (inS zs) k)) (fun i _ => l.length - (intOf i).toNat)
      case atStart => exact ⟨0, by omega, rfl, _, _, HG.out⟩
      case round =>
        obtain ⟨k, hk, rfl, A', c', hst⟩ := hrel
        have HST := Lib.hid hst
        have HBW := Lib.hid (HAW.out.trans hst.2.2.2.2.2.1)
        have hbs' : w.heap.size ≤ wr.heap.size := Nat.le_of_lt (Nat.lt_of_le_of_lt hst.2.2.2.2.2.2 hst.1.1)
        clear hst
        by_cases hlt : k < l.length
        · have hik : (k : Int) < (l.length : Int) := by omega
          obtain ⟨b0, off, rfl, hbB, hcell⟩ := HLW.out (by omega)
          have hc1 := (HBW.out.cell (p := ⟨b0, off + k * 2, none⟩) hbB).trans (hcell k hlt).1
          have hc2 := (HBW.out.cell (p := ⟨b0, off + k * 2 + 1, none⟩) hbB).trans (hcell k hlt).2
          obtain ⟨x, hx⟩ : ∃ x, l.getD k (0, 0) = x := ⟨_, rfl⟩
          rw [hx] at hc1 hc2
          obtain ⟨x1, x2⟩ := x
          simp only at hc1 hc2
          clear hcell
          have hal := new_below wr (.cells #[.int .i64 x1, .int .i64 x2] 103)
          have HSA := Lib.hid (HST.out.below hal)
          have hsk := (HSA.out.cell (o := w1.heap.size) (k := k) (by simp)).trans ((HOK.out.cellAt k (by omega)).trans (boolCells_get l.length (inS zs) k hlt))
          clear hal
          rcases hs : inS zs k with _ | _
          · have HE := Lib.hid (show onlyK l (inS zs) (k + 1) = onlyK l (inS zs) k by rw [onlyK, hs]; simp)
            rw [hs] at hsk
            go_wp2_with fail
            go_roundw
            case rel => exact ⟨k + 1, by omega, by go_num, A', c', by rw [HE.out]; exact HSA.out⟩
            case measure => simp [intOf]; omega
          · have HE := Lib.hid (show onlyK l (inS zs) (k + 1) = onlyK l (inS zs) k ++ [(x1, x2)] by rw [onlyK, hs, hx]; simp)
            rw [hs] at hsk
            have hll := onlyK_len l (inS zs) k
            obtain ⟨L, hL⟩ : ∃ L, L = onlyK l (inS zs) k := ⟨_, rfl⟩
            rw [← hL] at HSA HE hll
            clear hL hx
            obtain ⟨hlt0, g1, g2⟩ := HSA.out.1
            have gf := HSA.out.2.1
            have hbs2 : w.heap.size ≤ (wr.alloc (.cells #[.int .i64 x1, .int .i64 x2] 103)).heap.size := by simp; omega
            go_wp2_with (at_builtin; refine wpList_at _ rfl _ _ 28 rfl w.heap.size 103 (.agg #[.int .i64 0, .int .i64 0]) 2 16 Try.underlying28 infoBar rfl (by decide) _ _ _ rfl HSA.out.2.2.2.1 #[.int .i64 x1, .int .i64 x2] 1 rfl (by simp [Value.oneCell']) _ 1 (by simp [Act.eval]) (by omega) (by unfold maxLen; omega) hbs2 ?_; intro v' w' ho hg hat _; obtain ⟨c0, c1, f1, A2, c2, rfl, hG2⟩ := HSA.out.push (x1, x2) ho hg hat; have HG2 := Lib.hid hG2; clear ho hg hat hG2)
            go_roundw
            case rel => exact ⟨k + 1, by omega, by go_num, A2, c2, by rw [HE.out]; exact HG2.out⟩
            case measure => simp [intOf]; omega
        · obtain rfl : k = l.length := by omega
          obtain ⟨_, g1, g2⟩ := HST.out.1
          have r0 := (HST.out.cell (o := w.heap.size + 1) (k := 0) (by simp)).trans HRR.out.2.1
          have r1 := (HST.out.cell (o := w.heap.size + 1) (k := 1) (by simp)).trans HRR.out.2.2
          have f0 := (HST.out.frozen (o := w.heap.size + 1) (k := 0) (by simp)).trans HFR.out.1
          have f1 := (HST.out.frozen (o := w.heap.size + 1) (k := 1) (by simp)).trans HFR.out.2
          have hr := HST.out.ret (o := w.heap.size + 1) (by simp) (by omega) (.int .i64 p) (.slice A' (onlyK l (inS zs) l.length).length c')
          have HRT := Lib.hid hr
          have s0 : ((wr.setCell ⟨w.heap.size + 1, 0, none⟩ (.int .i64 p)).setCell ⟨w.heap.size + 1, 1, none⟩ (.slice A' (onlyK l (inS zs) l.length).length c')).cell? ⟨w.heap.size + 1, 0, none⟩ = some (.int .i64 p) := by
            rw [World.cell?_setCell_other _ _ _ _ (by intro e; simp at e)]
            exact World.cell?_setCell_same _ _ _ r0
          have s1 : ((wr.setCell ⟨w.heap.size + 1, 0, none⟩ (.int .i64 p)).setCell ⟨w.heap.size + 1, 1, none⟩ (.slice A' (onlyK l (inS zs) l.length).length c')).cell? ⟨w.heap.size + 1, 1, none⟩ = some (.slice A' (onlyK l (inS zs) l.length).length c') := by
            have r2 : (wr.setCell ⟨w.heap.size + 1, 0, none⟩ (.int .i64 p)).cell? ⟨w.heap.size + 1, 1, none⟩ = some (.slice none 0 0) := by
              rw [World.cell?_setCell_other _ _ _ _ (by intro e; simp at e)]
              exact r1
            exact World.cell?_setCell_same _ _ _ r2
          clear hr
          go_wp2_with fail
          refine bodyPost_ret (v := .agg #[.int .i64 p, .slice A' (onlyK l (inS zs) l.length).length c']) ?_ rfl ⟨A', c', rfl, HRT.out.1, HAW.out.trans HRT.out.2⟩
          simp [results, Try.results134, go_sem, s0, s1]
end Go.Proofs.Ytedjhnedkghhoaa
/- What impl.RankOfSet answers. No condition. -/
namespace Go.Proofs.Ytedjhnedkghhoaa
open Go.RowKit

set_option maxHeartbeats 2000000 in
set_option maxRecDepth 100000 in
theorem implRankSet (p k c : Int) (l : List (Int × Int)) (zs : List Int) (A Z : Option Addr) (cap cz lo hi : Nat) (w : World) (hl : BarsAt w w.heap.size A l) (hz : IntsIn w lo hi Z zs) (hn : l.length ≤ 1048576) (hnz : zs.length ≤ 1048576) :
    Calls Try.prog 65 #[.agg #[.int .i64 p, .slice A l.length cap], .int .i64 k, .int .i64 c, .slice Z zs.length cz] w fun e w' => e = .returned (.int .i64 (rankSV p k c l zs)) ∧ Below w.heap.size w w' := by
  have HISG : ∀ W : World, BarsAt W W.heap.size A l → Calls Try.prog 102 #[.agg #[.int .i64 p, .slice A l.length cap]] W fun e w' => e = .returned (.bool (isGB p l)) ∧ Below W.heap.size W w' := fun W h => implIsGraph p l A cap W h hn
  obtain ⟨rv, hrv⟩ : ∃ rv, rankSV p k c l zs = rv := ⟨_, rfl⟩
  rw [hrv]
  unfold rankSV at hrv
  cases hg : isGB p l with
  | false =>
    have HRV := Lib.hid (show rv = -1 from by rw [← hrv, hg]; rfl)
    clear hrv
    rw [hg] at HISG
    clear hg
    have W0 := Lib.hid (Below.refl w.heap.size w)
    have HB_0 := Lib.hid (bars_in hl)
    have HZ_0 := Lib.hid (hz)
    clear hl hz
    have Z1 := Lib.hid (within_alloc w (.cells #[.int .i64 p, (.slice A l.length cap)] 30)).size
    have W1 := Lib.hid (within_on W0.out (within_alloc w (.cells #[.int .i64 p, (.slice A l.length cap)] 30)) W0.out.size (.inr (Nat.le_refl _)))
    have HB_1 := Lib.hid (HB_0.out.within (within_alloc w (.cells #[.int .i64 p, (.slice A l.length cap)] 30)) (by omega))
    have HZ_1 := Lib.hid (HZ_0.out.within (within_alloc w (.cells #[.int .i64 p, (.slice A l.length cap)] 30)) (by omega))
    have Y1 := Lib.hid (show (w.alloc (.cells #[.int .i64 p, (.slice A l.length cap)] 30)).heap.size = w.heap.size + 1 by simp)
    have hnew := box_new w p (.slice A l.length cap) 30
    have BX_1 := Lib.hid hnew
    clear hnew
    go_enter Try.func65, Try.ntmps65
    obtain ⟨g0_0, g0_1, g0_2⟩ := BX_1.out
    go_wp2_with fail
    clear g0_0 g0_1 g0_2
    generalize (w.alloc (.cells #[.int .i64 p, (.slice A l.length cap)] 30)) = w1 at *
    refine (HISG _ HB_1.out.at).mono ?_
    rintro e w2 ⟨rfl, hb⟩
    have Z2 := Lib.hid (within_of hb).size
    have W2 := Lib.hid (within_on W1.out (within_of hb) W1.out.size (.inr (Nat.le_refl _)))
    have HB_2 := Lib.hid (HB_1.out.within (within_of hb) (by omega))
    have HZ_2 := Lib.hid (HZ_1.out.within (within_of hb) (by omega))
    have BX_2 := Lib.hid (BX_1.out.within (within_of hb) (by omega))
    clear hb
    go_wp2_with fail
    go_ret
    exact ⟨by rw [HRV.out]; rfl, W2.out⟩
  | true =>
    have HRV := Lib.hid (show rv = rankV p k c (onlyL l zs) from by rw [← hrv, hg]; rfl)
    clear hrv
    rw [hg] at HISG
    clear hg
    have W0 := Lib.hid (Below.refl w.heap.size w)
    have HB_0 := Lib.hid (bars_in hl)
    have HZ_0 := Lib.hid (hz)
    clear hl hz
    have Z1 := Lib.hid (within_alloc w (.cells #[.int .i64 p, (.slice A l.length cap)] 30)).size
    have W1 := Lib.hid (within_on W0.out (within_alloc w (.cells #[.int .i64 p, (.slice A l.length cap)] 30)) W0.out.size (.inr (Nat.le_refl _)))
    have HB_1 := Lib.hid (HB_0.out.within (within_alloc w (.cells #[.int .i64 p, (.slice A l.length cap)] 30)) (by omega))
    have HZ_1 := Lib.hid (HZ_0.out.within (within_alloc w (.cells #[.int .i64 p, (.slice A l.length cap)] 30)) (by omega))
    have Y1 := Lib.hid (show (w.alloc (.cells #[.int .i64 p, (.slice A l.length cap)] 30)).heap.size = w.heap.size + 1 by simp)
    have hnew := box_new w p (.slice A l.length cap) 30
    have BX_1 := Lib.hid hnew
    clear hnew
    go_enter Try.func65, Try.ntmps65
    obtain ⟨g0_0, g0_1, g0_2⟩ := BX_1.out
    go_wp2_with fail
    clear g0_0 g0_1 g0_2
    generalize (w.alloc (.cells #[.int .i64 p, (.slice A l.length cap)] 30)) = w1 at *
    refine (HISG _ HB_1.out.at).mono ?_
    rintro e w2 ⟨rfl, hb⟩
    have Z2 := Lib.hid (within_of hb).size
    have W2 := Lib.hid (within_on W1.out (within_of hb) W1.out.size (.inr (Nat.le_refl _)))
    have HB_2 := Lib.hid (HB_1.out.within (within_of hb) (by omega))
    have HZ_2 := Lib.hid (HZ_1.out.within (within_of hb) (by omega))
    have BX_2 := Lib.hid (BX_1.out.within (within_of hb) (by omega))
    clear hb
    obtain ⟨g1_0, g1_1, g1_2⟩ := BX_2.out
    go_wp2_with fail
    clear g1_0 g1_1 g1_2
    refine (implOnly p l zs A Z cap cz _ _ _ HB_2.out.at HZ_2.out hn hnz).mono ?_
    rintro e w3 ⟨AO, cO, rfl, ho, hb⟩
    have Z3 := Lib.hid (within_of hb).size
    have W3 := Lib.hid (within_on W2.out (within_of hb) W2.out.size (.inr (Nat.le_refl _)))
    have HB_3 := Lib.hid (HB_2.out.within (within_of hb) (by omega))
    have HZ_3 := Lib.hid (HZ_2.out.within (within_of hb) (by omega))
    have BX_3 := Lib.hid (BX_2.out.within (within_of hb) (by omega))
    have OB_3 := Lib.hid (ho.bars)
    clear ho hb
    go_wp2_with fail
    refine (implRank p k c (onlyL l zs) AO cO _ OB_3.out.at (onlyL_len l zs hn)).mono ?_
    rintro e w4 ⟨rfl, hb⟩
    have Z4 := Lib.hid (within_of hb).size
    have W4 := Lib.hid (within_on W3.out (within_of hb) W3.out.size (.inr (Nat.le_refl _)))
    have HB_4 := Lib.hid (HB_3.out.within (within_of hb) (by omega))
    have HZ_4 := Lib.hid (HZ_3.out.within (within_of hb) (by omega))
    have BX_4 := Lib.hid (BX_3.out.within (within_of hb) (by omega))
    have OB_4 := Lib.hid (OB_3.out.within (within_of hb) (by omega))
    clear hb
    go_wp2_with fail
    go_ret
    exact ⟨by rw [HRV.out]; rfl, W4.out⟩
end Go.Proofs.Ytedjhnedkghhoaa
/- What (barSet).rank answers: whatever the order in which the map is ranged over. No condition. -/
namespace Go.Proofs.Ytedjhnedkghhoaa
open Go.RowKit

open Go.Maps

/-- What stands while the map's keys are collected. -/
structure RkP (w W : World) (b n : Nat) (D : DataW Unit) (v0 v1 v2 v3 v4 : Value) (A : Option Addr) (l : List (Int × Int)) (left : Lit → Bool) (cnt : Nat) (ks : List Int) (Ao : Option Addr) (co lo hi : Nat) : Prop where
  rg : ORng W b (w.heap.size + 1) n D left cnt
  row : OwnR W lo hi Ao co ks
  lo : w.heap.size + 2 ≤ lo ∧ lo ≤ W.heap.size
  num : ks.length + cnt ≤ n
  col : CollS D left ks
  bx : Cel5 W w.heap.size 129 v0 v1 v2 v3 v4
  bars : BarsIn W 0 w.heap.size A l
  bel : Below w.heap.size w W
section
variable {w W W1 W2 : World} {b n : Nat} {D : DataW Unit} {v0 v1 v2 v3 v4 : Value} {A : Option Addr} {l : List (Int × Int)} {left : Lit → Bool} {cnt cnt1 : Nat} {ks : List Int} {Ao A2 : Option Addr} {co lo hi c2 lo2 hi2 : Nat} {x : Int}
theorem RkP.row1 (h : RkP w W b n D v0 v1 v2 v3 v4 A l left cnt ks Ao co lo hi) (hg : W.grownBy W1 (some (w.heap.size + 1))) : OwnR W1 lo hi Ao co ks ∧ lo ≤ W1.heap.size :=
  ⟨h.row.within (within_grown hg) (.inr (by have := h.lo; omega)), Nat.le_trans h.lo.2 hg.size⟩
theorem RkP.step (h : RkP w W b n D v0 v1 v2 v3 v4 A l left cnt ks Ao co lo hi) (hb : b < w.heap.size) {left' : Lit → Bool} (hr : ORng W1 b (w.heap.size + 1) n D left' cnt1) (hlt : cnt1 < cnt) (hg : W.grownBy W1 (some (w.heap.size + 1))) (hc : CollS D left' (ks ++ [x]))
    (ho : OwnR W2 lo2 hi2 A2 c2 (ks ++ [x])) (hd : (lo2 = lo ∧ hi2 = hi) ∨ (W1.heap.size ≤ lo2 ∧ lo2 ≤ W2.heap.size ∧ hi2 ≤ W2.heap.size)) (hw : Within lo hi W1 W2) :
    RkP w W2 b n D v0 v1 v2 v3 v4 A l left' cnt1 (ks ++ [x]) A2 c2 lo2 hi2 := by
  obtain ⟨h1, h2, h3, h4, h5, h6, h7, h8⟩ := h
  have w1 := within_grown hg
  have s0 := h8.size
  have s1 := w1.size
  have s2 := hw.size
  have hr1 := hr.lt
  have hb1 : b < W1.heap.size := by omega
  refine ⟨orng_block hr (hw.block b hb1 (.inl (by omega))) (hw.block _ hr1 (.inl (by omega))), ho, ?_, by simp; omega, hc, (h6.within w1 (.inl (by omega))).within hw (.inl (by omega)), (h7.within w1 (.inl (by omega))).within hw (.inl (by omega)), within_on (within_on h8 w1 s0 (.inl (by omega))) hw (by omega) (.inl (by omega))⟩
  rcases hd with ⟨rfl, rfl⟩ | hd
  · omega
  · omega
end

set_option maxHeartbeats 4000000 in
set_option maxRecDepth 100000 in
theorem mrank (p k c : Int) (l : List (Int × Int)) (A : Option Addr) (cap b n : Nat) (zs : List Int) (w : World) (hl : BarsAt w w.heap.size A l) (hs : SetM w b n zs) (hn : l.length ≤ 1048576) (hn2 : n ≤ 1048576) :
    Calls Try.prog 132 #[bsV p A l.length cap k c b] w fun e w' => e = .returned (.int .i64 (rankSV p k c l zs)) ∧ Below w.heap.size w w' := by
  obtain ⟨rv, hrv⟩ : ∃ rv, rankSV p k c l zs = rv := ⟨_, rfl⟩
  rw [hrv]
  have HRV := Lib.hid hrv
  clear hrv
  have hbl := hs.lt
  obtain ⟨D, hown, hsay⟩ := hs
  have HSAY := Lib.hid hsay
  have hA := new_below w (.cells #[.int .i64 p, .slice A l.length cap, .int .i64 k, .int .i64 c, .map (some b)] 129)
  have hsz : (w.alloc (.cells #[.int .i64 p, .slice A l.length cap, .int .i64 k, .int .i64 c, .map (some b)] 129)).heap.size = w.heap.size + 1 := by simp
  have HA := Lib.hid hA
  have HBX := Lib.hid (cel5_new w (.int .i64 p) (.slice A l.length cap) (.int .i64 k) (.int .i64 c) (.map (some b)) 129)
  have HOM := Lib.hid (omap_block hown (hA.block b hbl))
  have HBR := Lib.hid ((bars_in hl).within (within_of hA) (.inr (Nat.zero_le _)))
  have HSZ := Lib.hid hsz
  have HBL := Lib.hid hbl
  clear hl hown hsay hA hsz hbl
  go_enter Try.func132, Try.ntmps132
  obtain ⟨x0, x1, x2, x3, x4⟩ := HBX.out.cells
  go_wp2_with (first
    | (at_range; refine wpList_range_own _ rfl _ 127 rfl 3 4 lawI Try.underlying127 _ b n D rfl HOM.out ?_; intro w2 hrg0 hg0 hs0)
    | go_in)
  try go_frame
  clear x0 x1 x2 x3 x4
  have HST := Lib.hid (show RkP w w2 b n D (.int .i64 p) (.slice A l.length cap) (.int .i64 k) (.int .i64 c) (.map (some b)) A l (Maps.has D) (Maps.size D) [] none 0 w2.heap.size w2.heap.size from by
    have hw := within_none hg0
    have hsz := HSZ.out
    rw [hsz] at hrg0 hs0
    have hsl := HOM.out.size_le
    exact ⟨hrg0, ⟨Nat.le_refl _, .inl ⟨rfl, rfl, rfl⟩⟩, by omega, by simpa using hsl, CollS.start D, HBX.out.within hw (.inr (Nat.zero_le _)), HBR.out.within hw (.inr (Nat.zero_le _)), within_on HA.out hw (by omega) (.inr (Nat.zero_le _))⟩)
  clear hrg0 hg0 hs0
  rw [HSZ.out]
  go_loopw [3, 4] (fun u _ wr => ∃ (left : Lit → Bool) (cnt : Nat) (ks : List Int) (Ao : Option Addr) (co lo hi : Nat), u = .slice Ao ks.length co ∧ RkP w wr b n D (.int .i64 p) (.slice A l.length cap) (.int .i64 k) (.int .i64 c) (.map (some b)) A l left cnt ks Ao co lo hi) (fun _ _ wr => wr.rangeLeft b (w.heap.size + 1))
  case atStart => exact ⟨_, _, [], none, 0, _, _, rfl, HST.out⟩
  case round =>
    obtain ⟨left, cnt, ks, Ao, co, lo, hi, rfl, hst⟩ := hrel
    have HS := Lib.hid hst
    obtain ⟨x0, x1, x2, x3, x4⟩ := hst.bx.cells
    have hrg := hst.rg
    clear hst
    go_wp2_with (first
      | (at_next; refine wpList_next_ranges _ rfl _ rfl 3 lawI (plainElem (H := Unit) Try.prog 4) (Value.int .i64) Value.bool (fun key kl hk => by obtain ⟨x, hx, _⟩ := Maps.keyOf_int_inv Try.underlying3 hk; exact ⟨x, hx⟩) (fun v y hv => bool_inv Try.underlying4 hv) b (w.heap.size + 1) n D left cnt rfl hrg ?_ ?_)
      | go_in)
    · intro hc0 hl0
      have HE := Lib.hid ((rankSV_same (p := p) (k := k) (c := c) (l := l) fun j hj => HS.out.col.done HSAY.out hl0 l.length hn j hj).trans HRV.out)
      have hks : ks.length ≤ 1048576 := by have := HS.out.num; omega
      have HKS := Lib.hid hks
      clear hc0 hl0 hrg hks
      go_wp2_with (go_at_call 65; refine (implRankSet p k c l ks A Ao cap co lo hi _ HS.out.bars.at HS.out.row.ints.reads hn HKS.out).mono ?_; rintro e w9 ⟨rfl, hb⟩; rw [HE.out]; have HB9 := Lib.hid hb; clear hb)
      go_ret
      exact ⟨rfl, below_on HS.out.bel HB9.out HS.out.bel.size⟩
    · intro x
      constructor
      all_goals
        intro kl yd yp w3 cnt1 hkey hlk hv hat hrg1 hlt hg1 hs1 hen
        obtain ⟨x', ex, rfl, hwx⟩ := Maps.keyOf_int_inv Try.underlying3 hkey
        cases ex
        have HR1 := Lib.hid (HS.out.row1 hg1)
        have HC := Lib.hid (HS.out.col.step hwx hat)
        have HRG1 := Lib.hid hrg1
        have HG1 := Lib.hid hg1
        have HLT := Lib.hid hlt
        have HRG := Lib.hid hrg
        have hks : ks.length ≤ 1048576 := by have := HS.out.num; omega
        have HKS := Lib.hid hks
        clear hs1 hrg1 hg1 hrg hat hlk hv hkey hlt hks
        go_wp2_with (first
          | (at_builtin; refine wpList_pushR _ rfl _ _ rfl lo hi Ao co ks x rfl HR1.out.1 _ (by first | rfl | (simp only [World.size_setCell]; rfl)) HKS.out HR1.out.2 ?_; intro A5 c5 w15 lo5 hi5 hr5 hor5 hw5; have HN := Lib.hid (HS.out.step HBL.out HRG1.out HLT.out HG1.out HC.out hr5 hor5 hw5); clear hr5 hor5 hw5; go_frame)
          | go_in)
        go_roundw
        case rel => exact ⟨_, cnt1, ks ++ [x], A5, c5, lo5, hi5, by simp, HN.out⟩
        case measure => rw [HN.out.rg.left_eq, HRG.out.left_eq]; exact HLT.out
end Go.Proofs.Ytedjhnedkghhoaa
/- What impl.IsIndependent answers. No condition. -/
namespace Go.Proofs.Ytedjhnedkghhoaa
open Go.RowKit

set_option maxHeartbeats 4000000 in
set_option maxRecDepth 100000 in
theorem implInd (p k c : Int) (l : List (Int × Int)) (zs : List Int) (A Z : Option Addr) (cap cz lo hi : Nat) (w : World) (hl : BarsAt w w.heap.size A l) (hz : IntsIn w lo hi Z zs) (hn : l.length ≤ 1048576) (hnz : zs.length ≤ 1048576) :
    Calls Try.prog 70 #[.agg #[.int .i64 p, .slice A l.length cap], .int .i64 k, .int .i64 c, .slice Z zs.length cz] w fun e w' => e = .returned (.bool (indB p k c l zs)) ∧ Below w.heap.size w w' := by
  obtain ⟨rv, hrv⟩ : ∃ rv, indB p k c l zs = rv := ⟨_, rfl⟩
  rw [hrv]
  by_cases hbad : setB p l zs = false ∨ rangeB k c = false
  · have HRV := Lib.hid (show rv = false from by rw [← hrv]; rcases hbad with h | h; exact indB_set h; exact indB_rng h)
    have HBAD := Lib.hid hbad
    clear hrv hbad
    have hzh := hz.1
    have W0 := Lib.hid (Below.refl w.heap.size w)
    have HB_0 := Lib.hid (bars_in hl)
    have HZ_0 := Lib.hid (hz)
    clear hl hz
    have Z1 := Lib.hid (within_alloc w (.cells #[.int .i64 p, (.slice A l.length cap)] 30)).size
    have W1 := Lib.hid (within_on W0.out (within_alloc w (.cells #[.int .i64 p, (.slice A l.length cap)] 30)) W0.out.size (.inr (Nat.le_refl _)))
    have HB_1 := Lib.hid (HB_0.out.within (within_alloc w (.cells #[.int .i64 p, (.slice A l.length cap)] 30)) (by omega))
    have HZ_1 := Lib.hid (HZ_0.out.within (within_alloc w (.cells #[.int .i64 p, (.slice A l.length cap)] 30)) (by omega))
    have Y1 := Lib.hid (show (w.alloc (.cells #[.int .i64 p, (.slice A l.length cap)] 30)).heap.size = w.heap.size + 1 by simp)
    have hnew := box_new w p (.slice A l.length cap) 30
    have BX_1 := Lib.hid hnew
    clear hnew
    go_enter Try.func70, Try.ntmps70
    obtain ⟨g0_0, g0_1, g0_2⟩ := BX_1.out
    go_wp2_with fail
    clear g0_0 g0_1 g0_2
    generalize (w.alloc (.cells #[.int .i64 p, (.slice A l.length cap)] 30)) = w1 at *
    refine (newSet_no p k c l zs A Z cap cz _ _ _ HB_1.out.at HZ_1.out hn hnz HBAD.out).mono ?_
    rintro e w2 ⟨rfl, hb⟩
    have Z2 := Lib.hid (within_of hb).size
    have W2 := Lib.hid (within_on W1.out (within_of hb) W1.out.size (.inr (Nat.le_refl _)))
    have HB_2 := Lib.hid (HB_1.out.within (within_of hb) (by omega))
    have HZ_2 := Lib.hid (HZ_1.out.within (within_of hb) (by omega))
    have BX_2 := Lib.hid (BX_1.out.within (within_of hb) (by omega))
    clear hb
    have Z3 := Lib.hid (within_alloc w2 (.cells #[(.int .i64 0), (.slice none 0 0), (.int .i64 0), (.int .i64 0), (.map none)] 129)).size
    have W3 := Lib.hid (within_on W2.out (within_alloc w2 (.cells #[(.int .i64 0), (.slice none 0 0), (.int .i64 0), (.int .i64 0), (.map none)] 129)) W2.out.size (.inr (Nat.le_refl _)))
    have HB_3 := Lib.hid (HB_2.out.within (within_alloc w2 (.cells #[(.int .i64 0), (.slice none 0 0), (.int .i64 0), (.int .i64 0), (.map none)] 129)) (by omega))
    have HZ_3 := Lib.hid (HZ_2.out.within (within_alloc w2 (.cells #[(.int .i64 0), (.slice none 0 0), (.int .i64 0), (.int .i64 0), (.map none)] 129)) (by omega))
    have BX_3 := Lib.hid (BX_2.out.within (within_alloc w2 (.cells #[(.int .i64 0), (.slice none 0 0), (.int .i64 0), (.int .i64 0), (.map none)] 129)) (by omega))
    have Y3 := Lib.hid (show (w2.alloc (.cells #[(.int .i64 0), (.slice none 0 0), (.int .i64 0), (.int .i64 0), (.map none)] 129)).heap.size = w2.heap.size + 1 by simp)
    have hnew := cel5_new w2 (.int .i64 0) (.slice none 0 0) (.int .i64 0) (.int .i64 0) (.map none) 129
    have BB_3 := Lib.hid hnew
    clear hnew
    go_wp2_with fail
    generalize (w2.alloc (.cells #[(.int .i64 0), (.slice none 0 0), (.int .i64 0), (.int .i64 0), (.map none)] 129)) = w3 at *
    go_ret
    exact ⟨by rw [HRV.out]; rfl, W3.out⟩
  · have hs : setB p l zs = true := by simpa using fun h => hbad (.inl h)
    have hr : rangeB k c = true := by simpa using fun h => hbad (.inr h)
    have hq := indB_yes (c := c) hs hr
    rw [hrv] at hq
    have HRV := Lib.hid hq
    have HSR := Lib.hid (And.intro hs hr)
    clear hrv hbad hs hr hq
    have hzh := hz.1
    have W0 := Lib.hid (Below.refl w.heap.size w)
    have HB_0 := Lib.hid (bars_in hl)
    have HZ_0 := Lib.hid (hz)
    clear hl hz
    have Z1 := Lib.hid (within_alloc w (.cells #[.int .i64 p, (.slice A l.length cap)] 30)).size
    have W1 := Lib.hid (within_on W0.out (within_alloc w (.cells #[.int .i64 p, (.slice A l.length cap)] 30)) W0.out.size (.inr (Nat.le_refl _)))
    have HB_1 := Lib.hid (HB_0.out.within (within_alloc w (.cells #[.int .i64 p, (.slice A l.length cap)] 30)) (by omega))
    have HZ_1 := Lib.hid (HZ_0.out.within (within_alloc w (.cells #[.int .i64 p, (.slice A l.length cap)] 30)) (by omega))
    have Y1 := Lib.hid (show (w.alloc (.cells #[.int .i64 p, (.slice A l.length cap)] 30)).heap.size = w.heap.size + 1 by simp)
    have hnew := box_new w p (.slice A l.length cap) 30
    have BX_1 := Lib.hid hnew
    clear hnew
    go_enter Try.func70, Try.ntmps70
    obtain ⟨g0_0, g0_1, g0_2⟩ := BX_1.out
    go_wp2_with fail
    clear g0_0 g0_1 g0_2
    generalize (w.alloc (.cells #[.int .i64 p, (.slice A l.length cap)] 30)) = w1 at *
    refine (newSet_yes p k c l zs A Z cap cz _ _ _ HB_1.out.at HZ_1.out hn hnz HSR.out.1 HSR.out.2).mono ?_
    rintro e w2 ⟨b, rfl, hset, hbge, hb⟩
    have Z2 := Lib.hid (within_of hb).size
    have W2 := Lib.hid (within_on W1.out (within_of hb) W1.out.size (.inr (Nat.le_refl _)))
    have HB_2 := Lib.hid (HB_1.out.within (within_of hb) (by omega))
    have HZ_2 := Lib.hid (HZ_1.out.within (within_of hb) (by omega))
    have BX_2 := Lib.hid (BX_1.out.within (within_of hb) (by omega))
    have SM_2 := Lib.hid (hset)
    clear hset hbge hb
    have Z3 := Lib.hid (within_alloc w2 (.cells #[(.int .i64 p), (.slice A l.length cap), (.int .i64 k), (.int .i64 c), (.map (some b))] 129)).size
    have W3 := Lib.hid (within_on W2.out (within_alloc w2 (.cells #[(.int .i64 p), (.slice A l.length cap), (.int .i64 k), (.int .i64 c), (.map (some b))] 129)) W2.out.size (.inr (Nat.le_refl _)))
    have HB_3 := Lib.hid (HB_2.out.within (within_alloc w2 (.cells #[(.int .i64 p), (.slice A l.length cap), (.int .i64 k), (.int .i64 c), (.map (some b))] 129)) (by omega))
    have HZ_3 := Lib.hid (HZ_2.out.within (within_alloc w2 (.cells #[(.int .i64 p), (.slice A l.length cap), (.int .i64 k), (.int .i64 c), (.map (some b))] 129)) (by omega))
    have BX_3 := Lib.hid (BX_2.out.within (within_alloc w2 (.cells #[(.int .i64 p), (.slice A l.length cap), (.int .i64 k), (.int .i64 c), (.map (some b))] 129)) (by omega))
    have SM_3 := Lib.hid (SM_2.out.within (within_alloc w2 (.cells #[(.int .i64 p), (.slice A l.length cap), (.int .i64 k), (.int .i64 c), (.map (some b))] 129)) (by omega))
    have Y3 := Lib.hid (show (w2.alloc (.cells #[(.int .i64 p), (.slice A l.length cap), (.int .i64 k), (.int .i64 c), (.map (some b))] 129)).heap.size = w2.heap.size + 1 by simp)
    have hnew := cel5_new w2 (.int .i64 p) (.slice A l.length cap) (.int .i64 k) (.int .i64 c) (.map (some b)) 129
    have BB_3 := Lib.hid hnew
    clear hnew
    obtain ⟨x0, x1, x2, x3, x4⟩ := BB_3.out.cells
    go_wp2_with fail
    clear x0 x1 x2 x3 x4
    generalize (w2.alloc (.cells #[(.int .i64 p), (.slice A l.length cap), (.int .i64 k), (.int .i64 c), (.map (some b))] 129)) = w3 at *
    refine (mrank p k c l A cap b zs.length zs _ HB_3.out.at SM_3.out hn hnz).mono ?_
    rintro e w4 ⟨rfl, hb⟩
    have Z4 := Lib.hid (within_of hb).size
    have W4 := Lib.hid (within_on W3.out (within_of hb) W3.out.size (.inr (Nat.le_refl _)))
    have HB_4 := Lib.hid (HB_3.out.within (within_of hb) (by omega))
    have HZ_4 := Lib.hid (HZ_3.out.within (within_of hb) (by omega))
    have BX_4 := Lib.hid (BX_3.out.within (within_of hb) (by omega))
    have SM_4 := Lib.hid (SM_3.out.within (within_of hb) (by omega))
    have BB_4 := Lib.hid (BB_3.out.within (within_of hb) (by omega))
    clear hb
    obtain ⟨r, hr⟩ : ∃ r, rankSV p k c l zs = r := ⟨_, rfl⟩
    rw [hr] at HRV ⊢
    clear hr
    go_wp2_with fail
    go_ret
    exact ⟨by rw [HRV.out]; first | rfl | simp, W4.out⟩
end Go.Proofs.Ytedjhnedkghhoaa
/- What impl.IsForest answers. No condition. -/
namespace Go.Proofs.Ytedjhnedkghhoaa
open Go.RowKit

set_option maxHeartbeats 4000000 in
set_option maxRecDepth 100000 in
theorem implFor (p : Int) (l : List (Int × Int)) (zs : List Int) (A Z : Option Addr) (cap cz lo hi : Nat) (w : World) (hl : BarsAt w w.heap.size A l) (hz : IntsIn w lo hi Z zs) (hn : l.length ≤ 1048576) (hnz : zs.length ≤ 1048576) :
    Calls Try.prog 15 #[.agg #[.int .i64 p, .slice A l.length cap], .slice Z zs.length cz] w fun e w' => e = .returned (.bool (indB p 1 1 l zs)) ∧ Below w.heap.size w w' := by
  have W0 := Lib.hid (Below.refl w.heap.size w)
  have HB_0 := Lib.hid (bars_in hl)
  have HZ_0 := Lib.hid (hz)
  have hzh := hz.1
  clear hl hz
  have Z1 := Lib.hid (within_alloc w (.cells #[.int .i64 p, (.slice A l.length cap)] 30)).size
  have W1 := Lib.hid (within_on W0.out (within_alloc w (.cells #[.int .i64 p, (.slice A l.length cap)] 30)) W0.out.size (.inr (Nat.le_refl _)))
  have HB_1 := Lib.hid (HB_0.out.within (within_alloc w (.cells #[.int .i64 p, (.slice A l.length cap)] 30)) (by omega))
  have HZ_1 := Lib.hid (HZ_0.out.within (within_alloc w (.cells #[.int .i64 p, (.slice A l.length cap)] 30)) (by omega))
  have Y1 := Lib.hid (show (w.alloc (.cells #[.int .i64 p, (.slice A l.length cap)] 30)).heap.size = w.heap.size + 1 by simp)
  have hnew := box_new w p (.slice A l.length cap) 30
  have BX_1 := Lib.hid hnew
  clear hnew
  go_enter Try.func15, Try.ntmps15
  obtain ⟨g0_0, g0_1, g0_2⟩ := BX_1.out
  go_wp2_with fail
  clear g0_0 g0_1 g0_2
  generalize (w.alloc (.cells #[.int .i64 p, (.slice A l.length cap)] 30)) = w1 at *
  refine (implInd p 1 1 l zs A Z cap cz _ _ _ HB_1.out.at HZ_1.out hn hnz).mono ?_
  rintro e w2 ⟨rfl, hb⟩
  have Z2 := Lib.hid (within_of hb).size
  have W2 := Lib.hid (within_on W1.out (within_of hb) W1.out.size (.inr (Nat.le_refl _)))
  have HB_2 := Lib.hid (HB_1.out.within (within_of hb) (by omega))
  have HZ_2 := Lib.hid (HZ_1.out.within (within_of hb) (by omega))
  have BX_2 := Lib.hid (BX_1.out.within (within_of hb) (by omega))
  clear hb
  go_wp2_with fail
  go_ret
  exact ⟨rfl, W2.out⟩
end Go.Proofs.Ytedjhnedkghhoaa
/- The law FnExactIsForest returns true at every input. No condition. -/
namespace Go.Proofs.Ytedjhnedkghhoaa
open Go.RowKit

set_option maxHeartbeats 2000000 in
set_option maxRecDepth 100000 in
theorem lawIsForest (q : Int) (A : Option Addr) (cap : Nat) (l : List (Int × Int)) (Z : Option Addr) (len cz : Nat) (zs : List Int) (w : World) (hl : l.length ≤ maxLen) (hb : BarsAt w w.heap.size A l) (hz : IsRow .i64 w Z len cz zs) :
    Calls Try.prog 3 #[.agg #[.int .i64 q, .slice A l.length cap], .slice Z len cz] w fun e w' => e = .returned (.bool true) ∧ Below w.heap.size w w' := by
  obtain ⟨ys, rfl, hi, hym⟩ := hz.ints
  have HB_0 := Lib.hid (bars_in hb)
  have HZ_0 := Lib.hid hi
  clear hb hz hi
  by_cases hny : ys.length ≤ 1048576
  · have hny' : ¬ (1048576 : Int) < (ys.length : Int) := by omega
    by_cases hn : l.length ≤ 1048576
    · have W0 := Lib.hid (Below.refl w.heap.size w)
      have hal := new_below w (.cells #[.int .i64 q, .slice A l.length cap] 24)
      have Z1 := Lib.hid (within_of hal).size
      have W1 := Lib.hid (within_on W0.out (within_of hal) W0.out.size (.inr (Nat.le_refl _)))
      have HB_1 := Lib.hid (HB_0.out.within (within_of hal) (by omega))
      have HZ_1 := Lib.hid (HZ_0.out.within (within_of hal) (by omega))
      clear hal
      have hsz : (w.alloc (.cells #[.int .i64 q, .slice A l.length cap] 24)).heap.size = w.heap.size + 1 := by simp
      have Y1 := Lib.hid hsz
      clear hsz
      have BX_1 := Lib.hid (box_new w q (.slice A l.length cap) 24)
      go_enter Try.func3, Try.ntmps3
      go_wp2_with fail
      generalize (w.alloc (.cells #[.int .i64 q, .slice A l.length cap] 24)) = w1 at *
      refine (szGraph_c q A l.length cap 1048576 _ (by omega) (by omega)).mono ?_
      rintro e w2 ⟨rfl, hb⟩
      have Z2 := Lib.hid (within_of hb).size
      have W2 := Lib.hid (within_on W1.out (within_of hb) W1.out.size (.inr (Nat.le_refl _)))
      have HB_2 := Lib.hid (HB_1.out.within (within_of hb) (by omega))
      have HZ_2 := Lib.hid (HZ_1.out.within (within_of hb) (by omega))
      have BX_2 := Lib.hid (BX_1.out.within (within_of hb) (by omega))
      clear hb
      have hnn : ¬ (1048576 : Int) - (l.length : Int) < 0 := by omega
      obtain ⟨g01, g02, g03⟩ := BX_2.out
      go_wp2_with fail
      clear g01 g02 g03
      refine (toGraph_c q l A cap _ HB_2.out.at hn).mono ?_
      rintro e w3 ⟨g0, rfl, ho, hb⟩
      have Z3 := Lib.hid (within_of hb).size
      have W3 := Lib.hid (within_on W2.out (within_of hb) W2.out.size (.inr (Nat.le_refl _)))
      have HB_3 := Lib.hid (HB_2.out.within (within_of hb) (by omega))
      have HZ_3 := Lib.hid (HZ_2.out.within (within_of hb) (by omega))
      have BX_3 := Lib.hid (BX_2.out.within (within_of hb) (by omega))
      have SG_3 := Lib.hid ((own_in ho).bars)
      clear ho hb
      go_wp2_with fail
      refine (toInts_c ys Z cz 0 _ _ HZ_3.out hny).mono ?_
      rintro e w4 ⟨g1, rfl, ho, hb⟩
      have Z4 := Lib.hid (within_of hb).size
      have W4 := Lib.hid (within_on W3.out (within_of hb) W3.out.size (.inr (Nat.le_refl _)))
      have HB_4 := Lib.hid (HB_3.out.within (within_of hb) (by omega))
      have HZ_4 := Lib.hid (HZ_3.out.within (within_of hb) (by omega))
      have BX_4 := Lib.hid (BX_3.out.within (within_of hb) (by omega))
      have SG_4 := Lib.hid (SG_3.out.within (within_of hb) (by omega))
      have SI_4 := Lib.hid ((own_ints' ho).reads)
      clear ho hb
      go_wp2_with fail
      refine (specFor q l ys (some ⟨g0, 0, none⟩) (some ⟨g1, 0, none⟩) l.length ys.length _ _ _ SG_4.out.at SI_4.out hn hny).mono ?_
      rintro e w5 ⟨rfl, hb⟩
      have Z5 := Lib.hid (within_of hb).size
      have W5 := Lib.hid (within_on W4.out (within_of hb) W4.out.size (.inr (Nat.le_refl _)))
      have HB_5 := Lib.hid (HB_4.out.within (within_of hb) (by omega))
      have HZ_5 := Lib.hid (HZ_4.out.within (within_of hb) (by omega))
      have BX_5 := Lib.hid (BX_4.out.within (within_of hb) (by omega))
      have SG_5 := Lib.hid (SG_4.out.within (within_of hb) (by omega))
      have SI_5 := Lib.hid (SI_4.out.within (within_of hb) (by omega))
      clear hb
      obtain ⟨g01, g02, g03⟩ := BX_5.out
      go_wp2_with fail
      clear g01 g02 g03
      refine (toGraph_c q l A cap _ HB_5.out.at hn).mono ?_
      rintro e w6 ⟨x0, rfl, ho, hb⟩
      have Z6 := Lib.hid (within_of hb).size
      have W6 := Lib.hid (within_on W5.out (within_of hb) W5.out.size (.inr (Nat.le_refl _)))
      have HB_6 := Lib.hid (HB_5.out.within (within_of hb) (by omega))
      have HZ_6 := Lib.hid (HZ_5.out.within (within_of hb) (by omega))
      have BX_6 := Lib.hid (BX_5.out.within (within_of hb) (by omega))
      have SG_6 := Lib.hid (SG_5.out.within (within_of hb) (by omega))
      have SI_6 := Lib.hid (SI_5.out.within (within_of hb) (by omega))
      have SX_6 := Lib.hid (own_in ho)
      clear ho hb
      go_wp2_with fail
      have hal := new_below w6 (.cells #[.int .i64 q, .slice (some ⟨x0, 0, none⟩) l.length l.length] 30)
      have Z7 := Lib.hid (within_of hal).size
      have W7 := Lib.hid (within_on W6.out (within_of hal) W6.out.size (.inr (Nat.le_refl _)))
      have HB_7 := Lib.hid (HB_6.out.within (within_of hal) (by omega))
      have HZ_7 := Lib.hid (HZ_6.out.within (within_of hal) (by omega))
      have BX_7 := Lib.hid (BX_6.out.within (within_of hal) (by omega))
      have SG_7 := Lib.hid (SG_6.out.within (within_of hal) (by omega))
      have SI_7 := Lib.hid (SI_6.out.within (within_of hal) (by omega))
      have SX_7 := Lib.hid (SX_6.out.within (within_of hal) (by omega))
      clear hal
      have hsz : (w6.alloc (.cells #[.int .i64 q, .slice (some ⟨x0, 0, none⟩) l.length l.length] 30)).heap.size = w6.heap.size + 1 := by simp
      have Y7 := Lib.hid hsz
      clear hsz
      have XX_7 := Lib.hid (box_new w6 q (.slice (some ⟨x0, 0, none⟩) l.length l.length) 30)
      generalize (w6.alloc (.cells #[.int .i64 q, .slice (some ⟨x0, 0, none⟩) l.length l.length] 30)) = w7 at *
      refine (toInts_c ys Z cz 0 _ _ HZ_7.out hny).mono ?_
      rintro e w8 ⟨x1, rfl, ho, hb⟩
      have Z8 := Lib.hid (within_of hb).size
      have W8 := Lib.hid (within_on W7.out (within_of hb) W7.out.size (.inr (Nat.le_refl _)))
      have HB_8 := Lib.hid (HB_7.out.within (within_of hb) (by omega))
      have HZ_8 := Lib.hid (HZ_7.out.within (within_of hb) (by omega))
      have BX_8 := Lib.hid (BX_7.out.within (within_of hb) (by omega))
      have SG_8 := Lib.hid (SG_7.out.within (within_of hb) (by omega))
      have SI_8 := Lib.hid (SI_7.out.within (within_of hb) (by omega))
      have SX_8 := Lib.hid (SX_7.out.within (within_of hb) (by omega))
      have XX_8 := Lib.hid (XX_7.out.within (within_of hb) (by omega))
      have SY_8 := Lib.hid (own_ints' ho)
      clear ho hb
      obtain ⟨g01, g02, g03⟩ := XX_8.out
      go_wp2_with fail
      clear g01 g02 g03
      refine (implFor q l ys (some ⟨x0, 0, none⟩) (some ⟨x1, 0, none⟩) l.length ys.length _ _ _ SX_8.out.bars.at SY_8.out.reads hn hny).mono ?_
      rintro e w9 ⟨rfl, hb⟩
      have Z9 := Lib.hid (within_of hb).size
      have W9 := Lib.hid (within_on W8.out (within_of hb) W8.out.size (.inr (Nat.le_refl _)))
      have HB_9 := Lib.hid (HB_8.out.within (within_of hb) (by omega))
      have HZ_9 := Lib.hid (HZ_8.out.within (within_of hb) (by omega))
      have BX_9 := Lib.hid (BX_8.out.within (within_of hb) (by omega))
      have SG_9 := Lib.hid (SG_8.out.within (within_of hb) (by omega))
      have SI_9 := Lib.hid (SI_8.out.within (within_of hb) (by omega))
      have SX_9 := Lib.hid (SX_8.out.within (within_of hb) (by omega))
      have XX_9 := Lib.hid (XX_8.out.within (within_of hb) (by omega))
      have SY_9 := Lib.hid (SY_8.out.within (within_of hb) (by omega))
      clear hb
      have kk0 := box2 BX_9.out XX_9.out
      have kk := box2 BX_9.out XX_9.out
      have hdr : Below w9.heap.size w9 w9.drew := (Below.refl _ _).drew
      have Z10 := Lib.hid (within_of hdr).size
      have W10 := Lib.hid (within_on W9.out (within_of hdr) W9.out.size (.inr (Nat.le_refl _)))
      have HB_10 := Lib.hid (HB_9.out.within (within_of hdr) (by omega))
      have HZ_10 := Lib.hid (HZ_9.out.within (within_of hdr) (by omega))
      have BX_10 := Lib.hid (BX_9.out.within (within_of hdr) (by omega))
      have SG_10 := Lib.hid (SG_9.out.within (within_of hdr) (by omega))
      have SI_10 := Lib.hid (SI_9.out.within (within_of hdr) (by omega))
      have SX_10 := Lib.hid (SX_9.out.within (within_of hdr) (by omega))
      have XX_10 := Lib.hid (XX_9.out.within (within_of hdr) (by omega))
      have SY_10 := Lib.hid (SY_9.out.within (within_of hdr) (by omega))
      clear hdr
      go_wp2_with fail
      go_region_held3 (fun W' => W'.cell? ⟨w.heap.size, 0, none⟩ = some (.int .i64 q) ∧ W'.cell? ⟨w.heap.size, 1, none⟩ = some ((.slice A l.length cap)) ∧ W'.cell? ⟨w6.heap.size, 0, none⟩ = some (.int .i64 q) ∧ W'.cell? ⟨w6.heap.size, 1, none⟩ = some ((.slice (some ⟨x0, 0, none⟩) l.length l.length)))
        (first | exact kk | exact box2 BX_11.out XX_11.out | exact box2 BX_12.out XX_12.out | fail)
        (first
          | (go_at_call 13; refine (toGraph_c q l A cap _ ?_ hn).mono ?_; (exact HB_10.out.at); rintro e w11 ⟨y0, rfl, ho, hb⟩; have Z11 := Lib.hid (within_of hb).size; have W11 := Lib.hid (within_on W10.out (within_of hb) W10.out.size (.inr (Nat.le_refl _))); have HB_11 := Lib.hid (HB_10.out.within (within_of hb) (by omega)); have HZ_11 := Lib.hid (HZ_10.out.within (within_of hb) (by omega)); have BX_11 := Lib.hid (BX_10.out.within (within_of hb) (by omega)); have SG_11 := Lib.hid (SG_10.out.within (within_of hb) (by omega)); have SI_11 := Lib.hid (SI_10.out.within (within_of hb) (by omega)); have SX_11 := Lib.hid (SX_10.out.within (within_of hb) (by omega)); have XX_11 := Lib.hid (XX_10.out.within (within_of hb) (by omega)); have SY_11 := Lib.hid (SY_10.out.within (within_of hb) (by omega)); have YY := Lib.hid (own_bars ho); clear ho hb)
          | (go_at_call 16; refine (eqGraph_c q l _ _ l.length l.length _ ?_ ?_ hn).mono ?_; (exact SX_11.out.bars.at); (exact YY.out); rintro e w12 ⟨rfl, hb⟩; have Z12 := Lib.hid (within_of hb).size; have W12 := Lib.hid (within_on W11.out (within_of hb) W11.out.size (.inr (Nat.le_refl _))); have HB_12 := Lib.hid (HB_11.out.within (within_of hb) (by omega)); have HZ_12 := Lib.hid (HZ_11.out.within (within_of hb) (by omega)); have BX_12 := Lib.hid (BX_11.out.within (within_of hb) (by omega)); have SG_12 := Lib.hid (SG_11.out.within (within_of hb) (by omega)); have SI_12 := Lib.hid (SI_11.out.within (within_of hb) (by omega)); have SX_12 := Lib.hid (SX_11.out.within (within_of hb) (by omega)); have XX_12 := Lib.hid (XX_11.out.within (within_of hb) (by omega)); have SY_12 := Lib.hid (SY_11.out.within (within_of hb) (by omega)); clear hb))
      go_wp2_with fail
      refine (toInts_c ys Z cz 0 _ _ HZ_12.out hny).mono ?_
      rintro e w13 ⟨y1, rfl, ho, hb⟩
      have Z13 := Lib.hid (within_of hb).size
      have W13 := Lib.hid (within_on W12.out (within_of hb) W12.out.size (.inr (Nat.le_refl _)))
      have HB_13 := Lib.hid (HB_12.out.within (within_of hb) (by omega))
      have HZ_13 := Lib.hid (HZ_12.out.within (within_of hb) (by omega))
      have BX_13 := Lib.hid (BX_12.out.within (within_of hb) (by omega))
      have SG_13 := Lib.hid (SG_12.out.within (within_of hb) (by omega))
      have SI_13 := Lib.hid (SI_12.out.within (within_of hb) (by omega))
      have SX_13 := Lib.hid (SX_12.out.within (within_of hb) (by omega))
      have XX_13 := Lib.hid (XX_12.out.within (within_of hb) (by omega))
      have SY_13 := Lib.hid (SY_12.out.within (within_of hb) (by omega))
      have SZ_13 := Lib.hid ((own_ints' ho).reads)
      clear ho hb
      go_wp2_with fail
      refine (eqInts_c ys (some ⟨x1, 0, none⟩) (some ⟨y1, 0, none⟩) ys.length ys.length _ _ _ _ _ SY_13.out.reads SZ_13.out hny).mono ?_
      rintro e w14 ⟨rfl, hb⟩
      have Z14 := Lib.hid (within_of hb).size
      have W14 := Lib.hid (within_on W13.out (within_of hb) W13.out.size (.inr (Nat.le_refl _)))
      have HB_14 := Lib.hid (HB_13.out.within (within_of hb) (by omega))
      have HZ_14 := Lib.hid (HZ_13.out.within (within_of hb) (by omega))
      have BX_14 := Lib.hid (BX_13.out.within (within_of hb) (by omega))
      have SG_14 := Lib.hid (SG_13.out.within (within_of hb) (by omega))
      have SI_14 := Lib.hid (SI_13.out.within (within_of hb) (by omega))
      have SX_14 := Lib.hid (SX_13.out.within (within_of hb) (by omega))
      have XX_14 := Lib.hid (XX_13.out.within (within_of hb) (by omega))
      have SY_14 := Lib.hid (SY_13.out.within (within_of hb) (by omega))
      have SZ_14 := Lib.hid (SZ_13.out.within (within_of hb) (by omega))
      clear hb
      go_wp2_with fail
      go_ret
      exact ⟨rfl, W14.out⟩
    · have hx : (1048576 : Int) < (l.length : Int) := by omega
      have h63 : l.length ≤ 9223372036854775807 := by unfold maxLen at hl; omega
      have HA := Lib.hid (new_below w (.cells #[.int .i64 q, .slice A l.length cap] 24))
      go_enter Try.func3, Try.ntmps3
      go_wp2_with fail
      refine (szGraph_no q A l.length cap 1048576 _ h63 hx (by omega)).mono ?_
      rintro e w1 ⟨rfl, hb1⟩
      have W1 := Lib.hid (below_on HA.out hb1 HA.out.size)
      clear hb1
      go_wp2_with fail
      go_ret
      exact ⟨rfl, W1.out⟩
  · have hx : (1048576 : Int) < (ys.length : Int) := by omega
    have HA := Lib.hid (new_below w (.cells #[.int .i64 q, .slice A l.length cap] 24))
    go_enter Try.func3, Try.ntmps3
    go_wp2_with fail
    go_ret
    exact ⟨rfl, HA.out⟩
end Go.Proofs.Ytedjhnedkghhoaa
/- What spec.IsSpanningTree answers. No condition. -/
namespace Go.Proofs.Ytedjhnedkghhoaa
open Go.RowKit

set_option maxHeartbeats 4000000 in
set_option maxRecDepth 100000 in
theorem specSpa (p : Int) (l : List (Int × Int)) (zs : List Int) (A Z : Option Addr) (cap cz lo hi : Nat) (w : World) (hl : BarsAt w w.heap.size A l) (hz : IntsIn w lo hi Z zs) (hn : l.length ≤ 1048576) (hnz : zs.length ≤ 1048576) :
    Calls Try.prog 18 #[.agg #[.int .i64 p, .slice A l.length cap], .slice Z zs.length cz] w fun e w' => e = .returned (.bool (indB p 1 1 l zs && decide ((zs.length : Int) = p - 1))) ∧ Below w.heap.size w w' := by
  obtain ⟨b, hb⟩ : ∃ b, (indB p 1 1 l zs) = b := ⟨_, rfl⟩
  have HF : ∀ W : World, BarsAt W W.heap.size A l → ∀ lo hi, IntsIn W lo hi Z zs → Calls Try.prog 12 #[.agg #[.int .i64 p, .slice A l.length cap], .slice Z zs.length cz] W fun e w' => e = .returned (.bool b) ∧ Below W.heap.size W w' := fun W h lo hi h2 => by rw [← hb]; exact specFor p l zs A Z cap cz lo hi W h h2 hn hnz
  have hp : b = true → 1 ≤ p ∧ p ≤ 8 := fun e => by
    rw [e] at hb
    cases hs : setB p l zs with
    | false => rw [indB_set hs] at hb; cases hb
    | true => exact (setB_is hs).2.1
  rw [hb]
  clear hb
  cases b with
  | false =>
    clear hp
    have W0 := Lib.hid (Below.refl w.heap.size w)
    have HB_0 := Lib.hid (bars_in hl)
    have HZ_0 := Lib.hid (hz)
    have hzh := hz.1
    clear hl hz
    have Z1 := Lib.hid (within_alloc w (.cells #[.int .i64 p, (.slice A l.length cap)] 30)).size
    have W1 := Lib.hid (within_on W0.out (within_alloc w (.cells #[.int .i64 p, (.slice A l.length cap)] 30)) W0.out.size (.inr (Nat.le_refl _)))
    have HB_1 := Lib.hid (HB_0.out.within (within_alloc w (.cells #[.int .i64 p, (.slice A l.length cap)] 30)) (by omega))
    have HZ_1 := Lib.hid (HZ_0.out.within (within_alloc w (.cells #[.int .i64 p, (.slice A l.length cap)] 30)) (by omega))
    have Y1 := Lib.hid (show (w.alloc (.cells #[.int .i64 p, (.slice A l.length cap)] 30)).heap.size = w.heap.size + 1 by simp)
    have hnew := box_new w p (.slice A l.length cap) 30
    have BX_1 := Lib.hid hnew
    clear hnew
    go_enter Try.func18, Try.ntmps18
    obtain ⟨g0_0, g0_1, g0_2⟩ := BX_1.out
    go_wp2_with fail
    clear g0_0 g0_1 g0_2
    generalize (w.alloc (.cells #[.int .i64 p, (.slice A l.length cap)] 30)) = w1 at *
    have HSE := Lib.hid (fun (W : World) (h : Below w1.heap.size w1 W) => HF W (HB_1.out.within (within_of h) (.inr (Nat.zero_le _))).at lo hi (HZ_1.out.within (within_of h) (.inr (Nat.zero_le _))))
    clear HF
    refine (HSE.out _ (Below.refl _ _)).mono ?_
    rintro e w2 ⟨rfl, hb⟩
    have Z2 := Lib.hid (within_of hb).size
    have W2 := Lib.hid (within_on W1.out (within_of hb) W1.out.size (.inr (Nat.le_refl _)))
    have HB_2 := Lib.hid (HB_1.out.within (within_of hb) (by omega))
    have HZ_2 := Lib.hid (HZ_1.out.within (within_of hb) (by omega))
    have BX_2 := Lib.hid (BX_1.out.within (within_of hb) (by omega))
    clear hb
    obtain ⟨g1_0, g1_1, g1_2⟩ := BX_2.out
    go_wp2_with fail
    clear g1_0 g1_1 g1_2
    go_ret
    exact ⟨by first | rfl | simp, W2.out⟩
  | true =>
    have W0 := Lib.hid (Below.refl w.heap.size w)
    have HB_0 := Lib.hid (bars_in hl)
    have HZ_0 := Lib.hid (hz)
    have hzh := hz.1
    clear hl hz
    have Z1 := Lib.hid (within_alloc w (.cells #[.int .i64 p, (.slice A l.length cap)] 30)).size
    have W1 := Lib.hid (within_on W0.out (within_alloc w (.cells #[.int .i64 p, (.slice A l.length cap)] 30)) W0.out.size (.inr (Nat.le_refl _)))
    have HB_1 := Lib.hid (HB_0.out.within (within_alloc w (.cells #[.int .i64 p, (.slice A l.length cap)] 30)) (by omega))
    have HZ_1 := Lib.hid (HZ_0.out.within (within_alloc w (.cells #[.int .i64 p, (.slice A l.length cap)] 30)) (by omega))
    have Y1 := Lib.hid (show (w.alloc (.cells #[.int .i64 p, (.slice A l.length cap)] 30)).heap.size = w.heap.size + 1 by simp)
    have hnew := box_new w p (.slice A l.length cap) 30
    have BX_1 := Lib.hid hnew
    clear hnew
    go_enter Try.func18, Try.ntmps18
    obtain ⟨g0_0, g0_1, g0_2⟩ := BX_1.out
    go_wp2_with fail
    clear g0_0 g0_1 g0_2
    generalize (w.alloc (.cells #[.int .i64 p, (.slice A l.length cap)] 30)) = w1 at *
    have HSE := Lib.hid (fun (W : World) (h : Below w1.heap.size w1 W) => HF W (HB_1.out.within (within_of h) (.inr (Nat.zero_le _))).at lo hi (HZ_1.out.within (within_of h) (.inr (Nat.zero_le _))))
    clear HF
    have hp := hp (by first | trivial | rfl)
    have hw0 : IntKind.i64.wrap (p - 1) = p - 1 := IntWalk.i64_in _ (by omega)
    refine (HSE.out _ (Below.refl _ _)).mono ?_
    rintro e w2 ⟨rfl, hb⟩
    have Z2 := Lib.hid (within_of hb).size
    have W2 := Lib.hid (within_on W1.out (within_of hb) W1.out.size (.inr (Nat.le_refl _)))
    have HB_2 := Lib.hid (HB_1.out.within (within_of hb) (by omega))
    have HZ_2 := Lib.hid (HZ_1.out.within (within_of hb) (by omega))
    have BX_2 := Lib.hid (BX_1.out.within (within_of hb) (by omega))
    clear hb
    obtain ⟨g1_0, g1_1, g1_2⟩ := BX_2.out
    go_wp2_with fail
    clear g1_0 g1_1 g1_2
    go_ret
    exact ⟨by first | rfl | simp, W2.out⟩
end Go.Proofs.Ytedjhnedkghhoaa
/- What impl.IsSpanningTree answers. No condition. -/
namespace Go.Proofs.Ytedjhnedkghhoaa
open Go.RowKit

set_option maxHeartbeats 4000000 in
set_option maxRecDepth 100000 in
theorem implSpa (p : Int) (l : List (Int × Int)) (zs : List Int) (A Z : Option Addr) (cap cz lo hi : Nat) (w : World) (hl : BarsAt w w.heap.size A l) (hz : IntsIn w lo hi Z zs) (hn : l.length ≤ 1048576) (hnz : zs.length ≤ 1048576) :
    Calls Try.prog 19 #[.agg #[.int .i64 p, .slice A l.length cap], .slice Z zs.length cz] w fun e w' => e = .returned (.bool (indB p 1 1 l zs && decide ((zs.length : Int) = p - 1))) ∧ Below w.heap.size w w' := by
  obtain ⟨b, hb⟩ : ∃ b, (indB p 1 1 l zs) = b := ⟨_, rfl⟩
  have HF : ∀ W : World, BarsAt W W.heap.size A l → ∀ lo hi, IntsIn W lo hi Z zs → Calls Try.prog 15 #[.agg #[.int .i64 p, .slice A l.length cap], .slice Z zs.length cz] W fun e w' => e = .returned (.bool b) ∧ Below W.heap.size W w' := fun W h lo hi h2 => by rw [← hb]; exact implFor p l zs A Z cap cz lo hi W h h2 hn hnz
  have hp : b = true → 1 ≤ p ∧ p ≤ 8 := fun e => by
    rw [e] at hb
    cases hs : setB p l zs with
    | false => rw [indB_set hs] at hb; cases hb
    | true => exact (setB_is hs).2.1
  rw [hb]
  clear hb
  cases b with
  | false =>
    clear hp
    have W0 := Lib.hid (Below.refl w.heap.size w)
    have HB_0 := Lib.hid (bars_in hl)
    have HZ_0 := Lib.hid (hz)
    have hzh := hz.1
    clear hl hz
    have Z1 := Lib.hid (within_alloc w (.cells #[.int .i64 p, (.slice A l.length cap)] 30)).size
    have W1 := Lib.hid (within_on W0.out (within_alloc w (.cells #[.int .i64 p, (.slice A l.length cap)] 30)) W0.out.size (.inr (Nat.le_refl _)))
    have HB_1 := Lib.hid (HB_0.out.within (within_alloc w (.cells #[.int .i64 p, (.slice A l.length cap)] 30)) (by omega))
    have HZ_1 := Lib.hid (HZ_0.out.within (within_alloc w (.cells #[.int .i64 p, (.slice A l.length cap)] 30)) (by omega))
    have Y1 := Lib.hid (show (w.alloc (.cells #[.int .i64 p, (.slice A l.length cap)] 30)).heap.size = w.heap.size + 1 by simp)
    have hnew := box_new w p (.slice A l.length cap) 30
    have BX_1 := Lib.hid hnew
    clear hnew
    go_enter Try.func19, Try.ntmps19
    obtain ⟨g0_0, g0_1, g0_2⟩ := BX_1.out
    go_wp2_with fail
    clear g0_0 g0_1 g0_2
    generalize (w.alloc (.cells #[.int .i64 p, (.slice A l.length cap)] 30)) = w1 at *
    have HSE := Lib.hid (fun (W : World) (h : Below w1.heap.size w1 W) => HF W (HB_1.out.within (within_of h) (.inr (Nat.zero_le _))).at lo hi (HZ_1.out.within (within_of h) (.inr (Nat.zero_le _))))
    clear HF
    refine (HSE.out _ (Below.refl _ _)).mono ?_
    rintro e w2 ⟨rfl, hb⟩
    have Z2 := Lib.hid (within_of hb).size
    have W2 := Lib.hid (within_on W1.out (within_of hb) W1.out.size (.inr (Nat.le_refl _)))
    have HB_2 := Lib.hid (HB_1.out.within (within_of hb) (by omega))
    have HZ_2 := Lib.hid (HZ_1.out.within (within_of hb) (by omega))
    have BX_2 := Lib.hid (BX_1.out.within (within_of hb) (by omega))
    clear hb
    obtain ⟨g1_0, g1_1, g1_2⟩ := BX_2.out
    go_wp2_with fail
    clear g1_0 g1_1 g1_2
    go_ret
    exact ⟨by first | rfl | simp, W2.out⟩
  | true =>
    have W0 := Lib.hid (Below.refl w.heap.size w)
    have HB_0 := Lib.hid (bars_in hl)
    have HZ_0 := Lib.hid (hz)
    have hzh := hz.1
    clear hl hz
    have Z1 := Lib.hid (within_alloc w (.cells #[.int .i64 p, (.slice A l.length cap)] 30)).size
    have W1 := Lib.hid (within_on W0.out (within_alloc w (.cells #[.int .i64 p, (.slice A l.length cap)] 30)) W0.out.size (.inr (Nat.le_refl _)))
    have HB_1 := Lib.hid (HB_0.out.within (within_alloc w (.cells #[.int .i64 p, (.slice A l.length cap)] 30)) (by omega))
    have HZ_1 := Lib.hid (HZ_0.out.within (within_alloc w (.cells #[.int .i64 p, (.slice A l.length cap)] 30)) (by omega))
    have Y1 := Lib.hid (show (w.alloc (.cells #[.int .i64 p, (.slice A l.length cap)] 30)).heap.size = w.heap.size + 1 by simp)
    have hnew := box_new w p (.slice A l.length cap) 30
    have BX_1 := Lib.hid hnew
    clear hnew
    go_enter Try.func19, Try.ntmps19
    obtain ⟨g0_0, g0_1, g0_2⟩ := BX_1.out
    go_wp2_with fail
    clear g0_0 g0_1 g0_2
    generalize (w.alloc (.cells #[.int .i64 p, (.slice A l.length cap)] 30)) = w1 at *
    have HSE := Lib.hid (fun (W : World) (h : Below w1.heap.size w1 W) => HF W (HB_1.out.within (within_of h) (.inr (Nat.zero_le _))).at lo hi (HZ_1.out.within (within_of h) (.inr (Nat.zero_le _))))
    clear HF
    have hp := hp (by first | trivial | rfl)
    have hw0 : IntKind.i64.wrap (p - 1) = p - 1 := IntWalk.i64_in _ (by omega)
    refine (HSE.out _ (Below.refl _ _)).mono ?_
    rintro e w2 ⟨rfl, hb⟩
    have Z2 := Lib.hid (within_of hb).size
    have W2 := Lib.hid (within_on W1.out (within_of hb) W1.out.size (.inr (Nat.le_refl _)))
    have HB_2 := Lib.hid (HB_1.out.within (within_of hb) (by omega))
    have HZ_2 := Lib.hid (HZ_1.out.within (within_of hb) (by omega))
    have BX_2 := Lib.hid (BX_1.out.within (within_of hb) (by omega))
    clear hb
    obtain ⟨g1_0, g1_1, g1_2⟩ := BX_2.out
    go_wp2_with fail
    clear g1_0 g1_1 g1_2
    go_ret
    exact ⟨by first | rfl | simp, W2.out⟩
end Go.Proofs.Ytedjhnedkghhoaa
/- The law FnExactIsSpanningTree returns true at every input. No condition. -/
namespace Go.Proofs.Ytedjhnedkghhoaa
open Go.RowKit

set_option maxHeartbeats 2000000 in
set_option maxRecDepth 100000 in
theorem lawIsSpanningTree (q : Int) (A : Option Addr) (cap : Nat) (l : List (Int × Int)) (Z : Option Addr) (len cz : Nat) (zs : List Int) (w : World) (hl : l.length ≤ maxLen) (hb : BarsAt w w.heap.size A l) (hz : IsRow .i64 w Z len cz zs) :
    Calls Try.prog 4 #[.agg #[.int .i64 q, .slice A l.length cap], .slice Z len cz] w fun e w' => e = .returned (.bool true) ∧ Below w.heap.size w w' := by
  obtain ⟨ys, rfl, hi, hym⟩ := hz.ints
  have HB_0 := Lib.hid (bars_in hb)
  have HZ_0 := Lib.hid hi
  clear hb hz hi
  by_cases hny : ys.length ≤ 1048576
  · have hny' : ¬ (1048576 : Int) < (ys.length : Int) := by omega
    by_cases hn : l.length ≤ 1048576
    · have W0 := Lib.hid (Below.refl w.heap.size w)
      have hal := new_below w (.cells #[.int .i64 q, .slice A l.length cap] 24)
      have Z1 := Lib.hid (within_of hal).size
      have W1 := Lib.hid (within_on W0.out (within_of hal) W0.out.size (.inr (Nat.le_refl _)))
      have HB_1 := Lib.hid (HB_0.out.within (within_of hal) (by omega))
      have HZ_1 := Lib.hid (HZ_0.out.within (within_of hal) (by omega))
      clear hal
      have hsz : (w.alloc (.cells #[.int .i64 q, .slice A l.length cap] 24)).heap.size = w.heap.size + 1 := by simp
      have Y1 := Lib.hid hsz
      clear hsz
      have BX_1 := Lib.hid (box_new w q (.slice A l.length cap) 24)
      go_enter Try.func4, Try.ntmps4
      go_wp2_with fail
      generalize (w.alloc (.cells #[.int .i64 q, .slice A l.length cap] 24)) = w1 at *
      refine (szGraph_c q A l.length cap 1048576 _ (by omega) (by omega)).mono ?_
      rintro e w2 ⟨rfl, hb⟩
      have Z2 := Lib.hid (within_of hb).size
      have W2 := Lib.hid (within_on W1.out (within_of hb) W1.out.size (.inr (Nat.le_refl _)))
      have HB_2 := Lib.hid (HB_1.out.within (within_of hb) (by omega))
      have HZ_2 := Lib.hid (HZ_1.out.within (within_of hb) (by omega))
      have BX_2 := Lib.hid (BX_1.out.within (within_of hb) (by omega))
      clear hb
      have hnn : ¬ (1048576 : Int) - (l.length : Int) < 0 := by omega
      obtain ⟨g01, g02, g03⟩ := BX_2.out
      go_wp2_with fail
      clear g01 g02 g03
      refine (toGraph_c q l A cap _ HB_2.out.at hn).mono ?_
      rintro e w3 ⟨g0, rfl, ho, hb⟩
      have Z3 := Lib.hid (within_of hb).size
      have W3 := Lib.hid (within_on W2.out (within_of hb) W2.out.size (.inr (Nat.le_refl _)))
      have HB_3 := Lib.hid (HB_2.out.within (within_of hb) (by omega))
      have HZ_3 := Lib.hid (HZ_2.out.within (within_of hb) (by omega))
      have BX_3 := Lib.hid (BX_2.out.within (within_of hb) (by omega))
      have SG_3 := Lib.hid ((own_in ho).bars)
      clear ho hb
      go_wp2_with fail
      refine (toInts_c ys Z cz 0 _ _ HZ_3.out hny).mono ?_
      rintro e w4 ⟨g1, rfl, ho, hb⟩
      have Z4 := Lib.hid (within_of hb).size
      have W4 := Lib.hid (within_on W3.out (within_of hb) W3.out.size (.inr (Nat.le_refl _)))
      have HB_4 := Lib.hid (HB_3.out.within (within_of hb) (by omega))
      have HZ_4 := Lib.hid (HZ_3.out.within (within_of hb) (by omega))
      have BX_4 := Lib.hid (BX_3.out.within (within_of hb) (by omega))
      have SG_4 := Lib.hid (SG_3.out.within (within_of hb) (by omega))
      have SI_4 := Lib.hid ((own_ints' ho).reads)
      clear ho hb
      go_wp2_with fail
      refine (specSpa q l ys (some ⟨g0, 0, none⟩) (some ⟨g1, 0, none⟩) l.length ys.length _ _ _ SG_4.out.at SI_4.out hn hny).mono ?_
      rintro e w5 ⟨rfl, hb⟩
      have Z5 := Lib.hid (within_of hb).size
      have W5 := Lib.hid (within_on W4.out (within_of hb) W4.out.size (.inr (Nat.le_refl _)))
      have HB_5 := Lib.hid (HB_4.out.within (within_of hb) (by omega))
      have HZ_5 := Lib.hid (HZ_4.out.within (within_of hb) (by omega))
      have BX_5 := Lib.hid (BX_4.out.within (within_of hb) (by omega))
      have SG_5 := Lib.hid (SG_4.out.within (within_of hb) (by omega))
      have SI_5 := Lib.hid (SI_4.out.within (within_of hb) (by omega))
      clear hb
      obtain ⟨g01, g02, g03⟩ := BX_5.out
      go_wp2_with fail
      clear g01 g02 g03
      refine (toGraph_c q l A cap _ HB_5.out.at hn).mono ?_
      rintro e w6 ⟨x0, rfl, ho, hb⟩
      have Z6 := Lib.hid (within_of hb).size
      have W6 := Lib.hid (within_on W5.out (within_of hb) W5.out.size (.inr (Nat.le_refl _)))
      have HB_6 := Lib.hid (HB_5.out.within (within_of hb) (by omega))
      have HZ_6 := Lib.hid (HZ_5.out.within (within_of hb) (by omega))
      have BX_6 := Lib.hid (BX_5.out.within (within_of hb) (by omega))
      have SG_6 := Lib.hid (SG_5.out.within (within_of hb) (by omega))
      have SI_6 := Lib.hid (SI_5.out.within (within_of hb) (by omega))
      have SX_6 := Lib.hid (own_in ho)
      clear ho hb
      go_wp2_with fail
      have hal := new_below w6 (.cells #[.int .i64 q, .slice (some ⟨x0, 0, none⟩) l.length l.length] 30)
      have Z7 := Lib.hid (within_of hal).size
      have W7 := Lib.hid (within_on W6.out (within_of hal) W6.out.size (.inr (Nat.le_refl _)))
      have HB_7 := Lib.hid (HB_6.out.within (within_of hal) (by omega))
      have HZ_7 := Lib.hid (HZ_6.out.within (within_of hal) (by omega))
      have BX_7 := Lib.hid (BX_6.out.within (within_of hal) (by omega))
      have SG_7 := Lib.hid (SG_6.out.within (within_of hal) (by omega))
      have SI_7 := Lib.hid (SI_6.out.within (within_of hal) (by omega))
      have SX_7 := Lib.hid (SX_6.out.within (within_of hal) (by omega))
      clear hal
      have hsz : (w6.alloc (.cells #[.int .i64 q, .slice (some ⟨x0, 0, none⟩) l.length l.length] 30)).heap.size = w6.heap.size + 1 := by simp
      have Y7 := Lib.hid hsz
      clear hsz
      have XX_7 := Lib.hid (box_new w6 q (.slice (some ⟨x0, 0, none⟩) l.length l.length) 30)
      generalize (w6.alloc (.cells #[.int .i64 q, .slice (some ⟨x0, 0, none⟩) l.length l.length] 30)) = w7 at *
      refine (toInts_c ys Z cz 0 _ _ HZ_7.out hny).mono ?_
      rintro e w8 ⟨x1, rfl, ho, hb⟩
      have Z8 := Lib.hid (within_of hb).size
      have W8 := Lib.hid (within_on W7.out (within_of hb) W7.out.size (.inr (Nat.le_refl _)))
      have HB_8 := Lib.hid (HB_7.out.within (within_of hb) (by omega))
      have HZ_8 := Lib.hid (HZ_7.out.within (within_of hb) (by omega))
      have BX_8 := Lib.hid (BX_7.out.within (within_of hb) (by omega))
      have SG_8 := Lib.hid (SG_7.out.within (within_of hb) (by omega))
      have SI_8 := Lib.hid (SI_7.out.within (within_of hb) (by omega))
      have SX_8 := Lib.hid (SX_7.out.within (within_of hb) (by omega))
      have XX_8 := Lib.hid (XX_7.out.within (within_of hb) (by omega))
      have SY_8 := Lib.hid (own_ints' ho)
      clear ho hb
      obtain ⟨g01, g02, g03⟩ := XX_8.out
      go_wp2_with fail
      clear g01 g02 g03
      refine (implSpa q l ys (some ⟨x0, 0, none⟩) (some ⟨x1, 0, none⟩) l.length ys.length _ _ _ SX_8.out.bars.at SY_8.out.reads hn hny).mono ?_
      rintro e w9 ⟨rfl, hb⟩
      have Z9 := Lib.hid (within_of hb).size
      have W9 := Lib.hid (within_on W8.out (within_of hb) W8.out.size (.inr (Nat.le_refl _)))
      have HB_9 := Lib.hid (HB_8.out.within (within_of hb) (by omega))
      have HZ_9 := Lib.hid (HZ_8.out.within (within_of hb) (by omega))
      have BX_9 := Lib.hid (BX_8.out.within (within_of hb) (by omega))
      have SG_9 := Lib.hid (SG_8.out.within (within_of hb) (by omega))
      have SI_9 := Lib.hid (SI_8.out.within (within_of hb) (by omega))
      have SX_9 := Lib.hid (SX_8.out.within (within_of hb) (by omega))
      have XX_9 := Lib.hid (XX_8.out.within (within_of hb) (by omega))
      have SY_9 := Lib.hid (SY_8.out.within (within_of hb) (by omega))
      clear hb
      have kk0 := box2 BX_9.out XX_9.out
      have kk := box2 BX_9.out XX_9.out
      have hdr : Below w9.heap.size w9 w9.drew := (Below.refl _ _).drew
      have Z10 := Lib.hid (within_of hdr).size
      have W10 := Lib.hid (within_on W9.out (within_of hdr) W9.out.size (.inr (Nat.le_refl _)))
      have HB_10 := Lib.hid (HB_9.out.within (within_of hdr) (by omega))
      have HZ_10 := Lib.hid (HZ_9.out.within (within_of hdr) (by omega))
      have BX_10 := Lib.hid (BX_9.out.within (within_of hdr) (by omega))
      have SG_10 := Lib.hid (SG_9.out.within (within_of hdr) (by omega))
      have SI_10 := Lib.hid (SI_9.out.within (within_of hdr) (by omega))
      have SX_10 := Lib.hid (SX_9.out.within (within_of hdr) (by omega))
      have XX_10 := Lib.hid (XX_9.out.within (within_of hdr) (by omega))
      have SY_10 := Lib.hid (SY_9.out.within (within_of hdr) (by omega))
      clear hdr
      go_wp2_with fail
      go_region_held3 (fun W' => W'.cell? ⟨w.heap.size, 0, none⟩ = some (.int .i64 q) ∧ W'.cell? ⟨w.heap.size, 1, none⟩ = some ((.slice A l.length cap)) ∧ W'.cell? ⟨w6.heap.size, 0, none⟩ = some (.int .i64 q) ∧ W'.cell? ⟨w6.heap.size, 1, none⟩ = some ((.slice (some ⟨x0, 0, none⟩) l.length l.length)))
        (first | exact kk | exact box2 BX_11.out XX_11.out | exact box2 BX_12.out XX_12.out | fail)
        (first
          | (go_at_call 13; refine (toGraph_c q l A cap _ ?_ hn).mono ?_; (exact HB_10.out.at); rintro e w11 ⟨y0, rfl, ho, hb⟩; have Z11 := Lib.hid (within_of hb).size; have W11 := Lib.hid (within_on W10.out (within_of hb) W10.out.size (.inr (Nat.le_refl _))); have HB_11 := Lib.hid (HB_10.out.within (within_of hb) (by omega)); have HZ_11 := Lib.hid (HZ_10.out.within (within_of hb) (by omega)); have BX_11 := Lib.hid (BX_10.out.within (within_of hb) (by omega)); have SG_11 := Lib.hid (SG_10.out.within (within_of hb) (by omega)); have SI_11 := Lib.hid (SI_10.out.within (within_of hb) (by omega)); have SX_11 := Lib.hid (SX_10.out.within (within_of hb) (by omega)); have XX_11 := Lib.hid (XX_10.out.within (within_of hb) (by omega)); have SY_11 := Lib.hid (SY_10.out.within (within_of hb) (by omega)); have YY := Lib.hid (own_bars ho); clear ho hb)
          | (go_at_call 16; refine (eqGraph_c q l _ _ l.length l.length _ ?_ ?_ hn).mono ?_; (exact SX_11.out.bars.at); (exact YY.out); rintro e w12 ⟨rfl, hb⟩; have Z12 := Lib.hid (within_of hb).size; have W12 := Lib.hid (within_on W11.out (within_of hb) W11.out.size (.inr (Nat.le_refl _))); have HB_12 := Lib.hid (HB_11.out.within (within_of hb) (by omega)); have HZ_12 := Lib.hid (HZ_11.out.within (within_of hb) (by omega)); have BX_12 := Lib.hid (BX_11.out.within (within_of hb) (by omega)); have SG_12 := Lib.hid (SG_11.out.within (within_of hb) (by omega)); have SI_12 := Lib.hid (SI_11.out.within (within_of hb) (by omega)); have SX_12 := Lib.hid (SX_11.out.within (within_of hb) (by omega)); have XX_12 := Lib.hid (XX_11.out.within (within_of hb) (by omega)); have SY_12 := Lib.hid (SY_11.out.within (within_of hb) (by omega)); clear hb))
      go_wp2_with fail
      refine (toInts_c ys Z cz 0 _ _ HZ_12.out hny).mono ?_
      rintro e w13 ⟨y1, rfl, ho, hb⟩
      have Z13 := Lib.hid (within_of hb).size
      have W13 := Lib.hid (within_on W12.out (within_of hb) W12.out.size (.inr (Nat.le_refl _)))
      have HB_13 := Lib.hid (HB_12.out.within (within_of hb) (by omega))
      have HZ_13 := Lib.hid (HZ_12.out.within (within_of hb) (by omega))
      have BX_13 := Lib.hid (BX_12.out.within (within_of hb) (by omega))
      have SG_13 := Lib.hid (SG_12.out.within (within_of hb) (by omega))
      have SI_13 := Lib.hid (SI_12.out.within (within_of hb) (by omega))
      have SX_13 := Lib.hid (SX_12.out.within (within_of hb) (by omega))
      have XX_13 := Lib.hid (XX_12.out.within (within_of hb) (by omega))
      have SY_13 := Lib.hid (SY_12.out.within (within_of hb) (by omega))
      have SZ_13 := Lib.hid ((own_ints' ho).reads)
      clear ho hb
      go_wp2_with fail
      refine (eqInts_c ys (some ⟨x1, 0, none⟩) (some ⟨y1, 0, none⟩) ys.length ys.length _ _ _ _ _ SY_13.out.reads SZ_13.out hny).mono ?_
      rintro e w14 ⟨rfl, hb⟩
      have Z14 := Lib.hid (within_of hb).size
      have W14 := Lib.hid (within_on W13.out (within_of hb) W13.out.size (.inr (Nat.le_refl _)))
      have HB_14 := Lib.hid (HB_13.out.within (within_of hb) (by omega))
      have HZ_14 := Lib.hid (HZ_13.out.within (within_of hb) (by omega))
      have BX_14 := Lib.hid (BX_13.out.within (within_of hb) (by omega))
      have SG_14 := Lib.hid (SG_13.out.within (within_of hb) (by omega))
      have SI_14 := Lib.hid (SI_13.out.within (within_of hb) (by omega))
      have SX_14 := Lib.hid (SX_13.out.within (within_of hb) (by omega))
      have XX_14 := Lib.hid (XX_13.out.within (within_of hb) (by omega))
      have SY_14 := Lib.hid (SY_13.out.within (within_of hb) (by omega))
      have SZ_14 := Lib.hid (SZ_13.out.within (within_of hb) (by omega))
      clear hb
      go_wp2_with fail
      go_ret
      exact ⟨rfl, W14.out⟩
    · have hx : (1048576 : Int) < (l.length : Int) := by omega
      have h63 : l.length ≤ 9223372036854775807 := by unfold maxLen at hl; omega
      have HA := Lib.hid (new_below w (.cells #[.int .i64 q, .slice A l.length cap] 24))
      go_enter Try.func4, Try.ntmps4
      go_wp2_with fail
      refine (szGraph_no q A l.length cap 1048576 _ h63 hx (by omega)).mono ?_
      rintro e w1 ⟨rfl, hb1⟩
      have W1 := Lib.hid (below_on HA.out hb1 HA.out.size)
      clear hb1
      go_wp2_with fail
      go_ret
      exact ⟨rfl, W1.out⟩
  · have hx : (1048576 : Int) < (ys.length : Int) := by omega
    have HA := Lib.hid (new_below w (.cells #[.int .i64 q, .slice A l.length cap] 24))
    go_enter Try.func4, Try.ntmps4
    go_wp2_with fail
    go_ret
    exact ⟨rfl, HA.out⟩
end Go.Proofs.Ytedjhnedkghhoaa
