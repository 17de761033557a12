/- What (*Pebbles).pull does: a search by breadth for a free pebble, and the path turned round. No condition. -/
import Derived.Test.YtdkpmaahinbhlaaFqPullM
import Derived.Deep.RegionHeld3
namespace Go.Proofs.Ytdkpmaahinbhlaa
open Go.RowKit

set_option maxHeartbeats 8000000 in
set_option maxRecDepth 100000 in
theorem pull_c (P : Nat) (k0 : Int) (l : List (Int × Int)) (A : Option Addr) (cap pb : Nat) (f t z : Nat × Nat) (AF AT AZ : Option Addr) (cF cT cZ : Nat) (F T Z : List Int) (a b : Int) (gT : Nat) (w : World) (hS : PebS P k0 (plE l Z) F T) (hP : 1 ≤ P ∧ P ≤ 8) (hk0 : k0 ≤ 3) (hn : l.length ≤ 24) (hz24 : Z.length ≤ 24)
    (hZ : ∀ i, i < Z.length → 0 ≤ Z.getD i 0 ∧ Z.getD i 0 < (l.length : Int)) (ha : 0 ≤ a ∧ a < (P : Int)) (hb : 0 ≤ b ∧ b < (P : Int)) (hl : BarsAt w w.heap.size A l) (hst : Cel3 w pb 31 (.slice AF F.length cF) (.slice AT T.length cT) (.slice AZ Z.length cZ)) (ho : OwnF w f t z AF cF AT cT AZ cZ F T Z) (hgT : 0 < T.length → AT = some ⟨gT, 0, none⟩) (hpf : pb < f.1 ∨ f.2 ≤ pb) (hpt : pb < t.1 ∨ t.2 ≤ pb) :
    Calls Try.prog 192 #[.pointer (some ⟨pb, 0, none⟩), .agg #[.int .i64 (P : Int), .slice A l.length cap], .int .i64 a, .int .i64 b] w (PullP w f t z AF cF AT cT AZ cZ (plE l Z) F T Z a b) := by
  have hFl := hS.flen
  have hTl : T.length = Z.length := by rw [hS.ends.len, plE_len]
  obtain ⟨gF, rfl, _, _⟩ := ho.fst (by omega)
  have hhi := ho.hi
  have HE := Lib.hid (show ∀ i, i < Z.length → (plE l Z).getD i (0, 0) = l.getD (Z.getD i 0).toNat (0, 0) from fun i hi => plE_get l Z i hi)
  have HG := Lib.hid (fun k => bfs_good (T := T) hS.ends ha.1 ha.2 k)
  have HS := Lib.hid hS
  have HZ := Lib.hid hZ
  have HGT := Lib.hid hgT
  have HEL := Lib.hid (plE_len l Z)
  generalize plE l Z = E at *
  have HI := Lib.hid (show PullI w (((w.alloc (.cells #[.int .i64 (P : Int), .slice A l.length cap] 26)).alloc (.cells #[.pointer none, .pointer none, .pointer none, .pointer none, .pointer none, .pointer none, .pointer none, .pointer none] 210)).alloc (.cells #[.int .i64 a] 3)) pb f t z (P : Int) A cap l (some ⟨gF, 0, none⟩) cF AT cT AZ cZ F T Z a gT [(a, 0)] [(a, 0)] (.slice (some ⟨w.heap.size + 1 + 1, 0, none⟩) 1 1) from by
    have b1 := new_below w (.cells #[.int .i64 (P : Int), .slice A l.length cap] 26)
    have b2 := new_below (w.alloc (.cells #[.int .i64 (P : Int), .slice A l.length cap] 26)) (.cells #[.pointer none, .pointer none, .pointer none, .pointer none, .pointer none, .pointer none, .pointer none, .pointer none] 210)
    have b3 := new_below ((w.alloc (.cells #[.int .i64 (P : Int), .slice A l.length cap] 26)).alloc (.cells #[.pointer none, .pointer none, .pointer none, .pointer none, .pointer none, .pointer none, .pointer none, .pointer none] 210)) (.cells #[.int .i64 a] 3)
    have s1 : (w.alloc (.cells #[.int .i64 (P : Int), .slice A l.length cap] 26)).heap.size = w.heap.size + 1 := by simp
    have s2 : ((w.alloc (.cells #[.int .i64 (P : Int), .slice A l.length cap] 26)).alloc (.cells #[.pointer none, .pointer none, .pointer none, .pointer none, .pointer none, .pointer none, .pointer none, .pointer none] 210)).heap.size = w.heap.size + 1 + 1 := by simp
    have hball := below_on (below_on b1 b2 b1.size) b3 (by omega)
    have hr := World.ownsRow_lit (base := w.heap.size + 1 + 1) (e := 3) (size := 1) ((w.alloc (.cells #[.int .i64 (P : Int), .slice A l.length cap] 26)).alloc (.cells #[.pointer none, .pointer none, .pointer none, .pointer none, .pointer none, .pointer none, .pointer none, .pointer none] 210)) #[.int .i64 a] 1 (by omega) (by unfold maxLen; omega) (by simp)
    rw [s2] at hr
    have ha1 := heap_alloc_new (w.alloc (.cells #[.int .i64 (P : Int), .slice A l.length cap] 26)) (.cells #[.pointer none, .pointer none, .pointer none, .pointer none, .pointer none, .pointer none, .pointer none, .pointer none] 210)
    rw [s1] at ha1
    have hae : (arrL gT a [(a, 0)]) = [.pointer none, .pointer none, .pointer none, .pointer none, .pointer none, .pointer none, .pointer none, .pointer none] := by
      have h0 : ∀ v : Int, arrV gT a [(a, 0)] v = .pointer none := fun v => arrV_none (by by_cases e : v = a; exact .inr e; exact .inl (by simpa using e))
      unfold arrL
      simp only [h0]
      rfl
    exact ⟨hst.within (within_of hball) (.inr (Nat.zero_le _)), ho.below hball, ((box_new w (P : Int) (.slice A l.length cap) 26).kept b2).kept b3, (bars_in hl).within (within_of hball) (.inr (Nat.zero_le _)), by rw [hae]; exact (b3.block _ (by omega)).trans ha1, hr, hball, hst.lt, hhi.1, hhi.2.1, hhi.2.2⟩)
  clear hS hZ hgT hst ho hl
  go_enter Try.func192, Try.ntmps192
  go_wp2_with fail
  generalize (((w.alloc (.cells #[.int .i64 (P : Int), .slice A l.length cap] 26)).alloc (.cells #[.pointer none, .pointer none, .pointer none, .pointer none, .pointer none, .pointer none, .pointer none, .pointer none] 210)).alloc (.cells #[.int .i64 a] 3)) = w1 at *
  go_loopw [10, 11] (fun qv i wr => ∃ k : Nat, k ≤ (bfs E T a k).length ∧ i = .int .i64 k ∧ (∀ y ∈ (bfs E T a k).take k, givesB F a b y = false) ∧ PullI w wr pb f t z (P : Int) A cap l (some ⟨gF, 0, none⟩) cF AT cT AZ cZ F T Z a gT (bfs E T a k) (bfs E T a k) qv) (fun _ i _ => 9 - (intOf i).toNat)
  case atStart => exact ⟨0, Nat.zero_le _, rfl, fun y hy => (by simp at hy), HI.out⟩
  case round =>
    clear HI
    obtain ⟨k, hk, rfl, hno, hin⟩ := hrel
    have HIN := Lib.hid hin
    have HNO := Lib.hid hno
    have hshort := (HG.out k).short
    obtain ⟨A', c', rfl⟩ := own_shape hin.row
    clear hno
    by_cases hlt : k < (bfs E T a k).length
    · have hki : (k : Int) < ((bfs E T a k).length : Int) := by omega
      obtain ⟨gq, rfl⟩ : ∃ gq, A' = some ⟨gq, 0, none⟩ := by
        rcases hin.row.2 with ⟨_, e0⟩ | ⟨g, _, _, e, _⟩
        · omega
        · cases e
          exact ⟨g, rfl⟩
      have hq := (hin.row.cellAt k (show k < (bfs E T a k).length * 1 by omega)).trans (intCells_get ((bfs E T a k).map Prod.fst) k (by simpa using hlt))
      rw [map_fst_getD _ k hlt] at hq
      have hrg := (HG.out k).range ha k hlt
      have HFI := Lib.hid (fun hg : givesB F a b ((bfs E T a k).getD k (0, 0)) = true => find_impl k hlt (by omega) HNO.out hg)
      have HNX := Lib.hid (fun hg : givesB F a b ((bfs E T a k).getD k (0, 0)) = false => no_step hlt HNO.out hg)
      have HSC := Lib.hid (show bfs E T a (k + 1) = scanN E T ((bfs E T a k).getD k (0, 0)).1 (bfs E T a k) E.length by rw [bfs_succ, if_pos hlt])
      have HMEM := Lib.hid (getD_mem_fst _ k hlt)
      obtain ⟨gc0, gc1, gc2, _, _, _⟩ := hin.st.cells
      have hgb : givesB F a b ((bfs E T a k).getD k (0, 0)) = (decide (((bfs E T a k).getD k (0, 0)).1 ≠ a) && decide (((bfs E T a k).getD k (0, 0)).1 ≠ b) && decide (0 < F.getD ((bfs E T a k).getD k (0, 0)).1.toNat 0)) := rfl
      obtain ⟨fb, fo, hfb, hfc⟩ := row_at hin.own.reads.f (by omega)
      cases hfb
      obtain ⟨x, hx⟩ : ∃ x, (bfs E T a k).getD k (0, 0) = x := ⟨_, rfl⟩
      rw [hx] at hq hrg HFI HNX HSC HMEM hgb
      obtain ⟨v, i⟩ := x
      simp only at hq hrg hgb
      obtain ⟨n, rfl⟩ : ∃ n : Nat, v = (n : Int) := ⟨v.toNat, by omega⟩
      rw [Int.toNat_natCast] at hgb
      have hnF : (n : Int) < (F.length : Int) := by omega
      have hnP : n < P := by omega
      have hfn := hfc n (by omega)
      rw [Nat.zero_add] at hfn
      have HFC := Lib.hid hfc
      have HX := Lib.hid hx
      clear hfc hx
      by_cases hg : givesB F a b ((n : Int), i) = true
      · rw [hg] at hgb
        have hgb' := hgb.symm
        simp only [Bool.and_eq_true, decide_eq_true_eq] at hgb'
        obtain ⟨⟨g1, g2⟩, g3⟩ := hgb'
        obtain ⟨q1, r, hQ⟩ := HFI.out hg
        have hpk := (HG.out k).path
        have hTpos : 0 < T.length := by
          obtain ⟨_, _, _, _, _, _, hiE, _⟩ := hpk.at HMEM.out g1
          have := HEL.out
          omega
        obtain ⟨d, hd⟩ : ∃ d, d = F.getD n 0 := ⟨_, rfl⟩
        obtain ⟨d2, hd2⟩ : ∃ d2, d2 = F.getD a.toNat 0 := ⟨_, rfl⟩
        rw [← hd] at g3 hfn
        obtain ⟨gF', gT', e1, e2, b1, b3, hst3⟩ := hin.own.open_ (by omega) hTpos
        cases e1
        have e3 := HGT.out hTpos
        rw [e2] at e3
        cases e3
        cases e2
        obtain ⟨_, hf2⟩ := hst3.cellF n (by omega)
        have hst4 := hst3.setF n (d - 1)
        have han : a.toNat ≠ n := by omega
        have haF : a.toNat < F.length := by omega
        obtain ⟨hf3, hf4⟩ := hst4.cellF a.toNat (by rw [List.length_set]; omega)
        rw [set_getD_ne _ _ _ _ _ han, ← hd2] at hf3
        have hst5 := hst4.setF a.toNat (d2 + 1)
        have hw1 := within_set wr gF n (.int .i64 (d - 1))
        have hw2 := within_set (wr.setCell ⟨gF, n, none⟩ (.int .i64 (d - 1))) gF a.toNat (.int .i64 (d2 + 1))
        have hlo := hin.low
        have hc1 := (hin.st.within hw1 (by omega)).cells.1
        have harr := (hw2.block _ (Nat.lt_of_lt_of_le (Array.getElem?_eq_some_iff.1 hin.arr).1 hw1.size) (by omega)).trans ((hw1.block _ (Array.getElem?_eq_some_iff.1 hin.arr).1 (by omega)).trans hin.arr)
        have hrb1 := (Array.getElem?_eq_some_iff.1 harr).1
        have hmove : (F.set n (d - 1)).set a.toNat (d2 + 1) = movF F a (n : Int) := by unfold movF; rw [Int.toNat_natCast, hd, hd2]
        rw [hmove] at hst5
        have HST5 := Lib.hid hst5
        have HARR := Lib.hid harr
        have HWW := Lib.hid (And.intro hw1 hw2)
        have HBB := Lib.hid (show (f.1 ≤ gF ∧ gF < f.2) ∧ (t.1 ≤ gT ∧ gT < t.2) from ⟨b1, b3⟩)
        have HDS := Lib.hid hin.own.2.2
        have HTI := Lib.hid (show TurnI P E T a (bfs E T a k) (turnQ E a (bfsQ E T a).reverse (n : Int) T) (n : Int) T from by
          have e0 : bfs E T a k = ((bfs E T a k).take k ++ [((n : Int), i)]) ++ (bfs E T a k).drop (k + 1) := by rw [← HX.out, ← take_snoc_getD _ _ hlt, List.take_append_drop]
          have hnd := (HG.out (max E.length 8)).path.nodup (show bfs E T a (max E.length 8) = (bfs E T a k).take k ++ ((n : Int), i) :: r from hQ)
          have hp1 : PathQ P E T a ((bfs E T a k).take k ++ [((n : Int), i)]) := PathQ.pre (r := (bfs E T a k).drop (k + 1)) (by rw [← e0]; exact hpk) (by simp)
          have := TurnI.start (r := (bfs E T a k).drop (k + 1)) HS.out.ends hp1 (show (n : Int) ∈ _ by simp)
          rw [← e0] at this
          rw [hQ, turn_prefix (x := ((n : Int), i)) T hnd]
          exact this)
        have HFM := Lib.hid (show findM E a b (F, T) = some (movF F a (n : Int), turnQ E a (bfsQ E T a).reverse (n : Int) T) by
          show Option.map _ ((bfsQ E T a).find? (givesB F a b)) = _
          rw [q1]
          rfl)
        have hfv := HS.out.small (v := (n : Int)) (by omega)
        have hfa := HS.out.small (v := a) ha
        rw [Int.toNat_natCast, ← hd] at hfv
        rw [← hd2] at hfa
        have hai : (a.toNat : Int) = a := by omega
        obtain ⟨an, han2⟩ : ∃ an : Nat, a.toNat = an := ⟨_, rfl⟩
        rw [han2] at hai hf3 hf4 HST5 HARR HWW han haF
        subst hai
        have haF2 : (an : Int) < (F.length : Int) := by omega
        clear hd hd2
        have e4 : ((n : Int) != (an : Int)) = true := by simpa using g1
        have e5 : ((n : Int) != b) = true := by simpa using g2
        have g3d : decide (0 < d) = true := by simpa using g3
        clear g1 g2 hQ q1 hpk hst3 hst4 hst5 harr hw1 hw2 hmove hgb hg hin
        go_wp2_with fail
        have HCE := Lib.hid (show ∀ x ∈ bfs E T (an : Int) k, x.1 ≠ (an : Int) → ((wr.setCell ⟨gF, n, none⟩ (.int .i64 (d - 1))).setCell ⟨gF, an, none⟩ (.int .i64 (d2 + 1))).cell? ⟨w.heap.size + 1, x.1.toNat, none⟩ = some (.pointer (some ⟨gT, x.2, none⟩)) from fun x hx hxa => by
          obtain ⟨_, _, _, _, _, _, _, _, _, h6, h7, _⟩ := (HG.out k).path.at (List.mem_map_of_mem hx) hxa
          have e := arrL_get gT (an : Int) (bfs E T an k) x.1.toNat (by omega)
          rw [show ((x.1.toNat : Nat) : Int) = x.1 by omega, arrV_at (HG.out k).path hx hxa] at e
          exact (cell_of_row _ _ _ _ _ _ HARR.out).trans (by simpa using e))
        refine (turnPath_c P E (movF F an n) T Z _ an n (bfs E T an k) (w.heap.size + 1) 0 gF cF gT cT cZ z.1 z.2 AZ _ HST5.out HTI.out (by omega) HCE.out (by have := HBB.out; have := HIN.out.low; omega) (Array.getElem?_eq_some_iff.1 HARR.out).1).mono ?_
        rintro e6 w6 ⟨rfl, hst6, hw6⟩
        have HST6 := Lib.hid hst6
        have HW6 := Lib.hid hw6
        clear hst6 hw6
        go_wp2_with fail
        go_ret
        have hbl := HIN.out.bel
        have hlow := HIN.out.low
        have hbb := HBB.out
        have hsz1 := HWW.out.1.size
        have hsz2 := HWW.out.2.size
        have hsz6 := HW6.out.size
        have hszb := hbl.size
        obtain ⟨oz, od1, od2, od3⟩ := HDS.out
        unfold Dis at od1 od2 od3
        have oz6 := ((oz.within HWW.out.1 (by omega)).within HWW.out.2 (by omega)).within HW6.out (by omega)
        exact ⟨(((Within2.of (within_of hbl) (.inl (Nat.le_refl 0))).trans (Within2.of HWW.out.1 (by omega))).trans (Within2.of HWW.out.2 (by omega))).trans (Within2.of HW6.out (by omega)), .inr ⟨_, rfl, HFM.out, HST6.out.ownF hbb.1 hbb.2 (by omega) (by omega) oz6 (by unfold Dis; omega) (by unfold Dis; omega) (by unfold Dis; omega)⟩⟩
      · have hgf : givesB F a b ((n : Int), i) = false := by simpa using hg
        have HNX2 := Lib.hid (HNX.out hgf)
        have HGS := Lib.hid (fun j (hj : j ≤ E.length) => (HG.out k).scan HS.out.ends HMEM.out j hj)
        obtain ⟨d, hd⟩ : ∃ d, F.getD n 0 = d := ⟨_, rfl⟩
        rw [hd] at hgb hfn
        have hcase : ((n : Int) != a) = false ∨ (((n : Int) != a) = true ∧ ((n : Int) != b) = false) ∨ (((n : Int) != a) = true ∧ ((n : Int) != b) = true ∧ decide (0 < d) = false) := by
          by_cases k1 : (n : Int) = a
          · exact .inl (by simpa using k1)
          · by_cases k2 : (n : Int) = b
            · exact .inr (.inl ⟨by simpa using k1, by simpa using k2⟩)
            · rw [hgf] at hgb
              exact .inr (.inr ⟨by simpa using k1, by simpa using k2, by simpa [k1, k2] using hgb.symm⟩)
        have hst := HIN.out.st
        obtain ⟨hc0, hc1, hc2, _, _, _⟩ := hst.cells
        clear hgb hg hin hd hst gc0 gc1 gc2
        rcases hcase with c1 | ⟨c1, c2⟩ | ⟨c1, c2, c3⟩
        all_goals (
          go_wp2_with fail
          clear hc0 hc1 hc2
          go_loopw [10, 71] (fun qv jv wr' => ∃ j : Nat, j ≤ Z.length ∧ jv = .int .i64 j ∧ PullI w wr' pb f t z (P : Int) A cap l (some ⟨gF, 0, none⟩) cF AT cT AZ cZ F T Z a gT (scanN E T (n : Int) (bfs E T a k) j) (scanN E T (n : Int) (bfs E T a k) j) qv) (fun _ jv _ => Z.length - (intOf jv).toNat)
          case atStart => exact ⟨0, Nat.zero_le _, rfl, HIN.out⟩
          case round =>
            obtain ⟨j, hj, rfl, hin2⟩ := hrel
            have HIN2 := Lib.hid hin2
            obtain ⟨A2, c2', rfl⟩ := own_shape hin2.row
            obtain ⟨hc0, hc1, hc2, _, _, _⟩ := hin2.st.cells
            by_cases hlt2 : j < Z.length
            · have hji : (j : Int) < (Z.length : Int) := by omega
              have hjt : (j : Int) < (T.length : Int) := by omega
              obtain ⟨gF', gT', e1, e2, _, _, hst3⟩ := hin2.own.open_ (by omega) (by omega)
              cases e1
              have e3 := HGT.out (by omega)
              rw [e2] at e3
              cases e3
              cases e2
              have ht := (hst3.cellT j (by omega)).1
              obtain ⟨zb, zo, rfl, hzc⟩ := row_at hin2.own.reads.z (by omega)
              have hz := hzc j hlt2
              have HSN := Lib.hid (show scanN E T (n : Int) (bfs E T a k) (j + 1) = scan1 E T (n : Int) (scanN E T (n : Int) (bfs E T a k) j) j from rfl)
              obtain ⟨t, htd⟩ : ∃ t, T.getD j 0 = t := ⟨_, rfl⟩
              rw [htd] at ht
              clear hin2 hst3 hzc
              by_cases c5 : t = (n : Int)
              · subst c5
                have d5 : ((n : Int) != (n : Int)) = false := by simp
                obtain ⟨hz0, hz1⟩ := HZ.out j hlt2
                have hEj := HE.out j hlt2
                have hend := HS.out.ends.tail j (by rw [HEL.out]; exact hlt2)
                have hoth := HS.out.ends.oth_in (by rw [HEL.out]; exact hlt2) htd
                obtain ⟨gs, gm⟩ := HGS.out j (by rw [HEL.out]; omega)
                have hsh := gs.short
                rw [htd] at hend
                rw [hEj] at hend hoth
                obtain ⟨m, hm⟩ : ∃ m : Nat, Z.getD j 0 = (m : Int) := ⟨(Z.getD j 0).toNat, by omega⟩
                rw [hm] at hz hz0 hz1 hend hoth hEj
                rw [Int.toNat_natCast] at hend hoth hEj
                obtain ⟨bb, boff, rfl, _, hbc⟩ := HIN2.out.bars.at (by omega)
                have hx1 := (hbc m (by omega)).1
                have hx2 := (hbc m (by omega)).2
                obtain ⟨x, hxd⟩ : ∃ x, l.getD m (0, 0) = x := ⟨_, rfl⟩
                rw [hxd] at hx1 hx2 hend hoth hEj
                obtain ⟨x1, x2⟩ := x
                simp only at hx1 hx2
                obtain ⟨o, ho⟩ : ∃ o : Nat, oth (x1, x2) (n : Int) = (o : Int) := ⟨(oth (x1, x2) (n : Int)).toNat, by omega⟩
                rw [ho] at hoth
                have HO := Lib.hid ho
                have HEN := Lib.hid hend
                have HS1 := Lib.hid (show scan1 E T (n : Int) (scanN E T (n : Int) (bfs E T a k) j) j = if (o : Int) ∉ (scanN E T (n : Int) (bfs E T a k) j).map Prod.fst then (scanN E T (n : Int) (bfs E T a k) j) ++ [((o : Int), j)] else (scanN E T (n : Int) (bfs E T a k) j) by
                  unfold scan1
                  rw [htd, hEj, ho]
                  by_cases h : (o : Int) ∈ (scanN E T (n : Int) (bfs E T a k) j).map Prod.fst
                  · rw [if_neg (fun q => q.2 h), if_neg (fun q => q h)]
                  · rw [if_pos ⟨rfl, h⟩, if_pos h])
                have HGJ := Lib.hid gs
                have ho8 : o < 8 := by omega
                have ho8i : (o : Int) < 8 := by omega
                have hoP := hoth.1
                obtain ⟨_, gx0, gx1⟩ := HIN2.out.box
                have hmi : (m : Int) < (l.length : Int) := hz1
                clear hbc hxd ho hend hEj hm gs gm htd hz0 hoth
                by_cases c6 : (o : Int) = a
                · have d6 : ((o : Int) != a) = false := by simpa using c6
                  have HQ := Lib.hid (show (scanN E T (n : Int) (bfs E T a k) j) = scanN E T (n : Int) (bfs E T a k) (j + 1) by
                    rw [HSN.out, HS1.out, if_neg]
                    obtain ⟨r, e⟩ := HGJ.out.start
                    rw [e, c6]; simp)
                  clear c6
                  go_wp2_with (go_at_call 225; refine (otherEnd_c (x1, x2) (n : Int) _ HEN.out).mono ?_; rintro e w5 ⟨rfl, hb⟩; rw [HO.out]; have HIN5 := Lib.hid (HIN2.out.below hb); obtain ⟨hd0, hd1, hd2, _, _, _⟩ := HIN5.out.st.cells; have hfz := frozen_of_row _ _ o _ _ HIN5.out.arr; clear hb hc0 hc1 hc2)
                  go_roundw
                  case rel => exact ⟨j + 1, by omega, by go_num, by rw [← HQ.out]; exact HIN5.out⟩
                  case measure => simp [intOf]; omega
                · have d6 : ((o : Int) != a) = true := by simpa using c6
                  by_cases c7 : (o : Int) ∈ (scanN E T (n : Int) (bfs E T a k) j).map Prod.fst
                  · have HQ := Lib.hid (show (scanN E T (n : Int) (bfs E T a k) j) = scanN E T (n : Int) (bfs E T a k) (j + 1) by rw [HSN.out, HS1.out, if_neg]; simpa using c7)
                    obtain ⟨g7, j7, hv7⟩ := arrV_some (gT := gT) c7 c6
                    have HV := Lib.hid hv7
                    clear c6 c7 hv7
                    go_wp2_with (go_at_call 225; refine (otherEnd_c (x1, x2) (n : Int) _ HEN.out).mono ?_; rintro e w5 ⟨rfl, hb⟩; rw [HO.out]; have HIN5 := Lib.hid (HIN2.out.below hb); obtain ⟨hd0, hd1, hd2, _, _, _⟩ := HIN5.out.st.cells; have hfz := frozen_of_row _ _ o _ _ HIN5.out.arr; have har := (cell_of_row _ _ o _ _ _ HIN5.out.arr).trans (by simpa using (arrL_get gT a (scanN E T (n : Int) (bfs E T a k) j) o ho8).trans (congrArg some HV.out)); clear hb hc0 hc1 hc2)
                    go_roundw
                    case rel => exact ⟨j + 1, by omega, by go_num, by rw [← HQ.out]; exact HIN5.out⟩
                    case measure => simp [intOf]; omega
                  · have HQ := Lib.hid (show (scanN E T (n : Int) (bfs E T a k) j) ++ [((o : Int), j)] = scanN E T (n : Int) (bfs E T a k) (j + 1) by rw [HSN.out, HS1.out, if_pos c7])
                    have HV := Lib.hid (arrV_none (gT := gT) (a := a) (.inl c7))
                    have HNI := Lib.hid c7
                    have HNA := Lib.hid c6
                    clear c6 c7
                    go_wp2_with (first
                      | (go_at_call 225; refine (otherEnd_c (x1, x2) (n : Int) _ HEN.out).mono ?_; rintro e w5 ⟨rfl, hb⟩; rw [HO.out]; have HIN5 := Lib.hid (HIN2.out.below hb); obtain ⟨hd0, hd1, hd2, _, _, _⟩ := HIN5.out.st.cells; have hfz := frozen_of_row _ _ o _ _ HIN5.out.arr; have har := (cell_of_row _ _ o _ _ _ HIN5.out.arr).trans (by simpa using (arrL_get gT a (scanN E T (n : Int) (bfs E T a k) j) o ho8).trans (congrArg some HV.out)); clear hb hc0 hc1 hc2; have HR3 := Lib.hid (HIN5.out.reach o j ho8 HNI.out HNA.out); have hbs := (Array.getElem?_eq_some_iff.1 HR3.out.arr).1)
                      | (at_builtin; go_loud (refine wpList_at _ rfl _ _ 29 rfl (w.heap.size + 1 + 1) 3 (.int .i64 0) 1 8 Try.underlying29 infoInt rfl (by decide) _ _ _ rfl HR3.out.row #[.int .i64 (o : Int)] 1 rfl (by simp [Value.oneCell']) _ 1 (by simp only [World.size_setCell]; rfl) (by omega) (by unfold maxLen; omega) hbs ?_; intro v' w' ho hg _ _; obtain ⟨A3, c3', rfl⟩ := own_shape ho; have HN := Lib.hid (HR3.out.push ((o : Int), j) ho hg); clear ho hg)))
                    go_roundw
                    case rel => exact ⟨j + 1, by omega, by go_num, by rw [← HQ.out]; exact HN.out⟩
                    case measure => simp [intOf]; omega
              · have d5 : (t != (n : Int)) = true := by simpa using c5
                have HQ := Lib.hid (show (scanN E T (n : Int) (bfs E T a k) j) = scanN E T (n : Int) (bfs E T a k) (j + 1) by rw [HSN.out]; unfold scan1; rw [htd, if_neg]; exact fun h => c5 h.1)
                clear c5 htd
                go_wp2_with fail
                go_roundw
                case rel => exact ⟨j + 1, by omega, by go_num, by rw [← HQ.out]; exact HIN2.out⟩
                case measure => simp [intOf]; omega
            · obtain rfl : j = Z.length := by omega
              have hji : ¬ (Z.length : Int) < (Z.length : Int) := by omega
              clear hin2
              go_wp2_with fail
              go_roundw
              case rel => exact ⟨k + 1, by rw [HSC.out]; obtain ⟨r, e⟩ := scanN_pre E T (n : Int) (bfs E T a k) E.length; rw [e, List.length_append]; omega, by go_num, HNX2.out, by rw [HSC.out, HEL.out]; exact HIN2.out⟩
              case measure => simp [intOf]; omega)
    · have hkl : k = (bfs E T a k).length := by omega
      have HF := Lib.hid (find_no (E := E) (T := T) (F := F) (a := a) (b := b) k (by omega) (by omega) (by rw [← List.take_of_length_le (l := bfs E T a k) (i := k) (by omega)]; exact HNO.out))
      have hki : ¬ (k : Int) < ((bfs E T a k).length : Int) := by omega
      clear hin hkl
      go_wp2_with fail
      go_ret
      exact ⟨Within2.of (within_of HIN.out.bel) (.inl (Nat.le_refl 0)), .inl ⟨rfl, by show Option.map _ ((bfsQ E T a).find? (givesB F a b)) = none; rw [HF.out]; rfl, HIN.out.own⟩⟩
end Go.Proofs.Ytdkpmaahinbhlaa
