/- What spec.l4Find answers: a search by breadth for a free pebble, and the path turned round. No condition. -/
import Derived.Test.YtdkpmaahinbhlaaFqB2
import Derived.Test.YtdkpmaahinbhlaaFqFindM
namespace Go.Proofs.Ytdkpmaahinbhlaa
open Go.RowKit

theorem infoB1 : (Try.prog.info? 4).map (fun i => (i.zero, i.size, i.bytes)) = some (some (.bool false), 1, 1) := by kernel_rfl
theorem Own3R.widen {W : World} {lo hi lo' hi' : Nat} {AF AT AZ : Option Addr} {cF cT cZ : Nat} {F T Z : List Int} (h : Own3R W lo hi AF cF AT cT AZ cZ F T Z) (h1 : lo' ≤ lo) (h2 : hi ≤ hi') (h3 : hi' ≤ W.heap.size) : Own3R W lo' hi' AF cF AT cT AZ cZ F T Z := by
  obtain ⟨f, t, z, o1, o2, o3, d1, d2, d3, b1, b2, b3, _⟩ := h
  exact ⟨f, t, z, o1, o2, o3, d1, d2, d3, by omega, by omega, by omega, h3⟩

set_option maxHeartbeats 8000000 in
set_option maxRecDepth 100000 in
theorem find_c (k0 : Int) (l : List (Int × Int)) (A : Option Addr) (cap : Nat) (AF AT AZ : Option Addr) (cF cT cZ lo hi : Nat) (F T Z : List Int) (a b : Int) (w : World) (hS : PebS F.length k0 (plE l Z) F T) (hP : 1 ≤ F.length ∧ F.length ≤ 8) (hk0 : k0 ≤ 3) (hn : l.length ≤ 24) (hz24 : Z.length ≤ 24)
    (hZ : ∀ i, i < Z.length → 0 ≤ Z.getD i 0 ∧ Z.getD i 0 < (l.length : Int)) (ha : 0 ≤ a ∧ a < (F.length : Int)) (hl : BarsAt w w.heap.size A l) (h : Peb3 w lo hi AF AT AZ F T Z) :
    Calls Try.prog 193 #[.agg #[.int .i64 (F.length : Int), .slice A l.length cap], pebV AF F.length cF AT T.length cT AZ Z.length cZ, .int .i64 a, .int .i64 b] w (FindP w (pebV AF F.length cF AT T.length cT AZ Z.length cZ) (plE l Z) F T Z a b) := by
  obtain ⟨an, rfl⟩ : ∃ an : Nat, a = (an : Int) := ⟨a.toNat, by omega⟩
  have hhi : hi ≤ w.heap.size := h.f.1
  have HI0 := Lib.hid (GtI.start w (F.length : Int) A cap l AF AT AZ cF cT cZ lo hi F T Z hl h)
  have HTZ := Lib.hid (show T.length = Z.length by rw [hS.ends.len, plE_len])
  have HE := Lib.hid (show ∀ i, i < Z.length → (plE l Z).getD i (0, 0) = l.getD (Z.getD i 0).toNat (0, 0) from fun i hi => plE_get l Z i hi)
  have HG := Lib.hid (fun k => bfs_good (T := T) hS.ends ha.1 ha.2 k)
  have HS := Lib.hid hS
  have HZ := Lib.hid hZ
  have HEL := Lib.hid (plE_len l Z)
  have HSH := Lib.hid (fun (u : Int) (q : List (Int × Nat)) (TF FR : List Int) (Af : Option Addr) (cf lf hf : Nat) (W : World) (h1 : BarsAt W W.heap.size A l) (h2 : Peb3 W lo hi AF AT AZ F T Z) (h3 : TurnI F.length (plE l Z) T (an : Int) q TF u T) (h4 : IntsIn W lf hf Af FR) (h5 : FR.length = F.length) (h6 : ∀ x ∈ q, x.1 ≠ (an : Int) → FR.getD x.1.toNat 0 = (x.2 : Int)) (h7 : 0 ≤ u ∧ u < (F.length : Int)) (h8 : u ≠ (an : Int)) => shift_c F.length l A cap AF AT AZ cF cT cZ lo hi F T Z (an : Int) u q TF FR Af cf lf hf W h1 h2 hn rfl hP (by rw [hS.ends.len, plE_len]) hz24 hZ h3 h4 h5 h6 ha h7 h8 (by have := hS.small h7; omega) (by have := hS.small ha; omega))
  generalize plE l Z = E at *
  clear hS hZ hl h
  have hs3 : (((w.alloc (.cells #[.int .i64 (F.length : Int), .slice A l.length cap] 26)).alloc (.cells #[.slice AF F.length cF, .slice AT T.length cT, .slice AZ Z.length cZ] 31)).alloc (.cells #[.slice none 0 0, .slice none 0 0, .slice none 0 0] 31)).heap.size = w.heap.size + 3 := by simp
  have HS3 := Lib.hid hs3
  clear hs3
  go_enter Try.func193, Try.ntmps193
  obtain ⟨_, g0, g1⟩ := HI0.out.gb
  go_wp2_with (at_make; generalize (((w.alloc (.cells #[.int .i64 (F.length : Int), .slice A l.length cap] 26)).alloc (.cells #[.slice AF F.length cF, .slice AT T.length cT, .slice AZ Z.length cZ] 31)).alloc (.cells #[.slice none 0 0, .slice none 0 0, .slice none 0 0] 31)) = w3 at *; refine wpList_mkn _ rfl _ _ 29 rfl w3.heap.size 3 (.int .i64 0) 8 Try.underlying29 infoInt rfl _ _ _ _ F.length rfl rfl rfl rfl (by omega) (by unfold maxLen; omega) (Nat.le_refl _) ?_; intro w4 hown4 hb4; have HO4 := Lib.hid hown4; have HI4 := Lib.hid (HI0.out.below hb4); have hsz4 := (hown4.lt _ rfl).2; clear hown4 hb4)
  clear g0 g1 HI0
  have hgf : w.heap.size + 3 ≤ w3.heap.size := Nat.le_of_eq HS3.out.symm
  clear HS3
  generalize w3.heap.size = gf at *
  go_loopw [11] (fun i wr => ∃ (j : Nat) (FR : List Int), j ≤ F.length ∧ i = .int .i64 j ∧ FR.length = F.length ∧ gf < wr.heap.size ∧ wr.ownsRow gf 3 1 (.slice (some ⟨gf, 0, none⟩) F.length F.length) F.length (intCells FR) ∧ GtI w wr (F.length : Int) A cap l AF AT AZ cF cT cZ lo hi F T Z) (fun i _ => F.length - (intOf i).toNat)
  case atStart => exact ⟨0, List.replicate F.length 0, Nat.zero_le _, rfl, by simp, hsz4, by simpa [intCells] using HO4.out, HI4.out⟩
  case round =>
    clear HO4 HI4 hsz4
    obtain ⟨j, FR, hj, rfl, hfl, hsz, hown, hg⟩ := hrel
    have HO := Lib.hid hown
    have HGI := Lib.hid hg
    have HFL := Lib.hid hfl
    obtain ⟨_, g0, g1⟩ := hg.gb
    clear hown hg hfl
    by_cases hlt : j < F.length
    · have hji : (j : Int) < (F.length : Int) := by omega
      have hf := HO.out.frozenAt j
      have hc := (HO.out.cellAt j (show j < F.length * 1 by omega)).trans (intCells_get FR j (by rw [HFL.out]; exact hlt))
      have hst := (HO.out.stored j (.int .i64 (-1))).1
      rw [intCells_set] at hst
      have hw := within_set wr gf j (.int .i64 (-1))
      have HN := Lib.hid (show (wr.setCell ⟨gf, j, none⟩ (.int .i64 (-1))).ownsRow gf 3 1 (.slice (some ⟨gf, 0, none⟩) F.length F.length) F.length (intCells (FR.set j (-1))) from hst)
      have HGN := Lib.hid (HGI.out.within hw (by omega) (by omega))
      clear hst hw
      go_wp2_with fail
      go_roundw
      case rel => exact ⟨j + 1, FR.set j (-1), by omega, by go_num, by rw [List.length_set]; exact HFL.out, by simpa using hsz, HN.out, HGN.out⟩
      case measure => simp [intOf]; omega
    · obtain rfl : j = F.length := by omega
      have hal := new_below wr (.cells #[.int .i64 (an : Int)] 3)
      have hrow := World.ownsRow_lit (base := w.heap.size + 3) (e := 3) (size := 1) wr #[.int .i64 (an : Int)] 1 (by omega) (by unfold maxLen; omega) (by simp)
      have HQ0 := Lib.hid hrow
      have HO5 := Lib.hid (own_below HO.out hal)
      have HG5 := Lib.hid (HGI.out.below hal)
      have hs5 : (wr.alloc (.cells #[.int .i64 (an : Int)] 3)).heap.size = wr.heap.size + 1 := by simp
      have HS5 := Lib.hid hs5
      obtain ⟨_, k0', k1⟩ := HG5.out.gb
      have haF : (an : Int) < (F.length : Int) := ha.2
      clear hal hrow hs5
      go_wp2_with (at_make; generalize (wr.alloc (.cells #[.int .i64 (an : Int)] 3)) = w5 at *; refine wpList_mkn _ rfl _ _ 190 rfl w5.heap.size 4 (.bool false) 1 Try.underlying190 infoB1 rfl _ _ _ _ F.length rfl rfl rfl rfl (by omega) (by unfold maxLen; omega) (Nat.le_refl _) ?_; intro w6 hown6 hb6; have hf6 := hown6.frozenAt an; have hc6 := hown6.cellAt an (show an < F.length * 1 by omega); have hc6' : w6.cell? ⟨w5.heap.size, an, none⟩ = some (.bool false) := hc6.trans (by rw [List.getElem?_replicate, if_pos (show an < F.length by omega)]); have HO6 := Lib.hid hown6; have HB6 := Lib.hid hb6; clear hown6 hb6 hc6 k0' k1 g0 g1)
      clear hf6 hc6'
      have hst := (HO6.out.stored an (.bool true)).1
      rw [seenC_one] at hst
      have hw6 := within_set w6 w5.heap.size an (.bool true)
      have hs5 : wr.heap.size < w5.heap.size := by have := HS5.out; omega
      have hlt3 := hsz
      have HFI := Lib.hid (show FindI w (w6.setCell ⟨w5.heap.size, an, none⟩ (.bool true)) (F.length : Int) A cap l AF AT AZ cF cT cZ lo hi F T Z gf w5.heap.size FR (an : Int) [((an : Int), 0)] [((an : Int), 0)] (.slice (some ⟨wr.heap.size, 0, none⟩) 1 1) from ⟨(HG5.out.below HB6.out).within hw6 (by omega) (by omega), own_block (own_below HO5.out HB6.out) (hw6.block _ (Nat.lt_of_lt_of_le (HO5.out.lt _ rfl).2 HB6.out.size) (by omega)), hst, own_block (own_below HQ0.out HB6.out) (hw6.block _ (by have := HB6.out.size; omega) (by omega)), fun g hg => (show wr.heap.size = g by simpa [Value.ownBlock] using hg) ▸ (show wr.heap.size ≠ gf ∧ wr.heap.size ≠ w5.heap.size by omega), by omega, by omega, by omega, by omega, HFL.out, fun x hx hxa => absurd (congrArg Prod.fst (show x = ((an : Int), 0) by simpa using hx)) hxa⟩)
      clear hst hw6
      generalize w5.heap.size = gs at *
      generalize (w6.setCell ⟨gs, an, none⟩ (.bool true)) = w7 at *
      clear HQ0 HO5 HG5 HS5 HO HGI
      go_loopw [12, 14] (fun qv i wr' => ∃ (k : Nat) (FR : List Int), k ≤ (bfs E T (an : Int) k).length ∧ i = .int .i64 k ∧ (∀ y ∈ bfs E T (an : Int) k, givesB F (an : Int) b y = false) ∧ FindI w wr' (F.length : Int) A cap l AF AT AZ cF cT cZ lo hi F T Z gf gs FR (an : Int) (bfs E T (an : Int) k) (bfs E T (an : Int) k) qv) (fun _ i _ => 9 - (intOf i).toNat)
      case atStart => exact ⟨0, FR, Nat.zero_le _, rfl, fun y hy => by obtain rfl : y = ((an : Int), 0) := by simpa [bfs] using hy
                                                                       simp [givesB], HFI.out⟩
      case round =>
        clear HFI HFL
        obtain ⟨k, FR, hk, rfl, hno, hin⟩ := hrel
        have HIN := Lib.hid hin
        have HNO := Lib.hid hno
        have hshort := (HG.out k).short
        obtain ⟨A', c', rfl⟩ := own_shape hin.qu
        clear hno
        by_cases hlt : k < (bfs E T (an : Int) k).length
        · have hki : (k : Int) < ((bfs E T (an : Int) k).length : Int) := by omega
          obtain ⟨gq, rfl⟩ : ∃ gq, A' = some ⟨gq, 0, none⟩ := by
            rcases hin.qu.2 with ⟨_, e0⟩ | ⟨g, _, _, e, _⟩
            · omega
            · cases e
              exact ⟨g, rfl⟩
          have hq := (hin.qu.cellAt k (show k < (bfs E T (an : Int) k).length * 1 by omega)).trans (intCells_get ((bfs E T (an : Int) k).map Prod.fst) k (by simpa using hlt))
          rw [map_fst_getD _ k hlt] at hq
          have hrg := (HG.out k).range ha k hlt
          have HSC := Lib.hid (show bfs E T (an : Int) (k + 1) = scanN E T ((bfs E T (an : Int) k).getD k (0, 0)).1 (bfs E T (an : Int) k) E.length by rw [bfs_succ, if_pos hlt])
          have HMEM := Lib.hid (getD_mem_fst _ k hlt)
          have HFS := Lib.hid (fun (j : Nat) (h1 : j < E.length) (h2 : T.getD j 0 = ((bfs E T (an : Int) k).getD k (0, 0)).1) => find_spec (F := F) (b := b) k j hlt (by omega) h1 rfl h2)
          obtain ⟨x, hx⟩ : ∃ x, (bfs E T (an : Int) k).getD k (0, 0) = x := ⟨_, rfl⟩
          rw [hx] at hq hrg HSC HMEM HFS
          obtain ⟨v, i0⟩ := x
          simp only at hq hrg
          obtain ⟨n, rfl⟩ : ∃ n : Nat, v = (n : Int) := ⟨v.toNat, by omega⟩
          have HGS := Lib.hid (fun j (hj : j ≤ E.length) => (HG.out k).scan HS.out.ends HMEM.out j hj)
          obtain ⟨p0, p1, p2, _, _, _⟩ := hin.g.pb.cells
          clear hin hx
          go_wp2_with fail
          clear hq p0 p1 p2
          go_loopw [12, 16] (fun qv jv wr' => ∃ (j : Nat) (FR : List Int), j ≤ Z.length ∧ jv = .int .i64 j ∧ (∀ y ∈ (scanN E T (n : Int) (bfs E T (an : Int) k) j), givesB F (an : Int) b y = false) ∧ FindI w wr' (F.length : Int) A cap l AF AT AZ cF cT cZ lo hi F T Z gf gs FR (an : Int) (scanN E T (n : Int) (bfs E T (an : Int) k) j) (scanN E T (n : Int) (bfs E T (an : Int) k) j) qv) (fun _ jv _ => Z.length - (intOf jv).toNat)
          case atStart => exact ⟨0, FR, Nat.zero_le _, rfl, HNO.out, HIN.out⟩
          case round =>
            clear HNO HIN
            obtain ⟨j, FR, hj, rfl, hno, hin2⟩ := hrel
            have HNO := Lib.hid hno
            have HIN2 := Lib.hid hin2
            obtain ⟨A2, c2', rfl⟩ := own_shape hin2.qu
            obtain ⟨p0, p1, p2, _, _, _⟩ := hin2.g.pb.cells
            clear hno
            by_cases hlt2 : j < Z.length
            · have hji : (j : Int) < (Z.length : Int) := by omega
              have hjt : (j : Int) < (T.length : Int) := by have := HTZ.out; omega
              obtain ⟨tb, to, rfl, htc⟩ := row_at hin2.g.src.t (by omega)
              have ht := htc j (by omega)
              obtain ⟨zb, zo, rfl, hzc⟩ := row_at hin2.g.src.z (by omega)
              have hz := hzc j hlt2
              have HSN := Lib.hid (show (scanN E T (n : Int) (bfs E T (an : Int) k) (j + 1)) = scan1 E T (n : Int) (scanN E T (n : Int) (bfs E T (an : Int) k) j) j from rfl)
              have HFSj := Lib.hid (fun h1 h2 => HFS.out j h1 h2)
              obtain ⟨t, htd⟩ : ∃ t, T.getD j 0 = t := ⟨_, rfl⟩
              rw [htd] at ht
              clear hin2 hzc htc
              by_cases c5 : t = (n : Int)
              · subst c5
                have d5 : ((n : Int) != (n : Int)) = false := by simp
                obtain ⟨hz0, hz1⟩ := HZ.out j hlt2
                have hEj := HE.out j hlt2
                have hbr := HS.out.ends.bar j (by rw [HEL.out]; exact hlt2)
                have hoth := HS.out.ends.oth_in (by rw [HEL.out]; exact hlt2) htd
                obtain ⟨gs', gm⟩ := HGS.out j (by rw [HEL.out]; omega)
                have hsh := gs'.short
                have HFSj2 := Lib.hid (HFSj.out (by rw [HEL.out]; exact hlt2) htd HNO.out)
                rw [hEj] at hoth hbr
                rw [hEj] at HFSj2
                obtain ⟨m, hm⟩ : ∃ m : Nat, Z.getD j 0 = (m : Int) := ⟨(Z.getD j 0).toNat, by omega⟩
                rw [hm] at hz hz0 hz1 hbr hoth hEj HFSj2
                rw [Int.toNat_natCast] at hbr hoth hEj HFSj2
                obtain ⟨b', off, rfl, _, hbc⟩ := HIN2.out.g.bars.at (by omega)
                have hx1 := (hbc m (by omega)).1
                have hx2 := (hbc m (by omega)).2
                obtain ⟨x, hxd⟩ : ∃ x, l.getD m (0, 0) = x := ⟨_, rfl⟩
                rw [hxd] at hx1 hx2 hbr hoth hEj HFSj2
                obtain ⟨x1, x2⟩ := x
                simp only at hx1 hx2 hbr
                obtain ⟨o, ho⟩ : ∃ o : Nat, oth (x1, x2) (n : Int) = (o : Int) := ⟨(oth (x1, x2) (n : Int)).toNat, by omega⟩
                rw [ho] at hoth HFSj2
                have HO := Lib.hid ho
                have HS1 := Lib.hid (show scan1 E T (n : Int) (scanN E T (n : Int) (bfs E T (an : Int) k) j) j = if (o : Int) ∉ (scanN E T (n : Int) (bfs E T (an : Int) k) j).map Prod.fst then (scanN E T (n : Int) (bfs E T (an : Int) k) j) ++ [((o : Int), j)] else (scanN E T (n : Int) (bfs E T (an : Int) k) j) by
                  unfold scan1
                  rw [htd, hEj, ho]
                  by_cases h : (o : Int) ∈ (scanN E T (n : Int) (bfs E T (an : Int) k) j).map Prod.fst
                  · rw [if_neg (fun q => q.2 h), if_neg (fun q => q h)]
                  · rw [if_pos ⟨rfl, h⟩, if_pos h])
                have HGJ := Lib.hid gs'
                have HGJ1 := Lib.hid (HGS.out (j + 1) (by rw [HEL.out]; omega)).1
                have hoF : o < F.length := by omega
                have hoFi : (o : Int) < (F.length : Int) := hoth.2.1
                have hmi : (m : Int) < (l.length : Int) := hz1
                have hoP := Lib.hid (show 0 ≤ (o : Int) ∧ (o : Int) < (F.length : Int) from ⟨hoth.1, hoth.2.1⟩)
                obtain ⟨_, gx0, gx1⟩ := HIN2.out.g.gb
                have HKK := Lib.hid (show (fun (W' : World) => W'.cell? ⟨w.heap.size, 1, none⟩ = some (.slice (some ⟨b', off, none⟩) l.length cap) ∧ W'.cell? ⟨w.heap.size + 1, 2, none⟩ = some (.slice (some ⟨zb, zo, none⟩) Z.length cZ) ∧ W'.cell? ⟨zb, zo + j, none⟩ = some (.int .i64 (m : Int)) ∧ W'.cell? ⟨b', off + m * 2, none⟩ = some (.int .i64 x1) ∧ W'.cell? ⟨b', off + m * 2 + 1, none⟩ = some (.int .i64 x2)) _ from ⟨gx1, p2, hz, hx1, hx2⟩)
                have HID := Lib.hid (HIN2.out.below (Below.refl _ _).drew)
                have y0 := ht
                have y1 := hz
                clear hbc hxd ho hEj hm gs' gm htd hz0 hoth hx1 hx2 HFSj
                go_wp2_with fail
                clear y0 y1 gx0 gx1 p0 p1 p2
                go_region_held3 (fun (W' : World) => W'.cell? ⟨w.heap.size, 1, none⟩ = some (.slice (some ⟨b', off, none⟩) l.length cap) ∧ W'.cell? ⟨w.heap.size + 1, 2, none⟩ = some (.slice (some ⟨zb, zo, none⟩) Z.length cZ) ∧ W'.cell? ⟨zb, zo + j, none⟩ = some (.int .i64 (m : Int)) ∧ W'.cell? ⟨b', off + m * 2, none⟩ = some (.int .i64 x1) ∧ W'.cell? ⟨b', off + m * 2 + 1, none⟩ = some (.int .i64 x2))
                  (first | exact HKK.out | exact HK5.out | fail)
                  (first | (go_at_call 226; refine (other_c (x1, x2) (n : Int) _ (by omega) (by omega) (by omega)).mono ?_; rintro e w8 ⟨rfl, hb⟩; rw [HO.out]; have HI8 := Lib.hid (HID.out.below hb); have HK5 := Lib.hid (show (fun (W' : World) => W'.cell? ⟨w.heap.size, 1, none⟩ = some (.slice (some ⟨b', off, none⟩) l.length cap) ∧ W'.cell? ⟨w.heap.size + 1, 2, none⟩ = some (.slice (some ⟨zb, zo, none⟩) Z.length cZ) ∧ W'.cell? ⟨zb, zo + j, none⟩ = some (.int .i64 (m : Int)) ∧ W'.cell? ⟨b', off + m * 2, none⟩ = some (.int .i64 x1) ∧ W'.cell? ⟨b', off + m * 2 + 1, none⟩ = some (.int .i64 x2)) w8 from ⟨HI8.out.g.gb.2.2, HI8.out.g.pb.cells.2.2.1, (hb.cell (p := ⟨zb, zo + j, none⟩) (World.block_lt_of_cell? _ _ HKK.out.2.2.1)).trans HKK.out.2.2.1, (hb.cell (p := ⟨b', off + m * 2, none⟩) (World.block_lt_of_cell? _ _ HKK.out.2.2.2.1)).trans HKK.out.2.2.2.1, (hb.cell (p := ⟨b', off + m * 2 + 1, none⟩) (World.block_lt_of_cell? _ _ HKK.out.2.2.2.2)).trans HKK.out.2.2.2.2⟩); clear hb))
                have hsn := (HI8.out.sn.cellAt o (show o < F.length * 1 by omega)).trans (seenC_get F.length _ o hoF)
                by_cases c7 : (o : Int) ∈ (scanN E T (n : Int) (bfs E T (an : Int) k) j).map Prod.fst
                · have HQ := Lib.hid (show (scanN E T (n : Int) (bfs E T (an : Int) k) j) = (scanN E T (n : Int) (bfs E T (an : Int) k) (j + 1)) by rw [HSN.out, HS1.out, if_neg]; simpa using c7)
                  rw [decide_eq_true c7] at hsn
                  clear c7
                  go_wp2_with fail
                  go_roundw
                  case rel => exact ⟨j + 1, FR, by omega, by go_num, by rw [← HQ.out]; exact HNO.out, by rw [← HQ.out]; exact HI8.out⟩
                  case measure => simp [intOf]; omega
                · have HQ := Lib.hid (show (scanN E T (n : Int) (bfs E T (an : Int) k) j) ++ [((o : Int), j)] = (scanN E T (n : Int) (bfs E T (an : Int) k) (j + 1)) by rw [HSN.out, HS1.out, if_pos c7])
                  rw [decide_eq_false c7] at hsn
                  have HNEW := Lib.hid (HI8.out.see o j hoF c7 (fun x hx hxa => by obtain ⟨_, _, _, _, _, _, _, _, _, h6, _⟩ := HGJ.out.path.at (List.mem_map_of_mem hx) hxa; exact h6))
                  have hoa : (o : Int) ≠ (an : Int) := fun e => c7 (by obtain ⟨r, e1⟩ := HGJ.out.start; rw [e1, e]; simp)
                  have hfz1 := HI8.out.sn.frozenAt o
                  have hfz2 := (own_block HI8.out.fr ((within_set w8 gs o (.bool true)).block gf (HI8.out.fr.lt gf rfl).2 (by have := HI8.out.ne; omega))).frozenAt o
                  have hbs : w.heap.size + 3 ≤ ((w8.setCell ⟨gs, o, none⟩ (.bool true)).setCell ⟨gf, o, none⟩ (.int .i64 (j : Int))).heap.size := by have h1 := HNEW.out.lf; have h2 := (HNEW.out.fr.lt gf rfl).2; omega
                  have hfv := HS.out.small (v := (o : Int)) hoP.out
                  rw [Int.toNat_natCast] at hfv
                  obtain ⟨fb, fo, rfl, _, hfb, hfc⟩ := HI8.out.g.src.f.2 (by omega)
                  have hfo := hfc o hoF
                  have l1 := HI8.out.lf
                  have l2 := HI8.out.ls
                  have n1 : gs ≠ w.heap.size + 1 := by omega
                  have n2 : gf ≠ w.heap.size + 1 := by omega
                  have n3 : gs ≠ fb := by omega
                  have n4 : gf ≠ fb := by omega
                  have n7 : gs ≠ gf := fun e => HI8.out.ne e.symm
                  have hcf := (HI8.out.fr.cellAt o (show o < F.length * 1 by omega)).trans (intCells_get FR o (by rw [HI8.out.frl]; exact hoF))
                  have hff := HI8.out.fr.frozenAt o
                  have n5 : gs ≠ w.heap.size := by omega
                  have n6 : gf ≠ w.heap.size := by omega
                  obtain ⟨q0, q1, q2, _, _, _⟩ := HI8.out.g.pb.cells
                  have HC7 := Lib.hid c7
                  have hgb : givesB F (an : Int) b ((o : Int), j) = (decide ((o : Int) ≠ (an : Int)) && decide ((o : Int) ≠ b) && decide (0 < F.getD o 0)) := by
                    show (_ && _ && decide (0 < F.getD ((o : Int)).toNat 0)) = _
                    rw [Int.toNat_natCast]
                  obtain ⟨d, hd⟩ : ∃ d, F.getD o 0 = d := ⟨_, rfl⟩
                  rw [hd] at hfo hfv hgb
                  clear hd hfc c7
                  have hNX : givesB F (an : Int) b ((o : Int), j) = false → ∀ y ∈ (scanN E T (n : Int) (bfs E T (an : Int) k) (j + 1)), givesB F (an : Int) b y = false := fun hg y hy => by
                    rw [← HQ.out] at hy
                    rcases List.mem_append.1 hy with hy | hy
                    · exact HNO.out y hy
                    · obtain rfl : y = ((o : Int), j) := by simpa using hy
                      exact hg
                  have HNX := Lib.hid hNX
                  clear hNX
                  by_cases hg : givesB F (an : Int) b ((o : Int), j) = true
                  · rw [hg] at hgb
                    have hgb' := hgb.symm
                    simp only [Bool.and_eq_true, decide_eq_true_eq] at hgb'
                    obtain ⟨⟨_, g2⟩, g3⟩ := hgb'
                    have e5 : ((o : Int) != b) = true := by simpa using g2
                    have g3d : decide (0 < d) = true := by simpa using g3
                    obtain ⟨hf1, r, hf2⟩ := HFSj2.out HC7.out hg
                    have HFM := Lib.hid (show findM E (an : Int) b (F, T) = some (movF F (an : Int) (o : Int), turnQ E (an : Int) (bfsQ E T (an : Int)).reverse (o : Int) T) by
                      show Option.map _ ((bfsQ E T (an : Int)).find? (givesB F (an : Int) b)) = _
                      rw [hf1]
                      rfl)
                    have hTI : TurnI F.length E T (an : Int) ((scanN E T (n : Int) (bfs E T (an : Int) k) j) ++ [((o : Int), j)]) (turnQ E (an : Int) (bfsQ E T (an : Int)).reverse (o : Int) T) (o : Int) T := by
                      have hnd := (HG.out (max E.length 8)).path.nodup (show bfs E T (an : Int) (max E.length 8) = (scanN E T (n : Int) (bfs E T (an : Int) k) j) ++ ((o : Int), j) :: r from hf2)
                      have hp1 : PathQ F.length E T (an : Int) ((scanN E T (n : Int) (bfs E T (an : Int) k) j) ++ [((o : Int), j)]) := by rw [HQ.out]; exact HGJ1.out.path
                      have := TurnI.start (r := []) HS.out.ends hp1 (show (o : Int) ∈ _ by simp)
                      rw [List.append_nil] at this
                      rw [hf2, turn_prefix (x := ((o : Int), j)) T hnd]
                      exact this
                    have hfr := HNEW.out.fr
                    have hfl := HNEW.out.frl
                    rw [← hfl] at hfr
                    have hsh := HSH.out (o : Int) _ _ (FR.set o (j : Int)) (some ⟨gf, 0, none⟩) F.length gf ((w8.setCell ⟨gs, o, none⟩ (.bool true)).setCell ⟨gf, o, none⟩ (.int .i64 (j : Int))).heap.size ((w8.setCell ⟨gs, o, none⟩ (.bool true)).setCell ⟨gf, o, none⟩ (.int .i64 (j : Int))) HNEW.out.g.bars.at HNEW.out.g.src hTI (own_ints' hfr).reads hfl HNEW.out.fro hoP.out hoa
                    rw [hfl] at hsh
                    have HSHI := Lib.hid hsh
                    obtain ⟨_, r0, r1⟩ := HI8.out.g.gb
                    clear hsh hfr hfl hTI hf1 hf2 hgb hg g2 g3 hoa
                    go_wp2_with (go_at_call 227; refine HSHI.out.mono ?_; rintro e w9 ⟨BF, dF, BT, dT, BZ, dZ, rfl, ho9, hb9⟩; have HO9 := Lib.hid ho9; have HB9 := Lib.hid hb9; have HG9 := Lib.hid (HNEW.out.g.below hb9); obtain ⟨_, _, _, f0, f1, f2⟩ := HG9.out.rb.cells; have r3 := ret3 HG9.out.rb (.slice BF (movF F (an : Int) (o : Int)).length dF) (.slice BT (turnQ E (an : Int) (bfsQ E T (an : Int)).reverse (o : Int) T).length dT) (.slice BZ Z.length dZ); obtain ⟨s0, s1, s2, _⟩ := r3.1.cells; have HW := Lib.hid r3.2; clear ho9 hb9 r3)
                    refine bodyPost_ret (v := .tuple #[pebV BF (movF F (an : Int) (o : Int)).length dF BT (turnQ E (an : Int) (bfsQ E T (an : Int)).reverse (o : Int) T).length dT BZ Z.length dZ, .bool true]) ?_ rfl ?_
                    · simp [results, Try.results193, go_sem, s0, s1, s2]
                    · have hz9 := HB9.out.size
                      have hg9 := HG9.out.bel
                      exact ⟨within_on hg9 HW.out hg9.size (.inl (by omega)), .inr ⟨_, BF, dF, BT, dT, BZ, dZ, rfl, HFM.out, (HO9.out.within HW.out (.inr (by omega))).widen (by omega) HW.out.size (Nat.le_refl _)⟩⟩
                  · have hgf : givesB F (an : Int) b ((o : Int), j) = false := by simpa using hg
                    have HNX2 := Lib.hid (HNX.out hgf)
                    have hcase : ((o : Int) != b) = false ∨ (((o : Int) != b) = true ∧ decide (0 < d) = false) := by
                      by_cases k2 : (o : Int) = b
                      · exact .inl (by simpa using k2)
                      · rw [hgf] at hgb
                        exact .inr ⟨by simpa using k2, by simpa [hoa, k2] using hgb.symm⟩
                    clear hgb hg hgf hoa
                    rcases hcase with c2 | ⟨c2, c3⟩
                    all_goals (
                      go_wp2_with (at_builtin; refine wpList_at _ rfl _ _ 29 rfl (w.heap.size + 3) 3 (.int .i64 0) 1 8 Try.underlying29 infoInt rfl (by decide) _ _ _ rfl HNEW.out.qu #[.int .i64 (o : Int)] 1 rfl (by simp [Value.oneCell']) _ 1 (by simp only [World.size_setCell]; rfl) (by omega) (by unfold maxLen; omega) hbs ?_; intro v' w' ho hg hat _; obtain ⟨A3, c3', rfl⟩ := own_shape ho; have HN := Lib.hid (HNEW.out.push ((o : Int), j) ho hg hat); clear ho hg hat)
                      go_roundw
                      case rel => exact ⟨j + 1, FR.set o (j : Int), by omega, by go_num, HNX2.out, by rw [← HQ.out]; exact HN.out⟩
                      case measure => simp [intOf]; omega)
              · have d5 : (t != (n : Int)) = true := by simpa using c5
                have HQ := Lib.hid (show (scanN E T (n : Int) (bfs E T (an : Int) k) j) = (scanN E T (n : Int) (bfs E T (an : Int) k) (j + 1)) by rw [HSN.out]; unfold scan1; rw [htd, if_neg]; exact fun h => c5 h.1)
                clear c5 htd
                go_wp2_with fail
                go_roundw
                case rel => exact ⟨j + 1, FR, by omega, by go_num, by rw [← HQ.out]; exact HNO.out, by rw [← HQ.out]; exact HIN2.out⟩
                case measure => simp [intOf]; omega
            · obtain rfl : j = Z.length := by omega
              have hji : ¬ (Z.length : Int) < (Z.length : Int) := by omega
              clear hin2
              go_wp2_with fail
              go_roundw
              case rel => exact ⟨k + 1, FR, by rw [HSC.out]; obtain ⟨r, e⟩ := scanN_pre E T (n : Int) (bfs E T (an : Int) k) E.length; rw [e, List.length_append]; omega, by go_num, by rw [HSC.out, HEL.out]; exact HNO.out, by rw [HSC.out, HEL.out]; exact HIN2.out⟩
              case measure => simp [intOf]; omega
        · have hkl : k = (bfs E T (an : Int) k).length := by omega
          have HF := Lib.hid (find_no (E := E) (T := T) (F := F) (a := (an : Int)) (b := b) k (by omega) (by omega) HNO.out)
          have hki : ¬ (k : Int) < ((bfs E T (an : Int) k).length : Int) := by omega
          obtain ⟨p0, p1, p2, _, _, _⟩ := HIN.out.g.pb.cells
          obtain ⟨_, _, _, f0, f1, f2⟩ := HIN.out.g.rb.cells
          have r3 := ret3 HIN.out.g.rb (.slice AF F.length cF) (.slice AT T.length cT) (.slice AZ Z.length cZ)
          obtain ⟨s0, s1, s2, _⟩ := r3.1.cells
          have HW := Lib.hid r3.2
          clear hkl r3 hin
          go_wp2_with fail
          refine bodyPost_ret (v := .tuple #[pebV AF F.length cF AT T.length cT AZ Z.length cZ, .bool false]) ?_ rfl ?_
          · simp [results, Try.results193, go_sem, s0, s1, s2]
          · have hg9 := HIN.out.g.bel
            exact ⟨within_on hg9 HW.out hg9.size (.inl (by omega)), .inl ⟨rfl, by show Option.map _ ((bfsQ E T (an : Int)).find? (givesB F (an : Int) b)) = none; rw [HF.out]; rfl⟩⟩
end Go.Proofs.Ytdkpmaahinbhlaa
