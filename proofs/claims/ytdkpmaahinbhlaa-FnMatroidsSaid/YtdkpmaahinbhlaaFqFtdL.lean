/- The law FnMatroids returns true at every input: closures are closed, circuits are the least dependent sets and hold no bridge. No condition. -/
import Derived.Test.YtdkpmaahinbhlaaFqB2
import Derived.Test.YtdkpmaahinbhlaaFqCirD
import Derived.Test.YtdkpmaahinbhlaaFqB1
import Derived.Test.YtdkpmaahinbhlaaFqCloS
import Derived.Test.YtdkpmaahinbhlaaFqCloI
import Derived.Test.YtdkpmaahinbhlaaFqRkS
import Derived.Test.YtdkpmaahinbhlaaFqRkI
import Derived.Test.YtdkpmaahinbhlaaFqRankS
import Derived.Test.YtdkpmaahinbhlaaFqRankI
import Derived.Test.YtdkpmaahinbhlaaFqIndS
import Derived.Test.YtdkpmaahinbhlaaFqIndI
import Derived.Test.YtdkpmaahinbhlaaFqBriS
import Derived.Test.YtdkpmaahinbhlaaFqBriI
import Derived.Test.YtdkpmaahinbhlaaFqCiI
import Derived.Test.YtdkpmaahinbhlaaFqCirI
import Derived.Test.YtdkpmaahinbhlaaFqCirS
import Derived.Deep.RegionHeld3
namespace Go.Proofs.Ytdkpmaahinbhlaa
open Go.RowKit

theorem CodeIs.within {W W' : World} {B lo hi : Nat} {A : Option Addr} {len : Nat} {zs : Nat → Int} (h : CodeIs W B A len zs) (hw : Within lo hi W W') (hd : B ≤ lo ∨ hi ≤ 0) : CodeIs W' B A len zs :=
 ⟨h.1, fun hl => by
   obtain ⟨b, off, e, hlt, hc⟩ := h.2 hl
   have hx := hc 0 hl
   have hlt2 := World.block_lt_of_cell? W _ hx
   exact ⟨b, off, e, hlt, fun k hk => (World.cell?_of_block (a := ⟨b, off + k, none⟩) (hw.block b hlt2 (by omega))).trans (hc k hk)⟩⟩
theorem CodeIs.up {W : World} {B B' : Nat} {A : Option Addr} {len : Nat} {zs : Nat → Int} (h : CodeIs W B A len zs) (hB : B ≤ B') : CodeIs W B' A len zs :=
 ⟨h.1, fun hl => by
   obtain ⟨b, off, e, hlt, hc⟩ := h.2 hl
   exact ⟨b, off, e, by omega, hc⟩⟩
/-- Nothing that stood at w0 was written. -/
def BelF (w0 W : World) : Prop := Below w0.heap.size w0 W
theorem BelF.within {w0 W W' : World} {lo hi : Nat} (h : BelF w0 W) (hw : Within lo hi W W') (hd : w0.heap.size ≤ lo ∨ hi ≤ lo) : BelF w0 W' := within_on h hw h.size hd
/-- A cell that holds v. -/
def HdF (b i : Nat) (v : Value) (W : World) : Prop := b < W.heap.size ∧ W.cell? ⟨b, i, none⟩ = some v
theorem HdF.within {b i lo hi : Nat} {v : Value} {W W' : World} (h : HdF b i v W) (hw : Within lo hi W W') (hd : b < lo ∨ hi ≤ b) : HdF b i v W' := ⟨Nat.lt_of_lt_of_le h.1 hw.size, (World.cell?_of_block (a := ⟨b, i, none⟩) (hw.block b h.1 hd)).trans h.2⟩
theorem mem_getDI {rs : List Int} {k : Nat} (h : k < rs.length) : rs.getD k 0 ∈ rs := by
 rw [List.getD_eq_getElem?_getD, List.getElem?_eq_getElem h, Option.getD_some]; exact List.getElem_mem h
theorem own_capM {W : World} {base a c : Nat} {l : List (Int × Int)} (h : W.ownsRow base 108 2 (.slice (some ⟨a, 0, none⟩) l.length c) l.length (barCells l)) : l.length ≤ c := by
 rcases h.2 with ⟨h1, _⟩ | ⟨g, c', cur, h1, h2, _⟩
 · cases h1
 · cases h1
   omega
theorem i64_wf {x : Int} (h : InI64 x) : (Lit.int .i64 x).wf = true := by
 unfold InI64 at h
 simp [Lit.wf, IntKind.min, IntKind.max, IntKind.signed, IntKind.bits]
 omega

set_option maxHeartbeats 16000000 in
set_option maxRecDepth 100000 in
theorem lawMatroids0 (w : World) (A : Option Addr) (len cap : Nat) (zs : Nat → Int) (hc : CodeIs w w.heap.size A len zs) (hbig : (len : Int) ≤ 1048576) :
   Calls Try.prog 4 #[.slice A len cap] w fun e w' => e = .returned (.bool true) ∧ Below w.heap.size w w' := by
 have CO_0 := Lib.hid hc
 have hl48 : len ≤ 140737488351232 := by omega
 clear hc
 have W0 := Lib.hid (Below.refl w.heap.size w)
 go_enter Try.func4, Try.ntmps4
 go_wp2_with fail
 refine (big_no w A len cap hbig).mono ?_
 rintro e w' ⟨rfl, rfl⟩
 go_wp2_with fail
 refine (drawClo_c w A len cap zs CO_0.out hl48).mono ?_
 rintro e w1 ⟨p, a, c, l, x, y, AZ, cz, v, lo, hi, hP, hxy, hv, rfl, ho, hi5, hlo, hb⟩
 have Z1 := Lib.hid (within_of hb).size
 have W1 := Lib.hid (within_on W0.out (within_of hb) W0.out.size (.inr (Nat.le_refl _)))
 have CO_1 := Lib.hid (CO_0.out.within (within_of hb) (by omega))
 have GM_1 := Lib.hid ((own_in ho).bars)
 have ZR_1 := Lib.hid (hi5.reads)
 have HOC := Lib.hid (own_capM ho)
 have HP := Lib.hid hP
 have hn : l.length ≤ 1048576 := by have := HP.out.1; omega
 have hvn : v.length ≤ 1048576 := by omega
 clear ho hi5 hlo hb hP hxy
 go_wp2_with fail
 have hal := new_below w1 (.cells #[.int .i64 p, .slice (some ⟨a, 0, none⟩) l.length c] 26)
 have Z2 := Lib.hid (within_of hal).size
 have W2 := Lib.hid (within_on W1.out (within_of hal) W1.out.size (.inr (Nat.le_refl _)))
 have CO_2 := Lib.hid (CO_1.out.within (within_of hal) (by omega))
 have GM_2 := Lib.hid (GM_1.out.within (within_of hal) (by omega))
 have ZR_2 := Lib.hid (ZR_1.out.within (within_of hal) (by omega))
 clear hal
 have hsz : (w1.alloc (.cells #[.int .i64 p, .slice (some ⟨a, 0, none⟩) l.length c] 26)).heap.size = w1.heap.size + 1 := by simp
 have Y2 := Lib.hid hsz
 clear hsz
 have BX_2 := Lib.hid (box_new w1 p (.slice (some ⟨a, 0, none⟩) l.length c) 26)
 generalize (w1.alloc (.cells #[.int .i64 p, .slice (some ⟨a, 0, none⟩) l.length c] 26)) = w2 at *
 refine (implClo p x y l v (some ⟨a, 0, none⟩) AZ c cz _ _ _ GM_2.out.at ZR_2.out hn hvn).mono ?_
 rintro e w3 ⟨AC, cc, rfl, ho, hb⟩
 have Z3 := Lib.hid (within_of hb).size
 have W3 := Lib.hid (within_on W2.out (within_of hb) W2.out.size (.inr (Nat.le_refl _)))
 have CO_3 := Lib.hid (CO_2.out.within (within_of hb) (by omega))
 have GM_3 := Lib.hid (GM_2.out.within (within_of hb) (by omega))
 have ZR_3 := Lib.hid (ZR_2.out.within (within_of hb) (by omega))
 have BX_3 := Lib.hid (BX_2.out.within (within_of hb) (by omega))
 have CR_3 := Lib.hid (ho.reads)
 clear ho hb
 have hcn : (cloV p x y l v).length ≤ 1048576 := Nat.le_trans (cloV_len p x y l v) hn
 obtain ⟨g01, g02, g03⟩ := BX_3.out
 go_wp2_with fail
 clear g01 g02 g03
 refine (implRankSet p x y l v (some ⟨a, 0, none⟩) AZ c cz _ _ _ GM_3.out.at ZR_3.out hn hvn).mono ?_
 rintro e w4 ⟨rfl, hb⟩
 have Z4 := Lib.hid (within_of hb).size
 have W4 := Lib.hid (within_on W3.out (within_of hb) W3.out.size (.inr (Nat.le_refl _)))
 have CO_4 := Lib.hid (CO_3.out.within (within_of hb) (by omega))
 have GM_4 := Lib.hid (GM_3.out.within (within_of hb) (by omega))
 have ZR_4 := Lib.hid (ZR_3.out.within (within_of hb) (by omega))
 have BX_4 := Lib.hid (BX_3.out.within (within_of hb) (by omega))
 have CR_4 := Lib.hid (CR_3.out.within (within_of hb) (by omega))
 clear hb
 have hne1 : (rankSV p x y l v != rankSV p x y l v) = false := by simp
 have hne2 : (rankV p x y l != rankV p x y l) = false := by simp
 have hne3 : (indB p x y l v != indB p x y l v) = false := by simp
 have hdr : Below w4.heap.size w4 w4.drew := (Below.refl _ _).drew
 have Z5 := Lib.hid (within_of hdr).size
 have W5 := Lib.hid (within_on W4.out (within_of hdr) W4.out.size (.inr (Nat.le_refl _)))
 have CO_5 := Lib.hid (CO_4.out.within (within_of hdr) (by omega))
 have GM_5 := Lib.hid (GM_4.out.within (within_of hdr) (by omega))
 have ZR_5 := Lib.hid (ZR_4.out.within (within_of hdr) (by omega))
 have BX_5 := Lib.hid (BX_4.out.within (within_of hdr) (by omega))
 have CR_5 := Lib.hid (CR_4.out.within (within_of hdr) (by omega))
 clear hdr
 obtain ⟨g01, g02, g03⟩ := BX_5.out
 go_wp2_with fail
 clear g01 g02 g03
 refine wp_region_held_drew (S := (fun W' : World => W'.cell? ⟨w1.heap.size, 0, none⟩ = some (.int .i64 p) ∧ W'.cell? ⟨w1.heap.size, 1, none⟩ = some (.slice (some ⟨a, 0, none⟩) l.length c))) (by kernel_rfl) ?_ (fun hHeld => ?_)
 · exact BX_5.out.2
 refine wpAnyH_take (i := 0) (v := .slice AC (cloV p x y l v).length cc) rfl (by kernel_rfl) (by kernel_rfl) (by kernel_rfl) (fun _ _ _ h => h) (Or.inl ⟨by kernel_rfl, fun w hSw => by (try dsimp only at hSw); go_simp; all_goals first | omega | exact IntWalk.i64_in _ (by omega)⟩) (by assumption) ?_
 try simp only [Act.put, List.setIfInBounds_toArray]
 refine wpAnyH_take (i := 1) (v := .agg #[.int .i64 p, .slice (some ⟨a, 0, none⟩) l.length c]) rfl (by kernel_rfl) (by kernel_rfl) (by kernel_rfl) (fun _ _ _ h => h) (Or.inl ⟨by kernel_rfl, fun w hSw => by (try dsimp only at hSw); go_simp; all_goals first | omega | exact IntWalk.i64_in _ (by omega)⟩) (by assumption) ?_
 try simp only [Act.put]
 refine wpAnyH_take (i := 2) (v := .int .i64 x) rfl (by kernel_rfl) (by kernel_rfl) (by kernel_rfl) (fun _ _ _ h => h) (Or.inl ⟨by kernel_rfl, fun w hSw => by (try dsimp only at hSw); go_simp; all_goals first | omega | exact IntWalk.i64_in _ (by omega)⟩) (by assumption) ?_
 try simp only [Act.put]
 refine wpAnyH_take (i := 3) (v := .int .i64 y) rfl (by kernel_rfl) (by kernel_rfl) (by kernel_rfl) (fun _ _ _ h => h) (Or.inl ⟨by kernel_rfl, fun w hSw => by (try dsimp only at hSw); go_simp; all_goals first | omega | exact IntWalk.i64_in _ (by omega)⟩) (by assumption) ?_
 try simp only [Act.put]
 refine wpAnyH_take (i := 4) (v := .slice AZ v.length cz) rfl (by kernel_rfl) (by kernel_rfl) (by kernel_rfl) (fun _ _ _ h => h) (Or.inl ⟨by kernel_rfl, fun w hSw => by (try dsimp only at hSw); go_simp; all_goals first | omega | exact IntWalk.i64_in _ (by omega)⟩) (by assumption) ?_
 try simp only [Act.put]
 refine wpAnyH_ready (rs := [5]) (by kernel_rfl) (by simp) (AllReadyH.cons rfl (fun K hK => ?_) AllReadyH.nil)
 go_simp
 go_at_call 43
 refine (specClo p x y l v (some ⟨a, 0, none⟩) AZ c cz _ _ _ GM_5.out.at ZR_5.out hn hvn).mono ?_
 rintro e w6 ⟨AD, cd, rfl, hs, hb⟩
 have Z6 := Lib.hid (within_of hb).size
 have W6 := Lib.hid (within_on W5.out (within_of hb) W5.out.size (.inr (Nat.le_refl _)))
 have CO_6 := Lib.hid (CO_5.out.within (within_of hb) (by omega))
 have GM_6 := Lib.hid (GM_5.out.within (within_of hb) (by omega))
 have ZR_6 := Lib.hid (ZR_5.out.within (within_of hb) (by omega))
 have BX_6 := Lib.hid (BX_5.out.within (within_of hb) (by omega))
 have CR_6 := Lib.hid (CR_5.out.within (within_of hb) (by omega))
 have DR_6 := Lib.hid (hs.reads)
 clear hs
 clear hb
 refine hK.out _ _ BX_6.out.2 (fun hHeld => ?_)
 clear hK K
 try simp only [Act.put, List.setIfInBounds_toArray, List.set_cons_zero, List.set_cons_succ]
 refine wpAnyH_ready (rs := [6]) (by kernel_rfl) (by simp) (AllReadyH.cons rfl (fun K hK => ?_) AllReadyH.nil)
 go_simp
 go_at_call 21
 refine (sameInts_c (cloV p x y l v) AC AD cc cd _ _ _ _ _ CR_6.out DR_6.out hcn).mono ?_
 rintro e w7 ⟨rfl, hb⟩
 have Z7 := Lib.hid (within_of hb).size
 have W7 := Lib.hid (within_on W6.out (within_of hb) W6.out.size (.inr (Nat.le_refl _)))
 have CO_7 := Lib.hid (CO_6.out.within (within_of hb) (by omega))
 have GM_7 := Lib.hid (GM_6.out.within (within_of hb) (by omega))
 have ZR_7 := Lib.hid (ZR_6.out.within (within_of hb) (by omega))
 have BX_7 := Lib.hid (BX_6.out.within (within_of hb) (by omega))
 have CR_7 := Lib.hid (CR_6.out.within (within_of hb) (by omega))
 have DR_7 := Lib.hid (DR_6.out.within (within_of hb) (by omega))
 clear hb
 refine hK.out _ _ BX_7.out.2 (fun hHeld => ?_)
 clear hK K
 try simp only [Act.put, List.setIfInBounds_toArray, List.set_cons_zero, List.set_cons_succ]
 refine wpAnyH_take (i := 7) (v := .bool false) rfl (by kernel_rfl) (by kernel_rfl) (by kernel_rfl) (fun _ _ _ h => h) (Or.inl ⟨by kernel_rfl, fun w hSw => by (try dsimp only at hSw); go_simp; all_goals first | omega | exact IntWalk.i64_in _ (by omega)⟩) (by assumption) ?_
 try simp only [Act.put, List.setIfInBounds_toArray]
 refine wpAnyH_take (i := 8) (v := .bool false) rfl (by kernel_rfl) (by kernel_rfl) (by kernel_rfl) (fun _ _ _ h => h) (Or.inl ⟨by kernel_rfl, fun w hSw => by (try dsimp only at hSw); go_simp; all_goals first | omega | exact IntWalk.i64_in _ (by omega)⟩) (by assumption) ?_
 try simp only [Act.put]
 refine wpAnyH_take (i := 9) (v := .int .i64 (rankSV p x y l v)) rfl (by kernel_rfl) (by kernel_rfl) (by kernel_rfl) (fun _ _ _ h => h) (Or.inl ⟨by kernel_rfl, fun w hSw => by (try dsimp only at hSw); go_simp; all_goals first | omega | exact IntWalk.i64_in _ (by omega)⟩) (by assumption) ?_
 try simp only [Act.put]
 refine wpAnyH_take (i := 10) (v := .agg #[.int .i64 p, .slice (some ⟨a, 0, none⟩) l.length c]) rfl (by kernel_rfl) (by kernel_rfl) (by kernel_rfl) (fun _ _ _ h => h) (Or.inl ⟨by kernel_rfl, fun w hSw => by (try dsimp only at hSw); go_simp; all_goals first | omega | exact IntWalk.i64_in _ (by omega)⟩) (by assumption) ?_
 try simp only [Act.put]
 refine wpAnyH_take (i := 11) (v := .int .i64 x) rfl (by kernel_rfl) (by kernel_rfl) (by kernel_rfl) (fun _ _ _ h => h) (Or.inl ⟨by kernel_rfl, fun w hSw => by (try dsimp only at hSw); go_simp; all_goals first | omega | exact IntWalk.i64_in _ (by omega)⟩) (by assumption) ?_
 try simp only [Act.put]
 refine wpAnyH_take (i := 12) (v := .int .i64 y) rfl (by kernel_rfl) (by kernel_rfl) (by kernel_rfl) (fun _ _ _ h => h) (Or.inl ⟨by kernel_rfl, fun w hSw => by (try dsimp only at hSw); go_simp; all_goals first | omega | exact IntWalk.i64_in _ (by omega)⟩) (by assumption) ?_
 try simp only [Act.put]
 refine wpAnyH_take (i := 13) (v := .slice AZ v.length cz) rfl (by kernel_rfl) (by kernel_rfl) (by kernel_rfl) (fun _ _ _ h => h) (Or.inl ⟨by kernel_rfl, fun w hSw => by (try dsimp only at hSw); go_simp; all_goals first | omega | exact IntWalk.i64_in _ (by omega)⟩) (by assumption) ?_
 try simp only [Act.put]
 refine wpAnyH_ready (rs := [14]) (by kernel_rfl) (by simp) (AllReadyH.cons rfl (fun K hK => ?_) AllReadyH.nil)
 go_simp
 go_at_call 44
 refine (specRankSet p x y l v (some ⟨a, 0, none⟩) AZ c cz _ _ _ GM_7.out.at ZR_7.out hn hvn).mono ?_
 rintro e w8 ⟨rfl, hb⟩
 have Z8 := Lib.hid (within_of hb).size
 have W8 := Lib.hid (within_on W7.out (within_of hb) W7.out.size (.inr (Nat.le_refl _)))
 have CO_8 := Lib.hid (CO_7.out.within (within_of hb) (by omega))
 have GM_8 := Lib.hid (GM_7.out.within (within_of hb) (by omega))
 have ZR_8 := Lib.hid (ZR_7.out.within (within_of hb) (by omega))
 have BX_8 := Lib.hid (BX_7.out.within (within_of hb) (by omega))
 have CR_8 := Lib.hid (CR_7.out.within (within_of hb) (by omega))
 have DR_8 := Lib.hid (DR_7.out.within (within_of hb) (by omega))
 clear hb
 refine hK.out _ _ BX_8.out.2 (fun hHeld => ?_)
 clear hK K
 try simp only [Act.put, List.setIfInBounds_toArray, List.set_cons_zero, List.set_cons_succ]
 refine wpAnyH_take (i := 15) (v := .bool false) rfl (by kernel_rfl) (by kernel_rfl) (by kernel_rfl) (fun _ _ _ h => h) (Or.inl ⟨by kernel_rfl, fun w hSw => by (try dsimp only at hSw); go_simp; all_goals first | omega | exact IntWalk.i64_in _ (by omega)⟩) (by assumption) ?_
 try simp only [Act.put, List.setIfInBounds_toArray]
 refine wpAnyH_take (i := 16) (v := .bool false) rfl (by kernel_rfl) (by kernel_rfl) (by kernel_rfl) (fun _ _ _ h => h) (Or.inl ⟨by kernel_rfl, fun w hSw => by (try dsimp only at hSw); go_simp; all_goals first | omega | exact IntWalk.i64_in _ (by omega)⟩) (by assumption) ?_
 try simp only [Act.put]
 refine wpAnyH_take (i := 17) (v := .bool false) rfl (by kernel_rfl) (by kernel_rfl) (by kernel_rfl) (fun _ _ _ h => h) (Or.inl ⟨by kernel_rfl, fun w hSw => by (try dsimp only at hSw); go_simp; all_goals first | omega | exact IntWalk.i64_in _ (by omega)⟩) (by assumption) ?_
 try simp only [Act.put]
 refine wpAnyH_take (i := 18) (v := .agg #[.int .i64 p, .slice (some ⟨a, 0, none⟩) l.length c]) rfl (by kernel_rfl) (by kernel_rfl) (by kernel_rfl) (fun _ _ _ h => h) (Or.inl ⟨by kernel_rfl, fun w hSw => by (try dsimp only at hSw); go_simp; all_goals first | omega | exact IntWalk.i64_in _ (by omega)⟩) (by assumption) ?_
 try simp only [Act.put]
 refine wpAnyH_take (i := 19) (v := .int .i64 x) rfl (by kernel_rfl) (by kernel_rfl) (by kernel_rfl) (fun _ _ _ h => h) (Or.inl ⟨by kernel_rfl, fun w hSw => by (try dsimp only at hSw); go_simp; all_goals first | omega | exact IntWalk.i64_in _ (by omega)⟩) (by assumption) ?_
 try simp only [Act.put]
 refine wpAnyH_take (i := 20) (v := .int .i64 y) rfl (by kernel_rfl) (by kernel_rfl) (by kernel_rfl) (fun _ _ _ h => h) (Or.inl ⟨by kernel_rfl, fun w hSw => by (try dsimp only at hSw); go_simp; all_goals first | omega | exact IntWalk.i64_in _ (by omega)⟩) (by assumption) ?_
 try simp only [Act.put]
 refine wpAnyH_take (i := 22) (v := .agg #[.int .i64 p, .slice (some ⟨a, 0, none⟩) l.length c]) rfl (by kernel_rfl) (by kernel_rfl) (by kernel_rfl) (fun _ _ _ h => h) (Or.inl ⟨by kernel_rfl, fun w hSw => by (try dsimp only at hSw); go_simp; all_goals first | omega | exact IntWalk.i64_in _ (by omega)⟩) (by assumption) ?_
 try simp only [Act.put]
 refine wpAnyH_take (i := 23) (v := .int .i64 x) rfl (by kernel_rfl) (by kernel_rfl) (by kernel_rfl) (fun _ _ _ h => h) (Or.inl ⟨by kernel_rfl, fun w hSw => by (try dsimp only at hSw); go_simp; all_goals first | omega | exact IntWalk.i64_in _ (by omega)⟩) (by assumption) ?_
 try simp only [Act.put]
 refine wpAnyH_take (i := 24) (v := .int .i64 y) rfl (by kernel_rfl) (by kernel_rfl) (by kernel_rfl) (fun _ _ _ h => h) (Or.inl ⟨by kernel_rfl, fun w hSw => by (try dsimp only at hSw); go_simp; all_goals first | omega | exact IntWalk.i64_in _ (by omega)⟩) (by assumption) ?_
 try simp only [Act.put]
 refine wpAnyH_ready (rs := [21]) (by kernel_rfl) (by simp) (AllReadyH.cons rfl (fun K hK => ?_) AllReadyH.nil)
 go_simp
 go_at_call 45
 refine (implRank p x y l (some ⟨a, 0, none⟩) c _ GM_8.out.at hn).mono ?_
 rintro e w9 ⟨rfl, hb⟩
 have Z9 := Lib.hid (within_of hb).size
 have W9 := Lib.hid (within_on W8.out (within_of hb) W8.out.size (.inr (Nat.le_refl _)))
 have CO_9 := Lib.hid (CO_8.out.within (within_of hb) (by omega))
 have GM_9 := Lib.hid (GM_8.out.within (within_of hb) (by omega))
 have ZR_9 := Lib.hid (ZR_8.out.within (within_of hb) (by omega))
 have BX_9 := Lib.hid (BX_8.out.within (within_of hb) (by omega))
 have CR_9 := Lib.hid (CR_8.out.within (within_of hb) (by omega))
 have DR_9 := Lib.hid (DR_8.out.within (within_of hb) (by omega))
 clear hb
 refine hK.out _ _ BX_9.out.2 (fun hHeld => ?_)
 clear hK K
 try simp only [Act.put, List.setIfInBounds_toArray, List.set_cons_zero, List.set_cons_succ]
 refine wpAnyH_ready (rs := [25]) (by kernel_rfl) (by simp) (AllReadyH.cons rfl (fun K hK => ?_) AllReadyH.nil)
 go_simp
 go_at_call 46
 refine (specRank p x y l (some ⟨a, 0, none⟩) c _ GM_9.out.at hn).mono ?_
 rintro e w10 ⟨rfl, hb⟩
 have Z10 := Lib.hid (within_of hb).size
 have W10 := Lib.hid (within_on W9.out (within_of hb) W9.out.size (.inr (Nat.le_refl _)))
 have CO_10 := Lib.hid (CO_9.out.within (within_of hb) (by omega))
 have GM_10 := Lib.hid (GM_9.out.within (within_of hb) (by omega))
 have ZR_10 := Lib.hid (ZR_9.out.within (within_of hb) (by omega))
 have BX_10 := Lib.hid (BX_9.out.within (within_of hb) (by omega))
 have CR_10 := Lib.hid (CR_9.out.within (within_of hb) (by omega))
 have DR_10 := Lib.hid (DR_9.out.within (within_of hb) (by omega))
 clear hb
 refine hK.out _ _ BX_10.out.2 (fun hHeld => ?_)
 clear hK K
 try simp only [Act.put, List.setIfInBounds_toArray, List.set_cons_zero, List.set_cons_succ]
 refine wpAnyH_take (i := 26) (v := .bool false) rfl (by kernel_rfl) (by kernel_rfl) (by kernel_rfl) (fun _ _ _ h => h) (Or.inl ⟨by kernel_rfl, fun w hSw => by (try dsimp only at hSw); go_simp; all_goals first | omega | exact IntWalk.i64_in _ (by omega)⟩) (by assumption) ?_
 try simp only [Act.put, List.setIfInBounds_toArray]
 refine wpAnyH_take (i := 27) (v := .bool false) rfl (by kernel_rfl) (by kernel_rfl) (by kernel_rfl) (fun _ _ _ h => h) (Or.inl ⟨by kernel_rfl, fun w hSw => by (try dsimp only at hSw); go_simp; all_goals first | omega | exact IntWalk.i64_in _ (by omega)⟩) (by assumption) ?_
 try simp only [Act.put]
 refine wpAnyH_take (i := 28) (v := .bool false) rfl (by kernel_rfl) (by kernel_rfl) (by kernel_rfl) (fun _ _ _ h => h) (Or.inl ⟨by kernel_rfl, fun w hSw => by (try dsimp only at hSw); go_simp; all_goals first | omega | exact IntWalk.i64_in _ (by omega)⟩) (by assumption) ?_
 try simp only [Act.put]
 refine wpAnyH_take (i := 29) (v := .agg #[.int .i64 p, .slice (some ⟨a, 0, none⟩) l.length c]) rfl (by kernel_rfl) (by kernel_rfl) (by kernel_rfl) (fun _ _ _ h => h) (Or.inl ⟨by kernel_rfl, fun w hSw => by (try dsimp only at hSw); go_simp; all_goals first | omega | exact IntWalk.i64_in _ (by omega)⟩) (by assumption) ?_
 try simp only [Act.put]
 refine wpAnyH_take (i := 30) (v := .int .i64 x) rfl (by kernel_rfl) (by kernel_rfl) (by kernel_rfl) (fun _ _ _ h => h) (Or.inl ⟨by kernel_rfl, fun w hSw => by (try dsimp only at hSw); go_simp; all_goals first | omega | exact IntWalk.i64_in _ (by omega)⟩) (by assumption) ?_
 try simp only [Act.put]
 refine wpAnyH_take (i := 31) (v := .int .i64 y) rfl (by kernel_rfl) (by kernel_rfl) (by kernel_rfl) (fun _ _ _ h => h) (Or.inl ⟨by kernel_rfl, fun w hSw => by (try dsimp only at hSw); go_simp; all_goals first | omega | exact IntWalk.i64_in _ (by omega)⟩) (by assumption) ?_
 try simp only [Act.put]
 refine wpAnyH_take (i := 32) (v := .slice AZ v.length cz) rfl (by kernel_rfl) (by kernel_rfl) (by kernel_rfl) (fun _ _ _ h => h) (Or.inl ⟨by kernel_rfl, fun w hSw => by (try dsimp only at hSw); go_simp; all_goals first | omega | exact IntWalk.i64_in _ (by omega)⟩) (by assumption) ?_
 try simp only [Act.put]
 refine wpAnyH_take (i := 34) (v := .agg #[.int .i64 p, .slice (some ⟨a, 0, none⟩) l.length c]) rfl (by kernel_rfl) (by kernel_rfl) (by kernel_rfl) (fun _ _ _ h => h) (Or.inl ⟨by kernel_rfl, fun w hSw => by (try dsimp only at hSw); go_simp; all_goals first | omega | exact IntWalk.i64_in _ (by omega)⟩) (by assumption) ?_
 try simp only [Act.put]
 refine wpAnyH_take (i := 35) (v := .int .i64 x) rfl (by kernel_rfl) (by kernel_rfl) (by kernel_rfl) (fun _ _ _ h => h) (Or.inl ⟨by kernel_rfl, fun w hSw => by (try dsimp only at hSw); go_simp; all_goals first | omega | exact IntWalk.i64_in _ (by omega)⟩) (by assumption) ?_
 try simp only [Act.put]
 refine wpAnyH_take (i := 36) (v := .int .i64 y) rfl (by kernel_rfl) (by kernel_rfl) (by kernel_rfl) (fun _ _ _ h => h) (Or.inl ⟨by kernel_rfl, fun w hSw => by (try dsimp only at hSw); go_simp; all_goals first | omega | exact IntWalk.i64_in _ (by omega)⟩) (by assumption) ?_
 try simp only [Act.put]
 refine wpAnyH_take (i := 37) (v := .slice AZ v.length cz) rfl (by kernel_rfl) (by kernel_rfl) (by kernel_rfl) (fun _ _ _ h => h) (Or.inl ⟨by kernel_rfl, fun w hSw => by (try dsimp only at hSw); go_simp; all_goals first | omega | exact IntWalk.i64_in _ (by omega)⟩) (by assumption) ?_
 try simp only [Act.put]
 refine wpAnyH_ready (rs := [33]) (by kernel_rfl) (by simp) (AllReadyH.cons rfl (fun K hK => ?_) AllReadyH.nil)
 go_simp
 go_at_call 47
 refine (implInd p x y l v (some ⟨a, 0, none⟩) AZ c cz _ _ _ GM_10.out.at ZR_10.out hn hvn).mono ?_
 rintro e w11 ⟨rfl, hb⟩
 have Z11 := Lib.hid (within_of hb).size
 have W11 := Lib.hid (within_on W10.out (within_of hb) W10.out.size (.inr (Nat.le_refl _)))
 have CO_11 := Lib.hid (CO_10.out.within (within_of hb) (by omega))
 have GM_11 := Lib.hid (GM_10.out.within (within_of hb) (by omega))
 have ZR_11 := Lib.hid (ZR_10.out.within (within_of hb) (by omega))
 have BX_11 := Lib.hid (BX_10.out.within (within_of hb) (by omega))
 have CR_11 := Lib.hid (CR_10.out.within (within_of hb) (by omega))
 have DR_11 := Lib.hid (DR_10.out.within (within_of hb) (by omega))
 clear hb
 refine hK.out _ _ BX_11.out.2 (fun hHeld => ?_)
 clear hK K
 try simp only [Act.put, List.setIfInBounds_toArray, List.set_cons_zero, List.set_cons_succ]
 refine wpAnyH_ready (rs := [38]) (by kernel_rfl) (by simp) (AllReadyH.cons rfl (fun K hK => ?_) AllReadyH.nil)
 go_simp
 go_at_call 48
 refine (specInd p x y l v (some ⟨a, 0, none⟩) AZ c cz _ _ _ GM_11.out.at ZR_11.out hn hvn).mono ?_
 rintro e w12 ⟨rfl, hb⟩
 have Z12 := Lib.hid (within_of hb).size
 have W12 := Lib.hid (within_on W11.out (within_of hb) W11.out.size (.inr (Nat.le_refl _)))
 have CO_12 := Lib.hid (CO_11.out.within (within_of hb) (by omega))
 have GM_12 := Lib.hid (GM_11.out.within (within_of hb) (by omega))
 have ZR_12 := Lib.hid (ZR_11.out.within (within_of hb) (by omega))
 have BX_12 := Lib.hid (BX_11.out.within (within_of hb) (by omega))
 have CR_12 := Lib.hid (CR_11.out.within (within_of hb) (by omega))
 have DR_12 := Lib.hid (DR_11.out.within (within_of hb) (by omega))
 clear hb
 refine hK.out _ _ BX_12.out.2 (fun hHeld => ?_)
 clear hK K
 try simp only [Act.put, List.setIfInBounds_toArray, List.set_cons_zero, List.set_cons_succ]
 refine wpAnyH_take (i := 39) (v := .bool false) rfl (by kernel_rfl) (by kernel_rfl) (by kernel_rfl) (fun _ _ _ h => h) (Or.inl ⟨by kernel_rfl, fun w hSw => by (try dsimp only at hSw); go_simp; all_goals first | omega | exact IntWalk.i64_in _ (by omega)⟩) (by assumption) ?_
 try simp only [Act.put, List.setIfInBounds_toArray]
 refine wpAnyH_take (i := 40) (v := .bool false) rfl (by kernel_rfl) (by kernel_rfl) (by kernel_rfl) (fun _ _ _ h => h) (Or.inl ⟨by kernel_rfl, fun w hSw => by (try dsimp only at hSw); go_simp; all_goals first | omega | exact IntWalk.i64_in _ (by omega)⟩) (by assumption) ?_
 try simp only [Act.put]
 refine wpAnyH_done (by kernel_rfl) ?_ _
 clear hne1 hne2 hne3
 by_cases hC0 : 0 < (cloV p x y l v).length
 · have hC0i : (0 : Int) < ((cloV p x y l v).length : Int) := by omega
   obtain ⟨_, _, _, hcc, hrc⟩ := clo_law hC0
   have HQ := Lib.hid (fun (W : World) (lo hi : Nat) (h : BarsAt W W.heap.size (some ⟨a, 0, none⟩) l) (h2 : IntsIn W lo hi AC (cloV p x y l v)) => implClo p x y l (cloV p x y l v) (some ⟨a, 0, none⟩) AC c cc lo hi W h h2 hn hcn)
   rw [hcc] at HQ
   have HRQ := Lib.hid (fun (W : World) (lo hi : Nat) (h : BarsAt W W.heap.size (some ⟨a, 0, none⟩) l) (h2 : IntsIn W lo hi AC (cloV p x y l v)) => implRankSet p x y l (cloV p x y l v) (some ⟨a, 0, none⟩) AC c cc lo hi W h h2 hn hcn)
   rw [hrc] at HRQ
   clear hcc hrc
   have hne1 : (rankSV p x y l v != rankSV p x y l v) = false := by simp
   obtain ⟨g01, g02, g03⟩ := BX_12.out
   go_wp2_with fail
   clear g01 g02 g03
   refine (HQ.out _ _ _ GM_12.out.at CR_12.out).mono ?_
   rintro e w13 ⟨AF, cf, rfl, ho, hb⟩
   have Z13 := Lib.hid (within_of hb).size
   have W13 := Lib.hid (within_on W12.out (within_of hb) W12.out.size (.inr (Nat.le_refl _)))
   have CO_13 := Lib.hid (CO_12.out.within (within_of hb) (by omega))
   have GM_13 := Lib.hid (GM_12.out.within (within_of hb) (by omega))
   have ZR_13 := Lib.hid (ZR_12.out.within (within_of hb) (by omega))
   have BX_13 := Lib.hid (BX_12.out.within (within_of hb) (by omega))
   have CR_13 := Lib.hid (CR_12.out.within (within_of hb) (by omega))
   have DR_13 := Lib.hid (DR_12.out.within (within_of hb) (by omega))
   have ER_13 := Lib.hid (ho.reads)
   clear ho hb
   go_wp2_with fail
   refine (sameInts_c (cloV p x y l v) AF AC cf cc _ _ _ _ _ ER_13.out CR_13.out hcn).mono ?_
   rintro e w14 ⟨rfl, hb⟩
   have Z14 := Lib.hid (within_of hb).size
   have W14 := Lib.hid (within_on W13.out (within_of hb) W13.out.size (.inr (Nat.le_refl _)))
   have CO_14 := Lib.hid (CO_13.out.within (within_of hb) (by omega))
   have GM_14 := Lib.hid (GM_13.out.within (within_of hb) (by omega))
   have ZR_14 := Lib.hid (ZR_13.out.within (within_of hb) (by omega))
   have BX_14 := Lib.hid (BX_13.out.within (within_of hb) (by omega))
   have CR_14 := Lib.hid (CR_13.out.within (within_of hb) (by omega))
   have DR_14 := Lib.hid (DR_13.out.within (within_of hb) (by omega))
   have ER_14 := Lib.hid (ER_13.out.within (within_of hb) (by omega))
   clear hb
   obtain ⟨g01, g02, g03⟩ := BX_14.out
   go_wp2_with fail
   clear g01 g02 g03
   refine (HRQ.out _ _ _ GM_14.out.at CR_14.out).mono ?_
   rintro e w15 ⟨rfl, hb⟩
   have Z15 := Lib.hid (within_of hb).size
   have W15 := Lib.hid (within_on W14.out (within_of hb) W14.out.size (.inr (Nat.le_refl _)))
   have CO_15 := Lib.hid (CO_14.out.within (within_of hb) (by omega))
   have GM_15 := Lib.hid (GM_14.out.within (within_of hb) (by omega))
   have ZR_15 := Lib.hid (ZR_14.out.within (within_of hb) (by omega))
   have BX_15 := Lib.hid (BX_14.out.within (within_of hb) (by omega))
   have CR_15 := Lib.hid (CR_14.out.within (within_of hb) (by omega))
   have DR_15 := Lib.hid (DR_14.out.within (within_of hb) (by omega))
   have ER_15 := Lib.hid (ER_14.out.within (within_of hb) (by omega))
   clear hb
   clear HQ HRQ
   obtain ⟨g01, g02, g03⟩ := BX_15.out
   go_wp2_with fail
   clear g01 g02 g03
   clear hne1
   refine (implBri p x y l (some ⟨a, 0, none⟩) c _ GM_15.out.at hn).mono ?_
   rintro e w16 ⟨AB, cb, rfl, ho, hb⟩
   have Z16 := Lib.hid (within_of hb).size
   have W16 := Lib.hid (within_on W15.out (within_of hb) W15.out.size (.inr (Nat.le_refl _)))
   have CO_16 := Lib.hid (CO_15.out.within (within_of hb) (by omega))
   have GM_16 := Lib.hid (GM_15.out.within (within_of hb) (by omega))
   have ZR_16 := Lib.hid (ZR_15.out.within (within_of hb) (by omega))
   have BX_16 := Lib.hid (BX_15.out.within (within_of hb) (by omega))
   have CR_16 := Lib.hid (CR_15.out.within (within_of hb) (by omega))
   have DR_16 := Lib.hid (DR_15.out.within (within_of hb) (by omega))
   have ER_16 := Lib.hid (ER_15.out.within (within_of hb) (by omega))
   have IB_16 := Lib.hid (ho.reads)
   clear ho hb
   obtain ⟨g01, g02, g03⟩ := BX_16.out
   go_wp2_with fail
   clear g01 g02 g03
   refine (specBri p x y l (some ⟨a, 0, none⟩) c _ GM_16.out.at hn ⟨_, rfl⟩ HOC.out).mono ?_
   rintro e w17 ⟨AE, ce, rfl, ho, hb⟩
   have Z17 := Lib.hid (within_of hb).size
   have W17 := Lib.hid (within_on W16.out (within_of hb) W16.out.size (.inr (Nat.le_refl _)))
   have CO_17 := Lib.hid (CO_16.out.within (within_of hb) (by omega))
   have GM_17 := Lib.hid (GM_16.out.within (within_of hb) (by omega))
   have ZR_17 := Lib.hid (ZR_16.out.within (within_of hb) (by omega))
   have BX_17 := Lib.hid (BX_16.out.within (within_of hb) (by omega))
   have CR_17 := Lib.hid (CR_16.out.within (within_of hb) (by omega))
   have DR_17 := Lib.hid (DR_16.out.within (within_of hb) (by omega))
   have ER_17 := Lib.hid (ER_16.out.within (within_of hb) (by omega))
   have IB_17 := Lib.hid (IB_16.out.within (within_of hb) (by omega))
   have SB_17 := Lib.hid (ho.reads)
   clear ho hb
   go_wp2_with fail
   refine (sameInts_c (briV p x y l) AB AE cb ce _ _ _ _ _ IB_17.out SB_17.out (Nat.le_trans (briV_len p x y l) hn)).mono ?_
   rintro e w18 ⟨rfl, hb⟩
   have Z18 := Lib.hid (within_of hb).size
   have W18 := Lib.hid (within_on W17.out (within_of hb) W17.out.size (.inr (Nat.le_refl _)))
   have CO_18 := Lib.hid (CO_17.out.within (within_of hb) (by omega))
   have GM_18 := Lib.hid (GM_17.out.within (within_of hb) (by omega))
   have ZR_18 := Lib.hid (ZR_17.out.within (within_of hb) (by omega))
   have BX_18 := Lib.hid (BX_17.out.within (within_of hb) (by omega))
   have CR_18 := Lib.hid (CR_17.out.within (within_of hb) (by omega))
   have DR_18 := Lib.hid (DR_17.out.within (within_of hb) (by omega))
   have ER_18 := Lib.hid (ER_17.out.within (within_of hb) (by omega))
   have IB_18 := Lib.hid (IB_17.out.within (within_of hb) (by omega))
   have SB_18 := Lib.hid (SB_17.out.within (within_of hb) (by omega))
   clear hb
   clear IB_18
   clear SB_18
   clear CR_18
   clear DR_18
   clear ER_18
   clear ZR_18
   clear GM_18
   clear BX_18
   go_wp2_with fail
   refine (drawCi_c _ A len cap zs (CO_18.out.up W18.out.size) hl48).mono ?_
   rintro e w19 ⟨p2, a2, c2, l2, x2, y2, z2, hP2, hxy2, hz2, rfl, ho, hb⟩
   have Z19 := Lib.hid (within_of hb).size
   have W19 := Lib.hid (within_on W18.out (within_of hb) W18.out.size (.inr (Nat.le_refl _)))
   have CO_19 := Lib.hid (CO_18.out.within (within_of hb) (by omega))
   have GN_19 := Lib.hid ((own_in ho).bars)
   have HOC2 := Lib.hid (own_capM ho)
   have HP2 := Lib.hid hP2
   have hn2 : l2.length ≤ 1048576 := by have := HP2.out.1; omega
   have HWZ := Lib.hid (i64_wf hz2)
   clear ho hb hP2 hxy2 hz2
   go_wp2_with fail
   have hal := new_below w19 (.cells #[.int .i64 p2, .slice (some ⟨a2, 0, none⟩) l2.length c2] 26)
   have Z20 := Lib.hid (within_of hal).size
   have W20 := Lib.hid (within_on W19.out (within_of hal) W19.out.size (.inr (Nat.le_refl _)))
   have CO_20 := Lib.hid (CO_19.out.within (within_of hal) (by omega))
   have GN_20 := Lib.hid (GN_19.out.within (within_of hal) (by omega))
   clear hal
   have hsz : (w19.alloc (.cells #[.int .i64 p2, .slice (some ⟨a2, 0, none⟩) l2.length c2] 26)).heap.size = w19.heap.size + 1 := by simp
   have Y20 := Lib.hid hsz
   clear hsz
   have BX2_20 := Lib.hid (box_new w19 p2 (.slice (some ⟨a2, 0, none⟩) l2.length c2) 26)
   generalize (w19.alloc (.cells #[.int .i64 p2, .slice (some ⟨a2, 0, none⟩) l2.length c2] 26)) = w20 at *
   refine (implCi p2 x2 y2 z2 l2 (some ⟨a2, 0, none⟩) c2 _ GN_20.out.at hn2 HWZ.out).mono ?_
   rintro e w21 ⟨AX, cx, rfl, ho, hb⟩
   have Z21 := Lib.hid (within_of hb).size
   have W21 := Lib.hid (within_on W20.out (within_of hb) W20.out.size (.inr (Nat.le_refl _)))
   have CO_21 := Lib.hid (CO_20.out.within (within_of hb) (by omega))
   have GN_21 := Lib.hid (GN_20.out.within (within_of hb) (by omega))
   have BX2_21 := Lib.hid (BX2_20.out.within (within_of hb) (by omega))
   have XR_21 := Lib.hid (ho.reads)
   clear ho hb
   obtain ⟨g01, g02, g03⟩ := BX2_21.out
   go_wp2_with fail
   clear g01 g02 g03
   refine (specCi p2 x2 y2 z2 l2 (some ⟨a2, 0, none⟩) c2 _ GN_21.out.at hn2).mono ?_
   rintro e w22 ⟨AY, cy, rfl, ho, hb⟩
   have Z22 := Lib.hid (within_of hb).size
   have W22 := Lib.hid (within_on W21.out (within_of hb) W21.out.size (.inr (Nat.le_refl _)))
   have CO_22 := Lib.hid (CO_21.out.within (within_of hb) (by omega))
   have GN_22 := Lib.hid (GN_21.out.within (within_of hb) (by omega))
   have BX2_22 := Lib.hid (BX2_21.out.within (within_of hb) (by omega))
   have XR_22 := Lib.hid (XR_21.out.within (within_of hb) (by omega))
   have YR_22 := Lib.hid (ho.reads)
   clear ho hb
   have hxn : (ciV p2 x2 y2 l2 z2).length ≤ 1048576 := ciV_len p2 x2 y2 l2 z2
   obtain ⟨q, hq⟩ : ∃ q, ciB p2 x2 y2 l2 z2 = q := ⟨_, rfl⟩
   rw [hq]
   cases q with
   | true =>
     obtain ⟨e1, e2, e3⟩ := cir_law hq
     have HCI := Lib.hid (fun (W : World) (lo hi : Nat) (h : BarsAt W W.heap.size (some ⟨a2, 0, none⟩) l2) (h2 : IntsIn W lo hi AY (ciV p2 x2 y2 l2 z2)) => implCir p2 x2 y2 l2 (ciV p2 x2 y2 l2 z2) (some ⟨a2, 0, none⟩) AY c2 cy lo hi W h h2 hn2 hxn)
     rw [e1] at HCI
     have HHA := Lib.hid (fun (W : World) (lo hi : Nat) (h2 : IntsIn W lo hi AY (ciV p2 x2 y2 l2 z2)) => lhas_c (ciV p2 x2 y2 l2 z2) z2 AY cy lo hi W h2 hxn)
     simp only [e2, decide_true] at HHA
     have HB3 := Lib.hid e3
     clear e1 e2 e3 hq
     go_wp2_with fail
     refine (sameInts_c (ciV p2 x2 y2 l2 z2) AX AY cx cy _ _ _ _ _ XR_22.out YR_22.out hxn).mono ?_
     rintro e w23 ⟨rfl, hb⟩
     have Z23 := Lib.hid (within_of hb).size
     have W23 := Lib.hid (within_on W22.out (within_of hb) W22.out.size (.inr (Nat.le_refl _)))
     have CO_23 := Lib.hid (CO_22.out.within (within_of hb) (by omega))
     have GN_23 := Lib.hid (GN_22.out.within (within_of hb) (by omega))
     have BX2_23 := Lib.hid (BX2_22.out.within (within_of hb) (by omega))
     have XR_23 := Lib.hid (XR_22.out.within (within_of hb) (by omega))
     have YR_23 := Lib.hid (YR_22.out.within (within_of hb) (by omega))
     clear hb
     obtain ⟨g01, g02, g03⟩ := BX2_23.out
     go_wp2_with fail
     clear g01 g02 g03
     refine (HCI.out _ _ _ GN_23.out.at YR_23.out).mono ?_
     rintro e w24 ⟨rfl, hb⟩
     have Z24 := Lib.hid (within_of hb).size
     have W24 := Lib.hid (within_on W23.out (within_of hb) W23.out.size (.inr (Nat.le_refl _)))
     have CO_24 := Lib.hid (CO_23.out.within (within_of hb) (by omega))
     have GN_24 := Lib.hid (GN_23.out.within (within_of hb) (by omega))
     have BX2_24 := Lib.hid (BX2_23.out.within (within_of hb) (by omega))
     have XR_24 := Lib.hid (XR_23.out.within (within_of hb) (by omega))
     have YR_24 := Lib.hid (YR_23.out.within (within_of hb) (by omega))
     clear hb
     go_wp2_with fail
     refine (HHA.out _ _ _ YR_24.out).mono ?_
     rintro e w' ⟨rfl, rfl⟩
     go_wp2_with fail
     clear HCI HHA
     clear XR_24
     have hbl2 : (briV p2 x2 y2 l2).length ≤ 1048576 := Nat.le_trans (briV_len p2 x2 y2 l2) hn2
     obtain ⟨C, hC⟩ : ∃ C, (ciV p2 x2 y2 l2 z2) = C := ⟨_, rfl⟩
     rw [hC] at HB3 YR_24 hxn ⊢
     clear hC
     go_loopw [18] (fun i wr => ∃ k : Nat, k ≤ C.length ∧ i = .int .i64 k ∧ Below w24.heap.size w24 wr) (fun i _ => C.length - (intOf i).toNat)
     case atStart => exact ⟨0, Nat.zero_le _, rfl, Below.refl _ _⟩
     case round =>
       obtain ⟨k, hk, rfl, hb⟩ := hrel
       have Z25 := Lib.hid (within_of hb).size
       have W25 := Lib.hid (within_on W24.out (within_of hb) W24.out.size (.inr (Nat.le_refl _)))
       have CO_25 := Lib.hid (CO_24.out.within (within_of hb) (by omega))
       have GN_25 := Lib.hid (GN_24.out.within (within_of hb) (by omega))
       have BX2_25 := Lib.hid (BX2_24.out.within (within_of hb) (by omega))
       have YR_25 := Lib.hid (YR_24.out.within (within_of hb) (by omega))
       have BB_25 := Lib.hid (show BelF w24 wr from hb)
       clear hb
       by_cases hkl : k < C.length
       · have hki : (k : Int) < (C.length : Int) := by omega
         obtain ⟨bl, ol, hAY, _, hbl, hlc⟩ := YR_25.out.2 (by omega)
         have hyk := hlc k hkl
         have hmk := HB3.out _ (mem_getDI hkl)
         obtain ⟨xk, hxk⟩ : ∃ z, C.getD k 0 = z := ⟨_, rfl⟩
         rw [hxk] at hyk hmk
         clear hxk hlc
         have hbl3 := YR_25.out.1
         have HX_25 := Lib.hid (show HdF bl (ol + k) (.int .i64 xk) wr from ⟨by omega, hyk⟩)
         have HH2 := Lib.hid (fun (W : World) (AQ : Option Addr) (cq lo hi : Nat) (h : IntsIn W lo hi AQ (briV p2 x2 y2 l2)) => lhas_c (briV p2 x2 y2 l2) xk AQ cq lo hi W h hbl2)
         simp only [hmk, decide_false] at HH2
         have hslot : (Value.slice AY C.length cy) = Value.slice (some ⟨bl, ol, none⟩) C.length cy := by rw [hAY]
         clear hmk hAY hyk
         rw [hslot]
         clear hslot
         obtain ⟨g01, g02, g03⟩ := BX2_25.out
         have hdr : Below wr.heap.size wr wr.drew := (Below.refl _ _).drew
         have Z26 := Lib.hid (within_of hdr).size
         have W26 := Lib.hid (within_on W25.out (within_of hdr) W25.out.size (.inr (Nat.le_refl _)))
         have CO_26 := Lib.hid (CO_25.out.within (within_of hdr) (by omega))
         have GN_26 := Lib.hid (GN_25.out.within (within_of hdr) (by omega))
         have BX2_26 := Lib.hid (BX2_25.out.within (within_of hdr) (by omega))
         have YR_26 := Lib.hid (YR_25.out.within (within_of hdr) (by omega))
         have BB_26 := Lib.hid (BB_25.out.within (within_of hdr) (by omega))
         have HX_26 := Lib.hid (HX_25.out.within (within_of hdr) (by omega))
         clear hdr
         go_wp2_with fail
         go_region_held3 (fun W' : World => W'.cell? ⟨w19.heap.size, 0, none⟩ = some (.int .i64 p2) ∧ W'.cell? ⟨w19.heap.size, 1, none⟩ = some (.slice (some ⟨a2, 0, none⟩) l2.length c2) ∧ W'.cell? ⟨bl, ol + k, none⟩ = some (.int .i64 xk))
           (first | exact ⟨BX2_26.out.2.1, BX2_26.out.2.2, HX_26.out.2⟩ | exact ⟨BX2_27.out.2.1, BX2_27.out.2.2, HX_27.out.2⟩ | fail)
           (first
             | (go_at_call 50; refine (specBri p2 x2 y2 l2 (some ⟨a2, 0, none⟩) c2 _ GN_26.out.at hn2 ⟨_, rfl⟩ HOC2.out).mono ?_; rintro e w27 ⟨AQ, cq, rfl, ho, hb⟩; have Z27 := Lib.hid (within_of hb).size; have W27 := Lib.hid (within_on W26.out (within_of hb) W26.out.size (.inr (Nat.le_refl _))); have CO_27 := Lib.hid (CO_26.out.within (within_of hb) (by omega)); have GN_27 := Lib.hid (GN_26.out.within (within_of hb) (by omega)); have BX2_27 := Lib.hid (BX2_26.out.within (within_of hb) (by omega)); have YR_27 := Lib.hid (YR_26.out.within (within_of hb) (by omega)); have BB_27 := Lib.hid (BB_26.out.within (within_of hb) (by omega)); have HX_27 := Lib.hid (HX_26.out.within (within_of hb) (by omega)); have QR_27 := Lib.hid ho.reads; clear ho hb)
             | (go_at_call 55; refine (HH2.out _ AQ cq _ _ QR_27.out).mono ?_; rintro e w28 ⟨rfl, rfl⟩)
             | fail)
         go_wp2_with fail
         go_roundw
         case rel => exact ⟨k + 1, by omega, by go_num, BB_27.out⟩
         case measure => simp [intOf]; omega
       · obtain rfl : k = C.length := by omega
         go_wp2_with fail
         clear YR_25
         clear GN_25
         refine (drawCir_c _ A len cap zs (CO_25.out.up W25.out.size) hl48).mono ?_
         rintro e w26 ⟨p3, a3, c3, l3, x3, y3, AW, cw, v3, lo3, hi3, hP3, hxy3, hv3, rfl, ho, hi5, hlo3, hb⟩
         have Z26 := Lib.hid (within_of hb).size
         have W26 := Lib.hid (within_on W25.out (within_of hb) W25.out.size (.inr (Nat.le_refl _)))
         have CO_26 := Lib.hid (CO_25.out.within (within_of hb) (by omega))
         have BX2_26 := Lib.hid (BX2_25.out.within (within_of hb) (by omega))
         have BB_26 := Lib.hid (BB_25.out.within (within_of hb) (by omega))
         have GO_26 := Lib.hid ((own_in ho).bars)
         have WR_26 := Lib.hid (hi5.reads)
         have HP3 := Lib.hid hP3
         have hn3 : l3.length ≤ 1048576 := by have := HP3.out.1; omega
         have hv3n : v3.length ≤ 1048576 := by omega
         have hce : (cirB p3 x3 y3 l3 v3 == cirB p3 x3 y3 l3 v3) = true := by simp
         clear ho hi5 hlo3 hb hP3 hxy3
         go_wp2_with fail
         have hal := new_below w26 (.cells #[.int .i64 p3, .slice (some ⟨a3, 0, none⟩) l3.length c3] 26)
         have Z27 := Lib.hid (within_of hal).size
         have W27 := Lib.hid (within_on W26.out (within_of hal) W26.out.size (.inr (Nat.le_refl _)))
         have CO_27 := Lib.hid (CO_26.out.within (within_of hal) (by omega))
         have BX2_27 := Lib.hid (BX2_26.out.within (within_of hal) (by omega))
         have BB_27 := Lib.hid (BB_26.out.within (within_of hal) (by omega))
         have GO_27 := Lib.hid (GO_26.out.within (within_of hal) (by omega))
         have WR_27 := Lib.hid (WR_26.out.within (within_of hal) (by omega))
         clear hal
         have hsz : (w26.alloc (.cells #[.int .i64 p3, .slice (some ⟨a3, 0, none⟩) l3.length c3] 26)).heap.size = w26.heap.size + 1 := by simp
         have Y27 := Lib.hid hsz
         clear hsz
         have BX3_27 := Lib.hid (box_new w26 p3 (.slice (some ⟨a3, 0, none⟩) l3.length c3) 26)
         generalize (w26.alloc (.cells #[.int .i64 p3, .slice (some ⟨a3, 0, none⟩) l3.length c3] 26)) = w27 at *
         have kk := BX3_27.out.2
         have hdr : Below w27.heap.size w27 w27.drew := (Below.refl _ _).drew
         have Z28 := Lib.hid (within_of hdr).size
         have W28 := Lib.hid (within_on W27.out (within_of hdr) W27.out.size (.inr (Nat.le_refl _)))
         have CO_28 := Lib.hid (CO_27.out.within (within_of hdr) (by omega))
         have BX2_28 := Lib.hid (BX2_27.out.within (within_of hdr) (by omega))
         have BB_28 := Lib.hid (BB_27.out.within (within_of hdr) (by omega))
         have GO_28 := Lib.hid (GO_27.out.within (within_of hdr) (by omega))
         have WR_28 := Lib.hid (WR_27.out.within (within_of hdr) (by omega))
         have BX3_28 := Lib.hid (BX3_27.out.within (within_of hdr) (by omega))
         clear hdr
         go_region_held3 (fun W' : World => W'.cell? ⟨w26.heap.size, 0, none⟩ = some (.int .i64 p3) ∧ W'.cell? ⟨w26.heap.size, 1, none⟩ = some (.slice (some ⟨a3, 0, none⟩) l3.length c3))
           (first | exact kk | exact BX3_29.out.2 | exact BX3_30.out.2 | fail)
           (first
             | (go_at_call 54; refine (implCir p3 x3 y3 l3 v3 (some ⟨a3, 0, none⟩) AW c3 cw _ _ _ GO_28.out.at WR_28.out hn3 hv3n).mono ?_; rintro e w29 ⟨rfl, hb⟩; have Z29 := Lib.hid (within_of hb).size; have W29 := Lib.hid (within_on W28.out (within_of hb) W28.out.size (.inr (Nat.le_refl _))); have CO_29 := Lib.hid (CO_28.out.within (within_of hb) (by omega)); have BX2_29 := Lib.hid (BX2_28.out.within (within_of hb) (by omega)); have BB_29 := Lib.hid (BB_28.out.within (within_of hb) (by omega)); have GO_29 := Lib.hid (GO_28.out.within (within_of hb) (by omega)); have WR_29 := Lib.hid (WR_28.out.within (within_of hb) (by omega)); have BX3_29 := Lib.hid (BX3_28.out.within (within_of hb) (by omega)); clear hb)
             | (go_at_call 57; refine (specCir p3 x3 y3 l3 v3 (some ⟨a3, 0, none⟩) AW c3 cw _ _ _ GO_29.out.at WR_29.out hn3 hv3n).mono ?_; rintro e w30 ⟨rfl, hb⟩; have Z30 := Lib.hid (within_of hb).size; have W30 := Lib.hid (within_on W29.out (within_of hb) W29.out.size (.inr (Nat.le_refl _))); have CO_30 := Lib.hid (CO_29.out.within (within_of hb) (by omega)); have BX2_30 := Lib.hid (BX2_29.out.within (within_of hb) (by omega)); have BB_30 := Lib.hid (BB_29.out.within (within_of hb) (by omega)); have GO_30 := Lib.hid (GO_29.out.within (within_of hb) (by omega)); have WR_30 := Lib.hid (WR_29.out.within (within_of hb) (by omega)); have BX3_30 := Lib.hid (BX3_29.out.within (within_of hb) (by omega)); clear hb)
             | fail)
         go_wp2_with fail
         go_ret
         exact ⟨by simp, W30.out⟩
   | false =>
     have HB3 := Lib.hid (show ∀ y ∈ (ciV p2 x2 y2 l2 z2), y ∉ briV p2 x2 y2 l2 from fun y hy => by rw [ciV_no hq] at hy; cases hy)
     clear hq
     go_wp2_with fail
     refine (sameInts_c (ciV p2 x2 y2 l2 z2) AX AY cx cy _ _ _ _ _ XR_22.out YR_22.out hxn).mono ?_
     rintro e w23 ⟨rfl, hb⟩
     have Z23 := Lib.hid (within_of hb).size
     have W23 := Lib.hid (within_on W22.out (within_of hb) W22.out.size (.inr (Nat.le_refl _)))
     have CO_23 := Lib.hid (CO_22.out.within (within_of hb) (by omega))
     have GN_23 := Lib.hid (GN_22.out.within (within_of hb) (by omega))
     have BX2_23 := Lib.hid (BX2_22.out.within (within_of hb) (by omega))
     have XR_23 := Lib.hid (XR_22.out.within (within_of hb) (by omega))
     have YR_23 := Lib.hid (YR_22.out.within (within_of hb) (by omega))
     clear hb
     go_wp2_with fail
     clear XR_23
     have hbl2 : (briV p2 x2 y2 l2).length ≤ 1048576 := Nat.le_trans (briV_len p2 x2 y2 l2) hn2
     obtain ⟨C, hC⟩ : ∃ C, (ciV p2 x2 y2 l2 z2) = C := ⟨_, rfl⟩
     rw [hC] at HB3 YR_23 hxn ⊢
     clear hC
     go_loopw [18] (fun i wr => ∃ k : Nat, k ≤ C.length ∧ i = .int .i64 k ∧ Below w23.heap.size w23 wr) (fun i _ => C.length - (intOf i).toNat)
     case atStart => exact ⟨0, Nat.zero_le _, rfl, Below.refl _ _⟩
     case round =>
       obtain ⟨k, hk, rfl, hb⟩ := hrel
       have Z24 := Lib.hid (within_of hb).size
       have W24 := Lib.hid (within_on W23.out (within_of hb) W23.out.size (.inr (Nat.le_refl _)))
       have CO_24 := Lib.hid (CO_23.out.within (within_of hb) (by omega))
       have GN_24 := Lib.hid (GN_23.out.within (within_of hb) (by omega))
       have BX2_24 := Lib.hid (BX2_23.out.within (within_of hb) (by omega))
       have YR_24 := Lib.hid (YR_23.out.within (within_of hb) (by omega))
       have BB_24 := Lib.hid (show BelF w23 wr from hb)
       clear hb
       by_cases hkl : k < C.length
       · have hki : (k : Int) < (C.length : Int) := by omega
         obtain ⟨bl, ol, hAY, _, hbl, hlc⟩ := YR_24.out.2 (by omega)
         have hyk := hlc k hkl
         have hmk := HB3.out _ (mem_getDI hkl)
         obtain ⟨xk, hxk⟩ : ∃ z, C.getD k 0 = z := ⟨_, rfl⟩
         rw [hxk] at hyk hmk
         clear hxk hlc
         have hbl3 := YR_24.out.1
         have HX_24 := Lib.hid (show HdF bl (ol + k) (.int .i64 xk) wr from ⟨by omega, hyk⟩)
         have HH2 := Lib.hid (fun (W : World) (AQ : Option Addr) (cq lo hi : Nat) (h : IntsIn W lo hi AQ (briV p2 x2 y2 l2)) => lhas_c (briV p2 x2 y2 l2) xk AQ cq lo hi W h hbl2)
         simp only [hmk, decide_false] at HH2
         have hslot : (Value.slice AY C.length cy) = Value.slice (some ⟨bl, ol, none⟩) C.length cy := by rw [hAY]
         clear hmk hAY hyk
         rw [hslot]
         clear hslot
         obtain ⟨g01, g02, g03⟩ := BX2_24.out
         have hdr : Below wr.heap.size wr wr.drew := (Below.refl _ _).drew
         have Z25 := Lib.hid (within_of hdr).size
         have W25 := Lib.hid (within_on W24.out (within_of hdr) W24.out.size (.inr (Nat.le_refl _)))
         have CO_25 := Lib.hid (CO_24.out.within (within_of hdr) (by omega))
         have GN_25 := Lib.hid (GN_24.out.within (within_of hdr) (by omega))
         have BX2_25 := Lib.hid (BX2_24.out.within (within_of hdr) (by omega))
         have YR_25 := Lib.hid (YR_24.out.within (within_of hdr) (by omega))
         have BB_25 := Lib.hid (BB_24.out.within (within_of hdr) (by omega))
         have HX_25 := Lib.hid (HX_24.out.within (within_of hdr) (by omega))
         clear hdr
         go_wp2_with fail
         go_region_held3 (fun W' : World => W'.cell? ⟨w19.heap.size, 0, none⟩ = some (.int .i64 p2) ∧ W'.cell? ⟨w19.heap.size, 1, none⟩ = some (.slice (some ⟨a2, 0, none⟩) l2.length c2) ∧ W'.cell? ⟨bl, ol + k, none⟩ = some (.int .i64 xk))
           (first | exact ⟨BX2_25.out.2.1, BX2_25.out.2.2, HX_25.out.2⟩ | exact ⟨BX2_26.out.2.1, BX2_26.out.2.2, HX_26.out.2⟩ | fail)
           (first
             | (go_at_call 50; refine (specBri p2 x2 y2 l2 (some ⟨a2, 0, none⟩) c2 _ GN_25.out.at hn2 ⟨_, rfl⟩ HOC2.out).mono ?_; rintro e w26 ⟨AQ, cq, rfl, ho, hb⟩; have Z26 := Lib.hid (within_of hb).size; have W26 := Lib.hid (within_on W25.out (within_of hb) W25.out.size (.inr (Nat.le_refl _))); have CO_26 := Lib.hid (CO_25.out.within (within_of hb) (by omega)); have GN_26 := Lib.hid (GN_25.out.within (within_of hb) (by omega)); have BX2_26 := Lib.hid (BX2_25.out.within (within_of hb) (by omega)); have YR_26 := Lib.hid (YR_25.out.within (within_of hb) (by omega)); have BB_26 := Lib.hid (BB_25.out.within (within_of hb) (by omega)); have HX_26 := Lib.hid (HX_25.out.within (within_of hb) (by omega)); have QR_26 := Lib.hid ho.reads; clear ho hb)
             | (go_at_call 55; refine (HH2.out _ AQ cq _ _ QR_26.out).mono ?_; rintro e w27 ⟨rfl, rfl⟩)
             | fail)
         go_wp2_with fail
         go_roundw
         case rel => exact ⟨k + 1, by omega, by go_num, BB_26.out⟩
         case measure => simp [intOf]; omega
       · obtain rfl : k = C.length := by omega
         go_wp2_with fail
         clear YR_24
         clear GN_24
         refine (drawCir_c _ A len cap zs (CO_24.out.up W24.out.size) hl48).mono ?_
         rintro e w25 ⟨p3, a3, c3, l3, x3, y3, AW, cw, v3, lo3, hi3, hP3, hxy3, hv3, rfl, ho, hi5, hlo3, hb⟩
         have Z25 := Lib.hid (within_of hb).size
         have W25 := Lib.hid (within_on W24.out (within_of hb) W24.out.size (.inr (Nat.le_refl _)))
         have CO_25 := Lib.hid (CO_24.out.within (within_of hb) (by omega))
         have BX2_25 := Lib.hid (BX2_24.out.within (within_of hb) (by omega))
         have BB_25 := Lib.hid (BB_24.out.within (within_of hb) (by omega))
         have GO_25 := Lib.hid ((own_in ho).bars)
         have WR_25 := Lib.hid (hi5.reads)
         have HP3 := Lib.hid hP3
         have hn3 : l3.length ≤ 1048576 := by have := HP3.out.1; omega
         have hv3n : v3.length ≤ 1048576 := by omega
         have hce : (cirB p3 x3 y3 l3 v3 == cirB p3 x3 y3 l3 v3) = true := by simp
         clear ho hi5 hlo3 hb hP3 hxy3
         go_wp2_with fail
         have hal := new_below w25 (.cells #[.int .i64 p3, .slice (some ⟨a3, 0, none⟩) l3.length c3] 26)
         have Z26 := Lib.hid (within_of hal).size
         have W26 := Lib.hid (within_on W25.out (within_of hal) W25.out.size (.inr (Nat.le_refl _)))
         have CO_26 := Lib.hid (CO_25.out.within (within_of hal) (by omega))
         have BX2_26 := Lib.hid (BX2_25.out.within (within_of hal) (by omega))
         have BB_26 := Lib.hid (BB_25.out.within (within_of hal) (by omega))
         have GO_26 := Lib.hid (GO_25.out.within (within_of hal) (by omega))
         have WR_26 := Lib.hid (WR_25.out.within (within_of hal) (by omega))
         clear hal
         have hsz : (w25.alloc (.cells #[.int .i64 p3, .slice (some ⟨a3, 0, none⟩) l3.length c3] 26)).heap.size = w25.heap.size + 1 := by simp
         have Y26 := Lib.hid hsz
         clear hsz
         have BX3_26 := Lib.hid (box_new w25 p3 (.slice (some ⟨a3, 0, none⟩) l3.length c3) 26)
         generalize (w25.alloc (.cells #[.int .i64 p3, .slice (some ⟨a3, 0, none⟩) l3.length c3] 26)) = w26 at *
         have kk := BX3_26.out.2
         have hdr : Below w26.heap.size w26 w26.drew := (Below.refl _ _).drew
         have Z27 := Lib.hid (within_of hdr).size
         have W27 := Lib.hid (within_on W26.out (within_of hdr) W26.out.size (.inr (Nat.le_refl _)))
         have CO_27 := Lib.hid (CO_26.out.within (within_of hdr) (by omega))
         have BX2_27 := Lib.hid (BX2_26.out.within (within_of hdr) (by omega))
         have BB_27 := Lib.hid (BB_26.out.within (within_of hdr) (by omega))
         have GO_27 := Lib.hid (GO_26.out.within (within_of hdr) (by omega))
         have WR_27 := Lib.hid (WR_26.out.within (within_of hdr) (by omega))
         have BX3_27 := Lib.hid (BX3_26.out.within (within_of hdr) (by omega))
         clear hdr
         go_region_held3 (fun W' : World => W'.cell? ⟨w25.heap.size, 0, none⟩ = some (.int .i64 p3) ∧ W'.cell? ⟨w25.heap.size, 1, none⟩ = some (.slice (some ⟨a3, 0, none⟩) l3.length c3))
           (first | exact kk | exact BX3_28.out.2 | exact BX3_29.out.2 | fail)
           (first
             | (go_at_call 54; refine (implCir p3 x3 y3 l3 v3 (some ⟨a3, 0, none⟩) AW c3 cw _ _ _ GO_27.out.at WR_27.out hn3 hv3n).mono ?_; rintro e w28 ⟨rfl, hb⟩; have Z28 := Lib.hid (within_of hb).size; have W28 := Lib.hid (within_on W27.out (within_of hb) W27.out.size (.inr (Nat.le_refl _))); have CO_28 := Lib.hid (CO_27.out.within (within_of hb) (by omega)); have BX2_28 := Lib.hid (BX2_27.out.within (within_of hb) (by omega)); have BB_28 := Lib.hid (BB_27.out.within (within_of hb) (by omega)); have GO_28 := Lib.hid (GO_27.out.within (within_of hb) (by omega)); have WR_28 := Lib.hid (WR_27.out.within (within_of hb) (by omega)); have BX3_28 := Lib.hid (BX3_27.out.within (within_of hb) (by omega)); clear hb)
             | (go_at_call 57; refine (specCir p3 x3 y3 l3 v3 (some ⟨a3, 0, none⟩) AW c3 cw _ _ _ GO_28.out.at WR_28.out hn3 hv3n).mono ?_; rintro e w29 ⟨rfl, hb⟩; have Z29 := Lib.hid (within_of hb).size; have W29 := Lib.hid (within_on W28.out (within_of hb) W28.out.size (.inr (Nat.le_refl _))); have CO_29 := Lib.hid (CO_28.out.within (within_of hb) (by omega)); have BX2_29 := Lib.hid (BX2_28.out.within (within_of hb) (by omega)); have BB_29 := Lib.hid (BB_28.out.within (within_of hb) (by omega)); have GO_29 := Lib.hid (GO_28.out.within (within_of hb) (by omega)); have WR_29 := Lib.hid (WR_28.out.within (within_of hb) (by omega)); have BX3_29 := Lib.hid (BX3_28.out.within (within_of hb) (by omega)); clear hb)
             | fail)
         go_wp2_with fail
         go_ret
         exact ⟨by simp, W29.out⟩
 · have hC0i : ¬ (0 : Int) < ((cloV p x y l v).length : Int) := by omega
   obtain ⟨g01, g02, g03⟩ := BX_12.out
   go_wp2_with fail
   clear g01 g02 g03
   refine (implBri p x y l (some ⟨a, 0, none⟩) c _ GM_12.out.at hn).mono ?_
   rintro e w13 ⟨AB, cb, rfl, ho, hb⟩
   have Z13 := Lib.hid (within_of hb).size
   have W13 := Lib.hid (within_on W12.out (within_of hb) W12.out.size (.inr (Nat.le_refl _)))
   have CO_13 := Lib.hid (CO_12.out.within (within_of hb) (by omega))
   have GM_13 := Lib.hid (GM_12.out.within (within_of hb) (by omega))
   have ZR_13 := Lib.hid (ZR_12.out.within (within_of hb) (by omega))
   have BX_13 := Lib.hid (BX_12.out.within (within_of hb) (by omega))
   have CR_13 := Lib.hid (CR_12.out.within (within_of hb) (by omega))
   have DR_13 := Lib.hid (DR_12.out.within (within_of hb) (by omega))
   have IB_13 := Lib.hid (ho.reads)
   clear ho hb
   obtain ⟨g01, g02, g03⟩ := BX_13.out
   go_wp2_with fail
   clear g01 g02 g03
   refine (specBri p x y l (some ⟨a, 0, none⟩) c _ GM_13.out.at hn ⟨_, rfl⟩ HOC.out).mono ?_
   rintro e w14 ⟨AE, ce, rfl, ho, hb⟩
   have Z14 := Lib.hid (within_of hb).size
   have W14 := Lib.hid (within_on W13.out (within_of hb) W13.out.size (.inr (Nat.le_refl _)))
   have CO_14 := Lib.hid (CO_13.out.within (within_of hb) (by omega))
   have GM_14 := Lib.hid (GM_13.out.within (within_of hb) (by omega))
   have ZR_14 := Lib.hid (ZR_13.out.within (within_of hb) (by omega))
   have BX_14 := Lib.hid (BX_13.out.within (within_of hb) (by omega))
   have CR_14 := Lib.hid (CR_13.out.within (within_of hb) (by omega))
   have DR_14 := Lib.hid (DR_13.out.within (within_of hb) (by omega))
   have IB_14 := Lib.hid (IB_13.out.within (within_of hb) (by omega))
   have SB_14 := Lib.hid (ho.reads)
   clear ho hb
   go_wp2_with fail
   refine (sameInts_c (briV p x y l) AB AE cb ce _ _ _ _ _ IB_14.out SB_14.out (Nat.le_trans (briV_len p x y l) hn)).mono ?_
   rintro e w15 ⟨rfl, hb⟩
   have Z15 := Lib.hid (within_of hb).size
   have W15 := Lib.hid (within_on W14.out (within_of hb) W14.out.size (.inr (Nat.le_refl _)))
   have CO_15 := Lib.hid (CO_14.out.within (within_of hb) (by omega))
   have GM_15 := Lib.hid (GM_14.out.within (within_of hb) (by omega))
   have ZR_15 := Lib.hid (ZR_14.out.within (within_of hb) (by omega))
   have BX_15 := Lib.hid (BX_14.out.within (within_of hb) (by omega))
   have CR_15 := Lib.hid (CR_14.out.within (within_of hb) (by omega))
   have DR_15 := Lib.hid (DR_14.out.within (within_of hb) (by omega))
   have IB_15 := Lib.hid (IB_14.out.within (within_of hb) (by omega))
   have SB_15 := Lib.hid (SB_14.out.within (within_of hb) (by omega))
   clear hb
   clear IB_15
   clear SB_15
   clear CR_15
   clear DR_15
   clear ZR_15
   clear GM_15
   clear BX_15
   go_wp2_with fail
   refine (drawCi_c _ A len cap zs (CO_15.out.up W15.out.size) hl48).mono ?_
   rintro e w16 ⟨p2, a2, c2, l2, x2, y2, z2, hP2, hxy2, hz2, rfl, ho, hb⟩
   have Z16 := Lib.hid (within_of hb).size
   have W16 := Lib.hid (within_on W15.out (within_of hb) W15.out.size (.inr (Nat.le_refl _)))
   have CO_16 := Lib.hid (CO_15.out.within (within_of hb) (by omega))
   have GN_16 := Lib.hid ((own_in ho).bars)
   have HOC2 := Lib.hid (own_capM ho)
   have HP2 := Lib.hid hP2
   have hn2 : l2.length ≤ 1048576 := by have := HP2.out.1; omega
   have HWZ := Lib.hid (i64_wf hz2)
   clear ho hb hP2 hxy2 hz2
   go_wp2_with fail
   have hal := new_below w16 (.cells #[.int .i64 p2, .slice (some ⟨a2, 0, none⟩) l2.length c2] 26)
   have Z17 := Lib.hid (within_of hal).size
   have W17 := Lib.hid (within_on W16.out (within_of hal) W16.out.size (.inr (Nat.le_refl _)))
   have CO_17 := Lib.hid (CO_16.out.within (within_of hal) (by omega))
   have GN_17 := Lib.hid (GN_16.out.within (within_of hal) (by omega))
   clear hal
   have hsz : (w16.alloc (.cells #[.int .i64 p2, .slice (some ⟨a2, 0, none⟩) l2.length c2] 26)).heap.size = w16.heap.size + 1 := by simp
   have Y17 := Lib.hid hsz
   clear hsz
   have BX2_17 := Lib.hid (box_new w16 p2 (.slice (some ⟨a2, 0, none⟩) l2.length c2) 26)
   generalize (w16.alloc (.cells #[.int .i64 p2, .slice (some ⟨a2, 0, none⟩) l2.length c2] 26)) = w17 at *
   refine (implCi p2 x2 y2 z2 l2 (some ⟨a2, 0, none⟩) c2 _ GN_17.out.at hn2 HWZ.out).mono ?_
   rintro e w18 ⟨AX, cx, rfl, ho, hb⟩
   have Z18 := Lib.hid (within_of hb).size
   have W18 := Lib.hid (within_on W17.out (within_of hb) W17.out.size (.inr (Nat.le_refl _)))
   have CO_18 := Lib.hid (CO_17.out.within (within_of hb) (by omega))
   have GN_18 := Lib.hid (GN_17.out.within (within_of hb) (by omega))
   have BX2_18 := Lib.hid (BX2_17.out.within (within_of hb) (by omega))
   have XR_18 := Lib.hid (ho.reads)
   clear ho hb
   obtain ⟨g01, g02, g03⟩ := BX2_18.out
   go_wp2_with fail
   clear g01 g02 g03
   refine (specCi p2 x2 y2 z2 l2 (some ⟨a2, 0, none⟩) c2 _ GN_18.out.at hn2).mono ?_
   rintro e w19 ⟨AY, cy, rfl, ho, hb⟩
   have Z19 := Lib.hid (within_of hb).size
   have W19 := Lib.hid (within_on W18.out (within_of hb) W18.out.size (.inr (Nat.le_refl _)))
   have CO_19 := Lib.hid (CO_18.out.within (within_of hb) (by omega))
   have GN_19 := Lib.hid (GN_18.out.within (within_of hb) (by omega))
   have BX2_19 := Lib.hid (BX2_18.out.within (within_of hb) (by omega))
   have XR_19 := Lib.hid (XR_18.out.within (within_of hb) (by omega))
   have YR_19 := Lib.hid (ho.reads)
   clear ho hb
   have hxn : (ciV p2 x2 y2 l2 z2).length ≤ 1048576 := ciV_len p2 x2 y2 l2 z2
   obtain ⟨q, hq⟩ : ∃ q, ciB p2 x2 y2 l2 z2 = q := ⟨_, rfl⟩
   rw [hq]
   cases q with
   | true =>
     obtain ⟨e1, e2, e3⟩ := cir_law hq
     have HCI := Lib.hid (fun (W : World) (lo hi : Nat) (h : BarsAt W W.heap.size (some ⟨a2, 0, none⟩) l2) (h2 : IntsIn W lo hi AY (ciV p2 x2 y2 l2 z2)) => implCir p2 x2 y2 l2 (ciV p2 x2 y2 l2 z2) (some ⟨a2, 0, none⟩) AY c2 cy lo hi W h h2 hn2 hxn)
     rw [e1] at HCI
     have HHA := Lib.hid (fun (W : World) (lo hi : Nat) (h2 : IntsIn W lo hi AY (ciV p2 x2 y2 l2 z2)) => lhas_c (ciV p2 x2 y2 l2 z2) z2 AY cy lo hi W h2 hxn)
     simp only [e2, decide_true] at HHA
     have HB3 := Lib.hid e3
     clear e1 e2 e3 hq
     go_wp2_with fail
     refine (sameInts_c (ciV p2 x2 y2 l2 z2) AX AY cx cy _ _ _ _ _ XR_19.out YR_19.out hxn).mono ?_
     rintro e w20 ⟨rfl, hb⟩
     have Z20 := Lib.hid (within_of hb).size
     have W20 := Lib.hid (within_on W19.out (within_of hb) W19.out.size (.inr (Nat.le_refl _)))
     have CO_20 := Lib.hid (CO_19.out.within (within_of hb) (by omega))
     have GN_20 := Lib.hid (GN_19.out.within (within_of hb) (by omega))
     have BX2_20 := Lib.hid (BX2_19.out.within (within_of hb) (by omega))
     have XR_20 := Lib.hid (XR_19.out.within (within_of hb) (by omega))
     have YR_20 := Lib.hid (YR_19.out.within (within_of hb) (by omega))
     clear hb
     obtain ⟨g01, g02, g03⟩ := BX2_20.out
     go_wp2_with fail
     clear g01 g02 g03
     refine (HCI.out _ _ _ GN_20.out.at YR_20.out).mono ?_
     rintro e w21 ⟨rfl, hb⟩
     have Z21 := Lib.hid (within_of hb).size
     have W21 := Lib.hid (within_on W20.out (within_of hb) W20.out.size (.inr (Nat.le_refl _)))
     have CO_21 := Lib.hid (CO_20.out.within (within_of hb) (by omega))
     have GN_21 := Lib.hid (GN_20.out.within (within_of hb) (by omega))
     have BX2_21 := Lib.hid (BX2_20.out.within (within_of hb) (by omega))
     have XR_21 := Lib.hid (XR_20.out.within (within_of hb) (by omega))
     have YR_21 := Lib.hid (YR_20.out.within (within_of hb) (by omega))
     clear hb
     go_wp2_with fail
     refine (HHA.out _ _ _ YR_21.out).mono ?_
     rintro e w' ⟨rfl, rfl⟩
     go_wp2_with fail
     clear HCI HHA
     clear XR_21
     have hbl2 : (briV p2 x2 y2 l2).length ≤ 1048576 := Nat.le_trans (briV_len p2 x2 y2 l2) hn2
     obtain ⟨C, hC⟩ : ∃ C, (ciV p2 x2 y2 l2 z2) = C := ⟨_, rfl⟩
     rw [hC] at HB3 YR_21 hxn ⊢
     clear hC
     go_loopw [18] (fun i wr => ∃ k : Nat, k ≤ C.length ∧ i = .int .i64 k ∧ Below w21.heap.size w21 wr) (fun i _ => C.length - (intOf i).toNat)
     case atStart => exact ⟨0, Nat.zero_le _, rfl, Below.refl _ _⟩
     case round =>
       obtain ⟨k, hk, rfl, hb⟩ := hrel
       have Z22 := Lib.hid (within_of hb).size
       have W22 := Lib.hid (within_on W21.out (within_of hb) W21.out.size (.inr (Nat.le_refl _)))
       have CO_22 := Lib.hid (CO_21.out.within (within_of hb) (by omega))
       have GN_22 := Lib.hid (GN_21.out.within (within_of hb) (by omega))
       have BX2_22 := Lib.hid (BX2_21.out.within (within_of hb) (by omega))
       have YR_22 := Lib.hid (YR_21.out.within (within_of hb) (by omega))
       have BB_22 := Lib.hid (show BelF w21 wr from hb)
       clear hb
       by_cases hkl : k < C.length
       · have hki : (k : Int) < (C.length : Int) := by omega
         obtain ⟨bl, ol, hAY, _, hbl, hlc⟩ := YR_22.out.2 (by omega)
         have hyk := hlc k hkl
         have hmk := HB3.out _ (mem_getDI hkl)
         obtain ⟨xk, hxk⟩ : ∃ z, C.getD k 0 = z := ⟨_, rfl⟩
         rw [hxk] at hyk hmk
         clear hxk hlc
         have hbl3 := YR_22.out.1
         have HX_22 := Lib.hid (show HdF bl (ol + k) (.int .i64 xk) wr from ⟨by omega, hyk⟩)
         have HH2 := Lib.hid (fun (W : World) (AQ : Option Addr) (cq lo hi : Nat) (h : IntsIn W lo hi AQ (briV p2 x2 y2 l2)) => lhas_c (briV p2 x2 y2 l2) xk AQ cq lo hi W h hbl2)
         simp only [hmk, decide_false] at HH2
         have hslot : (Value.slice AY C.length cy) = Value.slice (some ⟨bl, ol, none⟩) C.length cy := by rw [hAY]
         clear hmk hAY hyk
         rw [hslot]
         clear hslot
         obtain ⟨g01, g02, g03⟩ := BX2_22.out
         have hdr : Below wr.heap.size wr wr.drew := (Below.refl _ _).drew
         have Z23 := Lib.hid (within_of hdr).size
         have W23 := Lib.hid (within_on W22.out (within_of hdr) W22.out.size (.inr (Nat.le_refl _)))
         have CO_23 := Lib.hid (CO_22.out.within (within_of hdr) (by omega))
         have GN_23 := Lib.hid (GN_22.out.within (within_of hdr) (by omega))
         have BX2_23 := Lib.hid (BX2_22.out.within (within_of hdr) (by omega))
         have YR_23 := Lib.hid (YR_22.out.within (within_of hdr) (by omega))
         have BB_23 := Lib.hid (BB_22.out.within (within_of hdr) (by omega))
         have HX_23 := Lib.hid (HX_22.out.within (within_of hdr) (by omega))
         clear hdr
         go_wp2_with fail
         go_region_held3 (fun W' : World => W'.cell? ⟨w16.heap.size, 0, none⟩ = some (.int .i64 p2) ∧ W'.cell? ⟨w16.heap.size, 1, none⟩ = some (.slice (some ⟨a2, 0, none⟩) l2.length c2) ∧ W'.cell? ⟨bl, ol + k, none⟩ = some (.int .i64 xk))
           (first | exact ⟨BX2_23.out.2.1, BX2_23.out.2.2, HX_23.out.2⟩ | exact ⟨BX2_24.out.2.1, BX2_24.out.2.2, HX_24.out.2⟩ | fail)
           (first
             | (go_at_call 50; refine (specBri p2 x2 y2 l2 (some ⟨a2, 0, none⟩) c2 _ GN_23.out.at hn2 ⟨_, rfl⟩ HOC2.out).mono ?_; rintro e w24 ⟨AQ, cq, rfl, ho, hb⟩; have Z24 := Lib.hid (within_of hb).size; have W24 := Lib.hid (within_on W23.out (within_of hb) W23.out.size (.inr (Nat.le_refl _))); have CO_24 := Lib.hid (CO_23.out.within (within_of hb) (by omega)); have GN_24 := Lib.hid (GN_23.out.within (within_of hb) (by omega)); have BX2_24 := Lib.hid (BX2_23.out.within (within_of hb) (by omega)); have YR_24 := Lib.hid (YR_23.out.within (within_of hb) (by omega)); have BB_24 := Lib.hid (BB_23.out.within (within_of hb) (by omega)); have HX_24 := Lib.hid (HX_23.out.within (within_of hb) (by omega)); have QR_24 := Lib.hid ho.reads; clear ho hb)
             | (go_at_call 55; refine (HH2.out _ AQ cq _ _ QR_24.out).mono ?_; rintro e w25 ⟨rfl, rfl⟩)
             | fail)
         go_wp2_with fail
         go_roundw
         case rel => exact ⟨k + 1, by omega, by go_num, BB_24.out⟩
         case measure => simp [intOf]; omega
       · obtain rfl : k = C.length := by omega
         go_wp2_with fail
         clear YR_22
         clear GN_22
         refine (drawCir_c _ A len cap zs (CO_22.out.up W22.out.size) hl48).mono ?_
         rintro e w23 ⟨p3, a3, c3, l3, x3, y3, AW, cw, v3, lo3, hi3, hP3, hxy3, hv3, rfl, ho, hi5, hlo3, hb⟩
         have Z23 := Lib.hid (within_of hb).size
         have W23 := Lib.hid (within_on W22.out (within_of hb) W22.out.size (.inr (Nat.le_refl _)))
         have CO_23 := Lib.hid (CO_22.out.within (within_of hb) (by omega))
         have BX2_23 := Lib.hid (BX2_22.out.within (within_of hb) (by omega))
         have BB_23 := Lib.hid (BB_22.out.within (within_of hb) (by omega))
         have GO_23 := Lib.hid ((own_in ho).bars)
         have WR_23 := Lib.hid (hi5.reads)
         have HP3 := Lib.hid hP3
         have hn3 : l3.length ≤ 1048576 := by have := HP3.out.1; omega
         have hv3n : v3.length ≤ 1048576 := by omega
         have hce : (cirB p3 x3 y3 l3 v3 == cirB p3 x3 y3 l3 v3) = true := by simp
         clear ho hi5 hlo3 hb hP3 hxy3
         go_wp2_with fail
         have hal := new_below w23 (.cells #[.int .i64 p3, .slice (some ⟨a3, 0, none⟩) l3.length c3] 26)
         have Z24 := Lib.hid (within_of hal).size
         have W24 := Lib.hid (within_on W23.out (within_of hal) W23.out.size (.inr (Nat.le_refl _)))
         have CO_24 := Lib.hid (CO_23.out.within (within_of hal) (by omega))
         have BX2_24 := Lib.hid (BX2_23.out.within (within_of hal) (by omega))
         have BB_24 := Lib.hid (BB_23.out.within (within_of hal) (by omega))
         have GO_24 := Lib.hid (GO_23.out.within (within_of hal) (by omega))
         have WR_24 := Lib.hid (WR_23.out.within (within_of hal) (by omega))
         clear hal
         have hsz : (w23.alloc (.cells #[.int .i64 p3, .slice (some ⟨a3, 0, none⟩) l3.length c3] 26)).heap.size = w23.heap.size + 1 := by simp
         have Y24 := Lib.hid hsz
         clear hsz
         have BX3_24 := Lib.hid (box_new w23 p3 (.slice (some ⟨a3, 0, none⟩) l3.length c3) 26)
         generalize (w23.alloc (.cells #[.int .i64 p3, .slice (some ⟨a3, 0, none⟩) l3.length c3] 26)) = w24 at *
         have kk := BX3_24.out.2
         have hdr : Below w24.heap.size w24 w24.drew := (Below.refl _ _).drew
         have Z25 := Lib.hid (within_of hdr).size
         have W25 := Lib.hid (within_on W24.out (within_of hdr) W24.out.size (.inr (Nat.le_refl _)))
         have CO_25 := Lib.hid (CO_24.out.within (within_of hdr) (by omega))
         have BX2_25 := Lib.hid (BX2_24.out.within (within_of hdr) (by omega))
         have BB_25 := Lib.hid (BB_24.out.within (within_of hdr) (by omega))
         have GO_25 := Lib.hid (GO_24.out.within (within_of hdr) (by omega))
         have WR_25 := Lib.hid (WR_24.out.within (within_of hdr) (by omega))
         have BX3_25 := Lib.hid (BX3_24.out.within (within_of hdr) (by omega))
         clear hdr
         go_region_held3 (fun W' : World => W'.cell? ⟨w23.heap.size, 0, none⟩ = some (.int .i64 p3) ∧ W'.cell? ⟨w23.heap.size, 1, none⟩ = some (.slice (some ⟨a3, 0, none⟩) l3.length c3))
           (first | exact kk | exact BX3_26.out.2 | exact BX3_27.out.2 | fail)
           (first
             | (go_at_call 54; refine (implCir p3 x3 y3 l3 v3 (some ⟨a3, 0, none⟩) AW c3 cw _ _ _ GO_25.out.at WR_25.out hn3 hv3n).mono ?_; rintro e w26 ⟨rfl, hb⟩; have Z26 := Lib.hid (within_of hb).size; have W26 := Lib.hid (within_on W25.out (within_of hb) W25.out.size (.inr (Nat.le_refl _))); have CO_26 := Lib.hid (CO_25.out.within (within_of hb) (by omega)); have BX2_26 := Lib.hid (BX2_25.out.within (within_of hb) (by omega)); have BB_26 := Lib.hid (BB_25.out.within (within_of hb) (by omega)); have GO_26 := Lib.hid (GO_25.out.within (within_of hb) (by omega)); have WR_26 := Lib.hid (WR_25.out.within (within_of hb) (by omega)); have BX3_26 := Lib.hid (BX3_25.out.within (within_of hb) (by omega)); clear hb)
             | (go_at_call 57; refine (specCir p3 x3 y3 l3 v3 (some ⟨a3, 0, none⟩) AW c3 cw _ _ _ GO_26.out.at WR_26.out hn3 hv3n).mono ?_; rintro e w27 ⟨rfl, hb⟩; have Z27 := Lib.hid (within_of hb).size; have W27 := Lib.hid (within_on W26.out (within_of hb) W26.out.size (.inr (Nat.le_refl _))); have CO_27 := Lib.hid (CO_26.out.within (within_of hb) (by omega)); have BX2_27 := Lib.hid (BX2_26.out.within (within_of hb) (by omega)); have BB_27 := Lib.hid (BB_26.out.within (within_of hb) (by omega)); have GO_27 := Lib.hid (GO_26.out.within (within_of hb) (by omega)); have WR_27 := Lib.hid (WR_26.out.within (within_of hb) (by omega)); have BX3_27 := Lib.hid (BX3_26.out.within (within_of hb) (by omega)); clear hb)
             | fail)
         go_wp2_with fail
         go_ret
         exact ⟨by simp, W27.out⟩
   | false =>
     have HB3 := Lib.hid (show ∀ y ∈ (ciV p2 x2 y2 l2 z2), y ∉ briV p2 x2 y2 l2 from fun y hy => by rw [ciV_no hq] at hy; cases hy)
     clear hq
     go_wp2_with fail
     refine (sameInts_c (ciV p2 x2 y2 l2 z2) AX AY cx cy _ _ _ _ _ XR_19.out YR_19.out hxn).mono ?_
     rintro e w20 ⟨rfl, hb⟩
     have Z20 := Lib.hid (within_of hb).size
     have W20 := Lib.hid (within_on W19.out (within_of hb) W19.out.size (.inr (Nat.le_refl _)))
     have CO_20 := Lib.hid (CO_19.out.within (within_of hb) (by omega))
     have GN_20 := Lib.hid (GN_19.out.within (within_of hb) (by omega))
     have BX2_20 := Lib.hid (BX2_19.out.within (within_of hb) (by omega))
     have XR_20 := Lib.hid (XR_19.out.within (within_of hb) (by omega))
     have YR_20 := Lib.hid (YR_19.out.within (within_of hb) (by omega))
     clear hb
     go_wp2_with fail
     clear XR_20
     have hbl2 : (briV p2 x2 y2 l2).length ≤ 1048576 := Nat.le_trans (briV_len p2 x2 y2 l2) hn2
     obtain ⟨C, hC⟩ : ∃ C, (ciV p2 x2 y2 l2 z2) = C := ⟨_, rfl⟩
     rw [hC] at HB3 YR_20 hxn ⊢
     clear hC
     go_loopw [18] (fun i wr => ∃ k : Nat, k ≤ C.length ∧ i = .int .i64 k ∧ Below w20.heap.size w20 wr) (fun i _ => C.length - (intOf i).toNat)
     case atStart => exact ⟨0, Nat.zero_le _, rfl, Below.refl _ _⟩
     case round =>
       obtain ⟨k, hk, rfl, hb⟩ := hrel
       have Z21 := Lib.hid (within_of hb).size
       have W21 := Lib.hid (within_on W20.out (within_of hb) W20.out.size (.inr (Nat.le_refl _)))
       have CO_21 := Lib.hid (CO_20.out.within (within_of hb) (by omega))
       have GN_21 := Lib.hid (GN_20.out.within (within_of hb) (by omega))
       have BX2_21 := Lib.hid (BX2_20.out.within (within_of hb) (by omega))
       have YR_21 := Lib.hid (YR_20.out.within (within_of hb) (by omega))
       have BB_21 := Lib.hid (show BelF w20 wr from hb)
       clear hb
       by_cases hkl : k < C.length
       · have hki : (k : Int) < (C.length : Int) := by omega
         obtain ⟨bl, ol, hAY, _, hbl, hlc⟩ := YR_21.out.2 (by omega)
         have hyk := hlc k hkl
         have hmk := HB3.out _ (mem_getDI hkl)
         obtain ⟨xk, hxk⟩ : ∃ z, C.getD k 0 = z := ⟨_, rfl⟩
         rw [hxk] at hyk hmk
         clear hxk hlc
         have hbl3 := YR_21.out.1
         have HX_21 := Lib.hid (show HdF bl (ol + k) (.int .i64 xk) wr from ⟨by omega, hyk⟩)
         have HH2 := Lib.hid (fun (W : World) (AQ : Option Addr) (cq lo hi : Nat) (h : IntsIn W lo hi AQ (briV p2 x2 y2 l2)) => lhas_c (briV p2 x2 y2 l2) xk AQ cq lo hi W h hbl2)
         simp only [hmk, decide_false] at HH2
         have hslot : (Value.slice AY C.length cy) = Value.slice (some ⟨bl, ol, none⟩) C.length cy := by rw [hAY]
         clear hmk hAY hyk
         rw [hslot]
         clear hslot
         obtain ⟨g01, g02, g03⟩ := BX2_21.out
         have hdr : Below wr.heap.size wr wr.drew := (Below.refl _ _).drew
         have Z22 := Lib.hid (within_of hdr).size
         have W22 := Lib.hid (within_on W21.out (within_of hdr) W21.out.size (.inr (Nat.le_refl _)))
         have CO_22 := Lib.hid (CO_21.out.within (within_of hdr) (by omega))
         have GN_22 := Lib.hid (GN_21.out.within (within_of hdr) (by omega))
         have BX2_22 := Lib.hid (BX2_21.out.within (within_of hdr) (by omega))
         have YR_22 := Lib.hid (YR_21.out.within (within_of hdr) (by omega))
         have BB_22 := Lib.hid (BB_21.out.within (within_of hdr) (by omega))
         have HX_22 := Lib.hid (HX_21.out.within (within_of hdr) (by omega))
         clear hdr
         go_wp2_with fail
         go_region_held3 (fun W' : World => W'.cell? ⟨w16.heap.size, 0, none⟩ = some (.int .i64 p2) ∧ W'.cell? ⟨w16.heap.size, 1, none⟩ = some (.slice (some ⟨a2, 0, none⟩) l2.length c2) ∧ W'.cell? ⟨bl, ol + k, none⟩ = some (.int .i64 xk))
           (first | exact ⟨BX2_22.out.2.1, BX2_22.out.2.2, HX_22.out.2⟩ | exact ⟨BX2_23.out.2.1, BX2_23.out.2.2, HX_23.out.2⟩ | fail)
           (first
             | (go_at_call 50; refine (specBri p2 x2 y2 l2 (some ⟨a2, 0, none⟩) c2 _ GN_22.out.at hn2 ⟨_, rfl⟩ HOC2.out).mono ?_; rintro e w23 ⟨AQ, cq, rfl, ho, hb⟩; have Z23 := Lib.hid (within_of hb).size; have W23 := Lib.hid (within_on W22.out (within_of hb) W22.out.size (.inr (Nat.le_refl _))); have CO_23 := Lib.hid (CO_22.out.within (within_of hb) (by omega)); have GN_23 := Lib.hid (GN_22.out.within (within_of hb) (by omega)); have BX2_23 := Lib.hid (BX2_22.out.within (within_of hb) (by omega)); have YR_23 := Lib.hid (YR_22.out.within (within_of hb) (by omega)); have BB_23 := Lib.hid (BB_22.out.within (within_of hb) (by omega)); have HX_23 := Lib.hid (HX_22.out.within (within_of hb) (by omega)); have QR_23 := Lib.hid ho.reads; clear ho hb)
             | (go_at_call 55; refine (HH2.out _ AQ cq _ _ QR_23.out).mono ?_; rintro e w24 ⟨rfl, rfl⟩)
             | fail)
         go_wp2_with fail
         go_roundw
         case rel => exact ⟨k + 1, by omega, by go_num, BB_23.out⟩
         case measure => simp [intOf]; omega
       · obtain rfl : k = C.length := by omega
         go_wp2_with fail
         clear YR_21
         clear GN_21
         refine (drawCir_c _ A len cap zs (CO_21.out.up W21.out.size) hl48).mono ?_
         rintro e w22 ⟨p3, a3, c3, l3, x3, y3, AW, cw, v3, lo3, hi3, hP3, hxy3, hv3, rfl, ho, hi5, hlo3, hb⟩
         have Z22 := Lib.hid (within_of hb).size
         have W22 := Lib.hid (within_on W21.out (within_of hb) W21.out.size (.inr (Nat.le_refl _)))
         have CO_22 := Lib.hid (CO_21.out.within (within_of hb) (by omega))
         have BX2_22 := Lib.hid (BX2_21.out.within (within_of hb) (by omega))
         have BB_22 := Lib.hid (BB_21.out.within (within_of hb) (by omega))
         have GO_22 := Lib.hid ((own_in ho).bars)
         have WR_22 := Lib.hid (hi5.reads)
         have HP3 := Lib.hid hP3
         have hn3 : l3.length ≤ 1048576 := by have := HP3.out.1; omega
         have hv3n : v3.length ≤ 1048576 := by omega
         have hce : (cirB p3 x3 y3 l3 v3 == cirB p3 x3 y3 l3 v3) = true := by simp
         clear ho hi5 hlo3 hb hP3 hxy3
         go_wp2_with fail
         have hal := new_below w22 (.cells #[.int .i64 p3, .slice (some ⟨a3, 0, none⟩) l3.length c3] 26)
         have Z23 := Lib.hid (within_of hal).size
         have W23 := Lib.hid (within_on W22.out (within_of hal) W22.out.size (.inr (Nat.le_refl _)))
         have CO_23 := Lib.hid (CO_22.out.within (within_of hal) (by omega))
         have BX2_23 := Lib.hid (BX2_22.out.within (within_of hal) (by omega))
         have BB_23 := Lib.hid (BB_22.out.within (within_of hal) (by omega))
         have GO_23 := Lib.hid (GO_22.out.within (within_of hal) (by omega))
         have WR_23 := Lib.hid (WR_22.out.within (within_of hal) (by omega))
         clear hal
         have hsz : (w22.alloc (.cells #[.int .i64 p3, .slice (some ⟨a3, 0, none⟩) l3.length c3] 26)).heap.size = w22.heap.size + 1 := by simp
         have Y23 := Lib.hid hsz
         clear hsz
         have BX3_23 := Lib.hid (box_new w22 p3 (.slice (some ⟨a3, 0, none⟩) l3.length c3) 26)
         generalize (w22.alloc (.cells #[.int .i64 p3, .slice (some ⟨a3, 0, none⟩) l3.length c3] 26)) = w23 at *
         have kk := BX3_23.out.2
         have hdr : Below w23.heap.size w23 w23.drew := (Below.refl _ _).drew
         have Z24 := Lib.hid (within_of hdr).size
         have W24 := Lib.hid (within_on W23.out (within_of hdr) W23.out.size (.inr (Nat.le_refl _)))
         have CO_24 := Lib.hid (CO_23.out.within (within_of hdr) (by omega))
         have BX2_24 := Lib.hid (BX2_23.out.within (within_of hdr) (by omega))
         have BB_24 := Lib.hid (BB_23.out.within (within_of hdr) (by omega))
         have GO_24 := Lib.hid (GO_23.out.within (within_of hdr) (by omega))
         have WR_24 := Lib.hid (WR_23.out.within (within_of hdr) (by omega))
         have BX3_24 := Lib.hid (BX3_23.out.within (within_of hdr) (by omega))
         clear hdr
         go_region_held3 (fun W' : World => W'.cell? ⟨w22.heap.size, 0, none⟩ = some (.int .i64 p3) ∧ W'.cell? ⟨w22.heap.size, 1, none⟩ = some (.slice (some ⟨a3, 0, none⟩) l3.length c3))
           (first | exact kk | exact BX3_25.out.2 | exact BX3_26.out.2 | fail)
           (first
             | (go_at_call 54; refine (implCir p3 x3 y3 l3 v3 (some ⟨a3, 0, none⟩) AW c3 cw _ _ _ GO_24.out.at WR_24.out hn3 hv3n).mono ?_; rintro e w25 ⟨rfl, hb⟩; have Z25 := Lib.hid (within_of hb).size; have W25 := Lib.hid (within_on W24.out (within_of hb) W24.out.size (.inr (Nat.le_refl _))); have CO_25 := Lib.hid (CO_24.out.within (within_of hb) (by omega)); have BX2_25 := Lib.hid (BX2_24.out.within (within_of hb) (by omega)); have BB_25 := Lib.hid (BB_24.out.within (within_of hb) (by omega)); have GO_25 := Lib.hid (GO_24.out.within (within_of hb) (by omega)); have WR_25 := Lib.hid (WR_24.out.within (within_of hb) (by omega)); have BX3_25 := Lib.hid (BX3_24.out.within (within_of hb) (by omega)); clear hb)
             | (go_at_call 57; refine (specCir p3 x3 y3 l3 v3 (some ⟨a3, 0, none⟩) AW c3 cw _ _ _ GO_25.out.at WR_25.out hn3 hv3n).mono ?_; rintro e w26 ⟨rfl, hb⟩; have Z26 := Lib.hid (within_of hb).size; have W26 := Lib.hid (within_on W25.out (within_of hb) W25.out.size (.inr (Nat.le_refl _))); have CO_26 := Lib.hid (CO_25.out.within (within_of hb) (by omega)); have BX2_26 := Lib.hid (BX2_25.out.within (within_of hb) (by omega)); have BB_26 := Lib.hid (BB_25.out.within (within_of hb) (by omega)); have GO_26 := Lib.hid (GO_25.out.within (within_of hb) (by omega)); have WR_26 := Lib.hid (WR_25.out.within (within_of hb) (by omega)); have BX3_26 := Lib.hid (BX3_25.out.within (within_of hb) (by omega)); clear hb)
             | fail)
         go_wp2_with fail
         go_ret
         exact ⟨by simp, W26.out⟩
end Go.Proofs.Ytdkpmaahinbhlaa
