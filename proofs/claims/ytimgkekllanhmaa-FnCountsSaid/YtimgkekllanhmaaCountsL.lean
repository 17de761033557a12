/- That the law on counts returns true: for every code. No condition. -/
import Derived.Test.YtimgkekllanhmaaDraw3
import Derived.Test.YtimgkekllanhmaaCntM
import Derived.Test.YtimgkekllanhmaaTight
import Derived.Test.YtimgkekllanhmaaFree
import Derived.Test.YtimgkekllanhmaaSpanI
import Derived.Test.YtimgkekllanhmaaSame
import Derived.Test.YtimgkekllanhmaaBig
import Derived.Deep.RegionHeld3
import Derived.Deep.DeepCutAuto
namespace Go.Proofs.Ytimgkekllanhmaa
open Go.RowKit

theorem CodeIs.within {W W' : World} {B lo hi : Nat} {A : Option Addr} {len : Nat} {zs : Nat → Int} (h : CodeIs W B A len zs) (hw : Within lo hi W W') (hd : B ≤ lo ∨ hi ≤ 0) : CodeIs W' B A len zs :=
  ⟨h.1, fun hl => by
    obtain ⟨b, off, e, hlt, hc⟩ := h.2 hl
    have hb : b < W.heap.size := World.block_lt_of_cell? W _ (hc 0 hl)
    exact ⟨b, off, e, hlt, fun k hk => (World.cell?_of_block (a := ⟨b, off + k, none⟩) (hw.block b hb (by omega))).trans (hc k hk)⟩⟩
theorem CodeIs.upto {W : World} {B B' : Nat} {A : Option Addr} {len : Nat} {zs : Nat → Int} (h : CodeIs W B A len zs) (hB : B ≤ B') : CodeIs W B' A len zs :=
  ⟨h.1, fun hl => by
    obtain ⟨b, off, e, hlt, hc⟩ := h.2 hl
    exact ⟨b, off, e, Nat.lt_of_lt_of_le hlt hB, hc⟩⟩
theorem RetZ.within {W W' : World} {r lo hi : Nat} (h : RetZ W r) (hw : Within lo hi W W') (hd : r < lo ∨ hi ≤ r) : RetZ W' r :=
  h.block (hw.block r (World.block_lt_of_cell? W _ h.1.1) hd)
theorem within_set2 {W : World} (r : Nat) (u v : Value) (_h : RetZ W r) : Within r (r + 1) W ((W.setCell ⟨r, 0, none⟩ u).setCell ⟨r, 1, none⟩ v) := by
  have hg := (grownBy_set W r 0 u).trans_ (grownBy_set (W.setCell ⟨r, 0, none⟩ u) r 1 v)
  exact ⟨hg.os, hg.tape, hg.output, hg.size, fun k hk hd => hg.block k hk (by simp; omega)⟩
theorem own_cap {W : World} {base a c : Nat} {l : List (Int × Int)} (h : W.ownsRow base 58 2 (.slice (some ⟨a, 0, none⟩) l.length c) l.length (barCells l)) : l.length ≤ c := by
  rcases h.2 with ⟨h1, _⟩ | ⟨g, c', cur, h1, h2, _⟩
  · cases h1
  · cases h1
    omega

set_option maxHeartbeats 8000000 in
set_option maxRecDepth 100000 in
theorem lawCounts0 (w : World) (A : Option Addr) (len cap : Nat) (zs : Nat → Int) (hc : CodeIs w w.heap.size A len zs) (hbig : (len : Int) ≤ 1048576) :
    Calls Try.prog 9 #[.slice A len cap] w fun e w' => e = .returned (.bool true) ∧ Below w.heap.size w w' := by
  have hc0 := Lib.hid hc
  have CO_0 := Lib.hid hc
  have hl48 : len ≤ 140737488351232 := by omega
  clear hc
  have W0 := Lib.hid (Below.refl w.heap.size w)
  go_enter Try.func9, Try.ntmps9
  go_wp2_with fail
  refine (big_no w A len cap hbig).mono ?_
  rintro e w' ⟨rfl, rfl⟩
  go_wp2_with fail
  refine (drawSparse_c w A len cap zs CO_0.out hl48).mono ?_
  rintro e w1 ⟨p, a, c, l, x, y, hP, hxy, rfl, ho, hb⟩
  have Z1 := Lib.hid (within_of hb).size
  have W1 := Lib.hid (within_on W0.out (within_of hb) W0.out.size (.inr (Nat.le_refl _)))
  have CO_1 := Lib.hid (CO_0.out.within (within_of hb) (by omega))
  have GR_1 := Lib.hid ((own_in ho).bars)
  have HP := Lib.hid hP
  have hn : l.length ≤ 1048576 := by have := HP.out.1; omega
  have hcl : l.length ≤ c := own_cap ho
  have hxs := hxy.1
  have hys := hxy.2
  unfold Small at hxs hys
  clear ho hb hP hxy
  obtain ⟨OL, hOL⟩ : ∃ z, z = overL p l x y := ⟨_, rfl⟩
  obtain ⟨bo, hbo⟩ : ∃ z, z = overB p l x y := ⟨_, rfl⟩
  obtain ⟨bs, hbs⟩ : ∃ z, z = sparseB p x y l := ⟨_, rfl⟩
  obtain ⟨bt, hbt⟩ : ∃ z, z = tightB p x y l := ⟨_, rfl⟩
  obtain ⟨fv, hfv⟩ : ∃ z, z = freeV p x y l := ⟨_, rfl⟩
  have HOI : ∀ (A : Option Addr) (cap : Nat) (W : World), BarsAt W W.heap.size A l → Calls Try.prog 25 #[.agg #[.int .i64 p, .slice A l.length cap], .int .i64 x, .int .i64 y] W (IntsOB W OL bo) := by rw [hOL, hbo]; exact fun A cap W h => implOver p x y l A cap W h hn
  have HOS : ∀ (A : Option Addr) (cap : Nat) (W : World), BarsAt W W.heap.size A l → Calls Try.prog 24 #[.agg #[.int .i64 p, .slice A l.length cap], .int .i64 x, .int .i64 y] W (IntsOB W OL bo) := by rw [hOL, hbo]; exact fun A cap W h => specOver p x y l A cap W h hn
  have HSI : ∀ (A : Option Addr) (cap : Nat) (W : World), BarsAt W W.heap.size A l → Calls Try.prog 21 #[.agg #[.int .i64 p, .slice A l.length cap], .int .i64 x, .int .i64 y] W fun e w' => e = .returned (.bool bs) ∧ Below W.heap.size W w' := by rw [hbs]; exact fun A cap W h => implSparse p x y l A cap W h hn
  have HSS : ∀ (A : Option Addr) (cap : Nat) (W : World), BarsAt W W.heap.size A l → Calls Try.prog 20 #[.agg #[.int .i64 p, .slice A l.length cap], .int .i64 x, .int .i64 y] W fun e w' => e = .returned (.bool bs) ∧ Below W.heap.size W w' := by rw [hbs]; exact fun A cap W h => specSparse p x y l A cap W h hn
  have HTI : ∀ (A : Option Addr) (cap : Nat) (W : World), BarsAt W W.heap.size A l → Calls Try.prog 23 #[.agg #[.int .i64 p, .slice A l.length cap], .int .i64 x, .int .i64 y] W fun e w' => e = .returned (.bool bt) ∧ Below W.heap.size W w' := by rw [hbt]; exact fun A cap W h => implTight p x y l A cap W h hn
  have HTS : ∀ (A : Option Addr) (cap : Nat) (W : World), BarsAt W W.heap.size A l → Calls Try.prog 22 #[.agg #[.int .i64 p, .slice A l.length cap], .int .i64 x, .int .i64 y] W fun e w' => e = .returned (.bool bt) ∧ Below W.heap.size W w' := by rw [hbt]; exact fun A cap W h => specTight p x y l A cap W h hn
  have HFI : ∀ (A : Option Addr) (cap : Nat) (W : World), BarsAt W W.heap.size A l → Calls Try.prog 27 #[.agg #[.int .i64 p, .slice A l.length cap], .int .i64 x, .int .i64 y] W fun e w' => e = .returned (.int .i64 fv) ∧ Below W.heap.size W w' := by rw [hfv]; exact fun A cap W h => implFree p x y l A cap W h hn
  have HFS : ∀ (A : Option Addr) (cap : Nat) (W : World), BarsAt W W.heap.size A l → Calls Try.prog 26 #[.agg #[.int .i64 p, .slice A l.length cap], .int .i64 x, .int .i64 y] W fun e w' => e = .returned (.int .i64 fv) ∧ Below W.heap.size W w' := by rw [hfv]; exact fun A cap W h => specFree p x y l A cap W h hn
  have hOL8 : OL.length ≤ 8 := by rw [hOL]; exact overL_len p l x y
  have HWO := Lib.hid (show WfI OL by rw [hOL]; exact overL_wf p x y l)
  have HSM := Lib.hid HP.out.2.wf
  have HTRUE := Lib.hid (show bo = true → bs = false ∧ (x * (OL.length : Int) - y < ((spanL l (memS OL)).length : Int)) ∧ 0 ≤ x * (OL.length : Int) ∧ x * (OL.length : Int) ≤ 24 by intro h; rw [hbo] at h; rw [hbs, hOL]; have h2 := over_spans h; exact ⟨over_sparse h, h2.1, h2.2.1⟩)
  have HREM := Lib.hid (show bs = true → (∀ i, sparseB p x y (remL p i l) = true) ∧ (x = 2 → y = 3 → sparseB p 2 2 l = true) by intro h; rw [hbs] at h; exact ⟨fun i => sparse_rem h i, fun h1 h2 => by subst h1; subst h2; exact sparse_22 h⟩)
  clear hOL hbo hbs hbt hfv
  go_wp2_with fail
  have hal := new_below w1 (.cells #[.int .i64 p, .slice (some ⟨a, 0, none⟩) l.length c] 30)
  have Z2 := Lib.hid (within_of hal).size
  have W2 := Lib.hid (within_on W1.out (within_of hal) W1.out.size (.inr (Nat.le_refl _)))
  have CO_2 := Lib.hid (CO_1.out.within (within_of hal) (by omega))
  have GR_2 := Lib.hid (GR_1.out.within (within_of hal) (by omega))
  clear hal
  have hsz : (w1.alloc (.cells #[.int .i64 p, .slice (some ⟨a, 0, none⟩) l.length c] 30)).heap.size = w1.heap.size + 1 := by simp
  have Y2 := Lib.hid hsz
  clear hsz
  have BX_2 := Lib.hid (box_new w1 p (.slice (some ⟨a, 0, none⟩) l.length c) 30)
  generalize (w1.alloc (.cells #[.int .i64 p, .slice (some ⟨a, 0, none⟩) l.length c] 30)) = w2 at *
  have HRM : bs = true → ∀ (i : Int) (W : World), BarsAt W W.heap.size (some ⟨a, 0, none⟩) l → Calls Try.prog 33 #[.agg #[.int .i64 p, .slice (some ⟨a, 0, none⟩) l.length c], .int .i64 i] W fun e w' => ∃ R rr A2 c2, (sparseB p x y R = true ∧ R.length ≤ 1048576) ∧ e = .returned (.tuple #[.agg #[.int .i64 p, .slice A2 R.length c2], .bool rr]) ∧ OwnIn w' W.heap.size w'.heap.size A2 c2 R ∧ Below W.heap.size W w' := fun h i W hW => (specRemoveO p i l (some ⟨a, 0, none⟩) c W hW hn ⟨_, rfl⟩ hcl).mono fun _ _ ⟨A2, c2, e, r1, r2⟩ => ⟨_, _, A2, c2, ⟨(HREM.out h).1 i, remL_len p i l hn⟩, e, r1, r2⟩
  cases hbo : bo
  · cases hbs : bs
    · rw [hbo] at HOI HOS HTRUE
      rw [hbs] at HSI HSS HREM HRM
      have KOI := Lib.hid HOI
      have KOS := Lib.hid HOS
      have KSI := Lib.hid HSI
      have KSS := Lib.hid HSS
      have KTI := Lib.hid HTI
      have KTS := Lib.hid HTS
      have KFI := Lib.hid HFI
      have KFS := Lib.hid HFS
      clear HOI HOS HSI HSS HTI HTS HFI HFS
      clear HRM
      refine (KOI.out (some ⟨a, 0, none⟩) c _ GR_2.out.at).mono ?_
      rintro e w3 ⟨AS, cs, rfl, hs, hb⟩
      have Z3 := Lib.hid (within_of hb).size
      have W3 := Lib.hid (within_on W2.out (within_of hb) W2.out.size (.inr (Nat.le_refl _)))
      have CO_3 := Lib.hid (CO_2.out.within (within_of hb) (by omega))
      have GR_3 := Lib.hid (GR_2.out.within (within_of hb) (by omega))
      have BX_3 := Lib.hid (BX_2.out.within (within_of hb) (by omega))
      have SR_3 := Lib.hid (hs.reads)
      clear hs hb
      obtain ⟨g01, g02, g03⟩ := BX_3.out
      go_wp2_with fail
      clear g01 g02 g03
      refine (KOS.out (some ⟨a, 0, none⟩) c _ GR_3.out.at).mono ?_
      rintro e w4 ⟨AT, ct, rfl, hs, hb⟩
      have Z4 := Lib.hid (within_of hb).size
      have W4 := Lib.hid (within_on W3.out (within_of hb) W3.out.size (.inr (Nat.le_refl _)))
      have CO_4 := Lib.hid (CO_3.out.within (within_of hb) (by omega))
      have GR_4 := Lib.hid (GR_3.out.within (within_of hb) (by omega))
      have BX_4 := Lib.hid (BX_3.out.within (within_of hb) (by omega))
      have SR_4 := Lib.hid (SR_3.out.within (within_of hb) (by omega))
      have TR_4 := Lib.hid (hs.reads)
      clear hs hb
      obtain ⟨g01, g02, g03⟩ := BX_4.out
      go_wp2_with fail
      clear g01 g02 g03
      refine (KSI.out (some ⟨a, 0, none⟩) c _ GR_4.out.at).mono ?_
      rintro e w5 ⟨rfl, hb⟩
      have Z5 := Lib.hid (within_of hb).size
      have W5 := Lib.hid (within_on W4.out (within_of hb) W4.out.size (.inr (Nat.le_refl _)))
      have CO_5 := Lib.hid (CO_4.out.within (within_of hb) (by omega))
      have GR_5 := Lib.hid (GR_4.out.within (within_of hb) (by omega))
      have BX_5 := Lib.hid (BX_4.out.within (within_of hb) (by omega))
      have SR_5 := Lib.hid (SR_4.out.within (within_of hb) (by omega))
      have TR_5 := Lib.hid (TR_4.out.within (within_of hb) (by omega))
      clear hb
      have hdr : Below w5.heap.size w5 w5.drew := (Below.refl _ _).drew
      have Z6 := Lib.hid (within_of hdr).size
      have W6 := Lib.hid (within_on W5.out (within_of hdr) W5.out.size (.inr (Nat.le_refl _)))
      have CO_6 := Lib.hid (CO_5.out.within (within_of hdr) (by omega))
      have GR_6 := Lib.hid (GR_5.out.within (within_of hdr) (by omega))
      have BX_6 := Lib.hid (BX_5.out.within (within_of hdr) (by omega))
      have SR_6 := Lib.hid (SR_5.out.within (within_of hdr) (by omega))
      have TR_6 := Lib.hid (TR_5.out.within (within_of hdr) (by omega))
      clear hdr
      obtain ⟨g01, g02, g03⟩ := BX_6.out
      go_wp2_with fail
      clear g01 g02 g03
      refine wp_region_held_drew (S := (fun W' : World => W'.cell? ⟨w1.heap.size, 0, none⟩ = some (.int .i64 p) ∧ W'.cell? ⟨w1.heap.size, 1, none⟩ = some (.slice (some ⟨a, 0, none⟩) l.length c))) (by kernel_rfl) ?_ (fun hHeld => ?_)
      · exact BX_6.out.2
      refine wpAnyH_take (i := 0) (v := .bool false) rfl (by kernel_rfl) (by kernel_rfl) (by kernel_rfl) (fun _ _ _ h => h) (Or.inl ⟨by kernel_rfl, fun w hSw => by (try dsimp only at hSw); go_simp; all_goals omega⟩) (by assumption) ?_
      try simp only [Act.put, List.setIfInBounds_toArray]
      refine wpAnyH_take (i := 1) (v := .bool false) rfl (by kernel_rfl) (by kernel_rfl) (by kernel_rfl) (fun _ _ _ h => h) (Or.inl ⟨by kernel_rfl, fun w hSw => by (try dsimp only at hSw); go_simp; all_goals omega⟩) (by assumption) ?_
      try simp only [Act.put]
      refine wpAnyH_take (i := 2) (v := .bool false) rfl (by kernel_rfl) (by kernel_rfl) (by kernel_rfl) (fun _ _ _ h => h) (Or.inl ⟨by kernel_rfl, fun w hSw => by (try dsimp only at hSw); go_simp; all_goals omega⟩) (by assumption) ?_
      try simp only [Act.put]
      refine wpAnyH_take (i := 3) (v := .bool false) rfl (by kernel_rfl) (by kernel_rfl) (by kernel_rfl) (fun _ _ _ h => h) (Or.inl ⟨by kernel_rfl, fun w hSw => by (try dsimp only at hSw); go_simp; all_goals omega⟩) (by assumption) ?_
      try simp only [Act.put]
      refine wpAnyH_take (i := 4) (v := .slice AS OL.length cs) rfl (by kernel_rfl) (by kernel_rfl) (by kernel_rfl) (fun _ _ _ h => h) (Or.inl ⟨by kernel_rfl, fun w hSw => by (try dsimp only at hSw); go_simp; all_goals omega⟩) (by assumption) ?_
      try simp only [Act.put]
      refine wpAnyH_take (i := 5) (v := .slice AT OL.length ct) rfl (by kernel_rfl) (by kernel_rfl) (by kernel_rfl) (fun _ _ _ h => h) (Or.inl ⟨by kernel_rfl, fun w hSw => by (try dsimp only at hSw); go_simp; all_goals omega⟩) (by assumption) ?_
      try simp only [Act.put]
      refine wpAnyH_ready (rs := [6]) (by kernel_rfl) (by simp) (AllReadyH.cons rfl (fun K hK => ?_) AllReadyH.nil)
      go_simp
      go_at_call 32
      refine (sameInts_c OL AS AT cs ct _ _ _ _ _ SR_6.out TR_6.out (by omega)).mono ?_
      rintro e w7 ⟨rfl, hb⟩
      have Z7 := Lib.hid (within_of hb).size
      have W7 := Lib.hid (within_on W6.out (within_of hb) W6.out.size (.inr (Nat.le_refl _)))
      have CO_7 := Lib.hid (CO_6.out.within (within_of hb) (by omega))
      have GR_7 := Lib.hid (GR_6.out.within (within_of hb) (by omega))
      have BX_7 := Lib.hid (BX_6.out.within (within_of hb) (by omega))
      have SR_7 := Lib.hid (SR_6.out.within (within_of hb) (by omega))
      have TR_7 := Lib.hid (TR_6.out.within (within_of hb) (by omega))
      clear hb
      refine hK.out _ _ BX_7.out.2 (fun hHeld => ?_)
      clear hK K
      try simp only [Act.put, List.setIfInBounds_toArray, List.set_cons_zero, List.set_cons_succ]
      refine wpAnyH_take (i := 7) (v := .bool false) rfl (by kernel_rfl) (by kernel_rfl) (by kernel_rfl) (fun _ _ _ h => h) (Or.inl ⟨by kernel_rfl, fun w hSw => by (try dsimp only at hSw); go_simp; all_goals omega⟩) (by assumption) ?_
      try simp only [Act.put, List.setIfInBounds_toArray]
      refine wpAnyH_take (i := 8) (v := .bool false) rfl (by kernel_rfl) (by kernel_rfl) (by kernel_rfl) (fun _ _ _ h => h) (Or.inl ⟨by kernel_rfl, fun w hSw => by (try dsimp only at hSw); go_simp; all_goals omega⟩) (by assumption) ?_
      try simp only [Act.put]
      refine wpAnyH_take (i := 9) (v := .bool false) rfl (by kernel_rfl) (by kernel_rfl) (by kernel_rfl) (fun _ _ _ h => h) (Or.inl ⟨by kernel_rfl, fun w hSw => by (try dsimp only at hSw); go_simp; all_goals omega⟩) (by assumption) ?_
      try simp only [Act.put]
      refine wpAnyH_take (i := 10) (v := .bool false) rfl (by kernel_rfl) (by kernel_rfl) (by kernel_rfl) (fun _ _ _ h => h) (Or.inl ⟨by kernel_rfl, fun w hSw => by (try dsimp only at hSw); go_simp; all_goals omega⟩) (by assumption) ?_
      try simp only [Act.put]
      refine wpAnyH_take (i := 11) (v := .agg #[.int .i64 p, .slice (some ⟨a, 0, none⟩) l.length c]) rfl (by kernel_rfl) (by kernel_rfl) (by kernel_rfl) (fun _ _ _ h => h) (Or.inl ⟨by kernel_rfl, fun w hSw => by (try dsimp only at hSw); go_simp; all_goals omega⟩) (by assumption) ?_
      try simp only [Act.put]
      refine wpAnyH_take (i := 12) (v := .int .i64 x) rfl (by kernel_rfl) (by kernel_rfl) (by kernel_rfl) (fun _ _ _ h => h) (Or.inl ⟨by kernel_rfl, fun w hSw => by (try dsimp only at hSw); go_simp; all_goals omega⟩) (by assumption) ?_
      try simp only [Act.put]
      refine wpAnyH_take (i := 13) (v := .int .i64 y) rfl (by kernel_rfl) (by kernel_rfl) (by kernel_rfl) (fun _ _ _ h => h) (Or.inl ⟨by kernel_rfl, fun w hSw => by (try dsimp only at hSw); go_simp; all_goals omega⟩) (by assumption) ?_
      try simp only [Act.put]
      refine wpAnyH_ready (rs := [14]) (by kernel_rfl) (by simp) (AllReadyH.cons rfl (fun K hK => ?_) AllReadyH.nil)
      go_simp
      go_at_call 20
      refine (KSS.out (some ⟨a, 0, none⟩) c _ GR_7.out.at).mono ?_
      rintro e w8 ⟨rfl, hb⟩
      have Z8 := Lib.hid (within_of hb).size
      have W8 := Lib.hid (within_on W7.out (within_of hb) W7.out.size (.inr (Nat.le_refl _)))
      have CO_8 := Lib.hid (CO_7.out.within (within_of hb) (by omega))
      have GR_8 := Lib.hid (GR_7.out.within (within_of hb) (by omega))
      have BX_8 := Lib.hid (BX_7.out.within (within_of hb) (by omega))
      have SR_8 := Lib.hid (SR_7.out.within (within_of hb) (by omega))
      have TR_8 := Lib.hid (TR_7.out.within (within_of hb) (by omega))
      clear hb
      refine hK.out _ _ BX_8.out.2 (fun hHeld => ?_)
      clear hK K
      try simp only [Act.put, List.setIfInBounds_toArray, List.set_cons_zero, List.set_cons_succ]
      refine wpAnyH_take (i := 15) (v := .bool false) rfl (by kernel_rfl) (by kernel_rfl) (by kernel_rfl) (fun _ _ _ h => h) (Or.inl ⟨by kernel_rfl, fun w hSw => by (try dsimp only at hSw); go_simp; all_goals omega⟩) (by assumption) ?_
      try simp only [Act.put, List.setIfInBounds_toArray]
      refine wpAnyH_take (i := 16) (v := .bool false) rfl (by kernel_rfl) (by kernel_rfl) (by kernel_rfl) (fun _ _ _ h => h) (Or.inl ⟨by kernel_rfl, fun w hSw => by (try dsimp only at hSw); go_simp; all_goals omega⟩) (by assumption) ?_
      try simp only [Act.put]
      refine wpAnyH_take (i := 17) (v := .bool false) rfl (by kernel_rfl) (by kernel_rfl) (by kernel_rfl) (fun _ _ _ h => h) (Or.inl ⟨by kernel_rfl, fun w hSw => by (try dsimp only at hSw); go_simp; all_goals omega⟩) (by assumption) ?_
      try simp only [Act.put]
      refine wpAnyH_take (i := 18) (v := .bool false) rfl (by kernel_rfl) (by kernel_rfl) (by kernel_rfl) (fun _ _ _ h => h) (Or.inl ⟨by kernel_rfl, fun w hSw => by (try dsimp only at hSw); go_simp; all_goals omega⟩) (by assumption) ?_
      try simp only [Act.put]
      refine wpAnyH_take (i := 19) (v := .bool false) rfl (by kernel_rfl) (by kernel_rfl) (by kernel_rfl) (fun _ _ _ h => h) (Or.inl ⟨by kernel_rfl, fun w hSw => by (try dsimp only at hSw); go_simp; all_goals omega⟩) (by assumption) ?_
      try simp only [Act.put]
      refine wpAnyH_take (i := 20) (v := undef) rfl (by kernel_rfl) (by kernel_rfl) (by kernel_rfl) (fun _ _ _ h => h) (Or.inr ⟨by kernel_rfl, rfl⟩) (by assumption) ?_
      try simp only [Act.put]
      refine wpAnyH_take (i := 21) (v := .bool false) rfl (by kernel_rfl) (by kernel_rfl) (by kernel_rfl) (fun _ _ _ h => h) (Or.inl ⟨by kernel_rfl, fun w hSw => by (try dsimp only at hSw); go_simp; all_goals omega⟩) (by assumption) ?_
      try simp only [Act.put]
      refine wpAnyH_take (i := 22) (v := .bool false) rfl (by kernel_rfl) (by kernel_rfl) (by kernel_rfl) (fun _ _ _ h => h) (Or.inl ⟨by kernel_rfl, fun w hSw => by (try dsimp only at hSw); go_simp; all_goals omega⟩) (by assumption) ?_
      try simp only [Act.put]
      refine wpAnyH_take (i := 23) (v := .bool false) rfl (by kernel_rfl) (by kernel_rfl) (by kernel_rfl) (fun _ _ _ h => h) (Or.inl ⟨by kernel_rfl, fun w hSw => by (try dsimp only at hSw); go_simp; all_goals omega⟩) (by assumption) ?_
      try simp only [Act.put]
      refine wpAnyH_take (i := 24) (v := .agg #[.int .i64 p, .slice (some ⟨a, 0, none⟩) l.length c]) rfl (by kernel_rfl) (by kernel_rfl) (by kernel_rfl) (fun _ _ _ h => h) (Or.inl ⟨by kernel_rfl, fun w hSw => by (try dsimp only at hSw); go_simp; all_goals omega⟩) (by assumption) ?_
      try simp only [Act.put]
      refine wpAnyH_take (i := 25) (v := .int .i64 x) rfl (by kernel_rfl) (by kernel_rfl) (by kernel_rfl) (fun _ _ _ h => h) (Or.inl ⟨by kernel_rfl, fun w hSw => by (try dsimp only at hSw); go_simp; all_goals omega⟩) (by assumption) ?_
      try simp only [Act.put]
      refine wpAnyH_take (i := 26) (v := .int .i64 y) rfl (by kernel_rfl) (by kernel_rfl) (by kernel_rfl) (fun _ _ _ h => h) (Or.inl ⟨by kernel_rfl, fun w hSw => by (try dsimp only at hSw); go_simp; all_goals omega⟩) (by assumption) ?_
      try simp only [Act.put]
      refine wpAnyH_take (i := 28) (v := .agg #[.int .i64 p, .slice (some ⟨a, 0, none⟩) l.length c]) rfl (by kernel_rfl) (by kernel_rfl) (by kernel_rfl) (fun _ _ _ h => h) (Or.inl ⟨by kernel_rfl, fun w hSw => by (try dsimp only at hSw); go_simp; all_goals omega⟩) (by assumption) ?_
      try simp only [Act.put]
      refine wpAnyH_take (i := 29) (v := .int .i64 x) rfl (by kernel_rfl) (by kernel_rfl) (by kernel_rfl) (fun _ _ _ h => h) (Or.inl ⟨by kernel_rfl, fun w hSw => by (try dsimp only at hSw); go_simp; all_goals omega⟩) (by assumption) ?_
      try simp only [Act.put]
      refine wpAnyH_take (i := 30) (v := .int .i64 y) rfl (by kernel_rfl) (by kernel_rfl) (by kernel_rfl) (fun _ _ _ h => h) (Or.inl ⟨by kernel_rfl, fun w hSw => by (try dsimp only at hSw); go_simp; all_goals omega⟩) (by assumption) ?_
      try simp only [Act.put]
      refine wpAnyH_ready (rs := [27]) (by kernel_rfl) (by simp) (AllReadyH.cons rfl (fun K hK => ?_) AllReadyH.nil)
      go_simp
      go_at_call 23
      refine (KTI.out (some ⟨a, 0, none⟩) c _ GR_8.out.at).mono ?_
      rintro e w9 ⟨rfl, hb⟩
      have Z9 := Lib.hid (within_of hb).size
      have W9 := Lib.hid (within_on W8.out (within_of hb) W8.out.size (.inr (Nat.le_refl _)))
      have CO_9 := Lib.hid (CO_8.out.within (within_of hb) (by omega))
      have GR_9 := Lib.hid (GR_8.out.within (within_of hb) (by omega))
      have BX_9 := Lib.hid (BX_8.out.within (within_of hb) (by omega))
      have SR_9 := Lib.hid (SR_8.out.within (within_of hb) (by omega))
      have TR_9 := Lib.hid (TR_8.out.within (within_of hb) (by omega))
      clear hb
      refine hK.out _ _ BX_9.out.2 (fun hHeld => ?_)
      clear hK K
      try simp only [Act.put, List.setIfInBounds_toArray, List.set_cons_zero, List.set_cons_succ]
      refine wpAnyH_ready (rs := [31]) (by kernel_rfl) (by simp) (AllReadyH.cons rfl (fun K hK => ?_) AllReadyH.nil)
      go_simp
      go_at_call 22
      refine (KTS.out (some ⟨a, 0, none⟩) c _ GR_9.out.at).mono ?_
      rintro e w10 ⟨rfl, hb⟩
      have Z10 := Lib.hid (within_of hb).size
      have W10 := Lib.hid (within_on W9.out (within_of hb) W9.out.size (.inr (Nat.le_refl _)))
      have CO_10 := Lib.hid (CO_9.out.within (within_of hb) (by omega))
      have GR_10 := Lib.hid (GR_9.out.within (within_of hb) (by omega))
      have BX_10 := Lib.hid (BX_9.out.within (within_of hb) (by omega))
      have SR_10 := Lib.hid (SR_9.out.within (within_of hb) (by omega))
      have TR_10 := Lib.hid (TR_9.out.within (within_of hb) (by omega))
      clear hb
      refine hK.out _ _ BX_10.out.2 (fun hHeld => ?_)
      clear hK K
      try simp only [Act.put, List.setIfInBounds_toArray, List.set_cons_zero, List.set_cons_succ]
      refine wpAnyH_take (i := 32) (v := .bool false) rfl (by kernel_rfl) (by kernel_rfl) (by kernel_rfl) (fun _ _ _ h => h) (Or.inl ⟨by kernel_rfl, fun w hSw => by (try dsimp only at hSw); go_simp; all_goals omega⟩) (by assumption) ?_
      try simp only [Act.put, List.setIfInBounds_toArray]
      refine wpAnyH_take (i := 33) (v := .bool false) rfl (by kernel_rfl) (by kernel_rfl) (by kernel_rfl) (fun _ _ _ h => h) (Or.inl ⟨by kernel_rfl, fun w hSw => by (try dsimp only at hSw); go_simp; all_goals omega⟩) (by assumption) ?_
      try simp only [Act.put]
      refine wpAnyH_take (i := 34) (v := .bool false) rfl (by kernel_rfl) (by kernel_rfl) (by kernel_rfl) (fun _ _ _ h => h) (Or.inl ⟨by kernel_rfl, fun w hSw => by (try dsimp only at hSw); go_simp; all_goals omega⟩) (by assumption) ?_
      try simp only [Act.put]
      refine wpAnyH_take (i := 35) (v := .agg #[.int .i64 p, .slice (some ⟨a, 0, none⟩) l.length c]) rfl (by kernel_rfl) (by kernel_rfl) (by kernel_rfl) (fun _ _ _ h => h) (Or.inl ⟨by kernel_rfl, fun w hSw => by (try dsimp only at hSw); go_simp; all_goals omega⟩) (by assumption) ?_
      try simp only [Act.put]
      refine wpAnyH_take (i := 36) (v := .int .i64 x) rfl (by kernel_rfl) (by kernel_rfl) (by kernel_rfl) (fun _ _ _ h => h) (Or.inl ⟨by kernel_rfl, fun w hSw => by (try dsimp only at hSw); go_simp; all_goals omega⟩) (by assumption) ?_
      try simp only [Act.put]
      refine wpAnyH_take (i := 37) (v := .int .i64 y) rfl (by kernel_rfl) (by kernel_rfl) (by kernel_rfl) (fun _ _ _ h => h) (Or.inl ⟨by kernel_rfl, fun w hSw => by (try dsimp only at hSw); go_simp; all_goals omega⟩) (by assumption) ?_
      try simp only [Act.put]
      refine wpAnyH_take (i := 39) (v := .agg #[.int .i64 p, .slice (some ⟨a, 0, none⟩) l.length c]) rfl (by kernel_rfl) (by kernel_rfl) (by kernel_rfl) (fun _ _ _ h => h) (Or.inl ⟨by kernel_rfl, fun w hSw => by (try dsimp only at hSw); go_simp; all_goals omega⟩) (by assumption) ?_
      try simp only [Act.put]
      refine wpAnyH_take (i := 40) (v := .int .i64 x) rfl (by kernel_rfl) (by kernel_rfl) (by kernel_rfl) (fun _ _ _ h => h) (Or.inl ⟨by kernel_rfl, fun w hSw => by (try dsimp only at hSw); go_simp; all_goals omega⟩) (by assumption) ?_
      try simp only [Act.put]
      refine wpAnyH_take (i := 41) (v := .int .i64 y) rfl (by kernel_rfl) (by kernel_rfl) (by kernel_rfl) (fun _ _ _ h => h) (Or.inl ⟨by kernel_rfl, fun w hSw => by (try dsimp only at hSw); go_simp; all_goals omega⟩) (by assumption) ?_
      try simp only [Act.put]
      refine wpAnyH_ready (rs := [38]) (by kernel_rfl) (by simp) (AllReadyH.cons rfl (fun K hK => ?_) AllReadyH.nil)
      go_simp
      go_at_call 27
      refine (KFI.out (some ⟨a, 0, none⟩) c _ GR_10.out.at).mono ?_
      rintro e w11 ⟨rfl, hb⟩
      have Z11 := Lib.hid (within_of hb).size
      have W11 := Lib.hid (within_on W10.out (within_of hb) W10.out.size (.inr (Nat.le_refl _)))
      have CO_11 := Lib.hid (CO_10.out.within (within_of hb) (by omega))
      have GR_11 := Lib.hid (GR_10.out.within (within_of hb) (by omega))
      have BX_11 := Lib.hid (BX_10.out.within (within_of hb) (by omega))
      have SR_11 := Lib.hid (SR_10.out.within (within_of hb) (by omega))
      have TR_11 := Lib.hid (TR_10.out.within (within_of hb) (by omega))
      clear hb
      refine hK.out _ _ BX_11.out.2 (fun hHeld => ?_)
      clear hK K
      try simp only [Act.put, List.setIfInBounds_toArray, List.set_cons_zero, List.set_cons_succ]
      refine wpAnyH_ready (rs := [42]) (by kernel_rfl) (by simp) (AllReadyH.cons rfl (fun K hK => ?_) AllReadyH.nil)
      go_simp
      go_at_call 26
      refine (KFS.out (some ⟨a, 0, none⟩) c _ GR_11.out.at).mono ?_
      rintro e w12 ⟨rfl, hb⟩
      have Z12 := Lib.hid (within_of hb).size
      have W12 := Lib.hid (within_on W11.out (within_of hb) W11.out.size (.inr (Nat.le_refl _)))
      have CO_12 := Lib.hid (CO_11.out.within (within_of hb) (by omega))
      have GR_12 := Lib.hid (GR_11.out.within (within_of hb) (by omega))
      have BX_12 := Lib.hid (BX_11.out.within (within_of hb) (by omega))
      have SR_12 := Lib.hid (SR_11.out.within (within_of hb) (by omega))
      have TR_12 := Lib.hid (TR_11.out.within (within_of hb) (by omega))
      clear hb
      refine hK.out _ _ BX_12.out.2 (fun hHeld => ?_)
      clear hK K
      try simp only [Act.put, List.setIfInBounds_toArray, List.set_cons_zero, List.set_cons_succ]
      refine wpAnyH_take (i := 43) (v := .bool false) rfl (by kernel_rfl) (by kernel_rfl) (by kernel_rfl) (fun _ _ _ h => h) (Or.inl ⟨by kernel_rfl, fun w hSw => by (try dsimp only at hSw); go_simp; all_goals omega⟩) (by assumption) ?_
      try simp only [Act.put, List.setIfInBounds_toArray]
      refine wpAnyH_take (i := 44) (v := .bool false) rfl (by kernel_rfl) (by kernel_rfl) (by kernel_rfl) (fun _ _ _ h => h) (Or.inl ⟨by kernel_rfl, fun w hSw => by (try dsimp only at hSw); go_simp; all_goals omega⟩) (by assumption) ?_
      try simp only [Act.put]
      refine wpAnyH_done (by kernel_rfl) ?_ _
      obtain ⟨g01, g02, g03⟩ := BX_12.out
      go_upto_if 108 with fail
      clear g01 g02 g03
      go_cut [] (fun wx => Below w.heap.size w wx)
      case first =>
        go_wp2_with fail
        go_meet
        case rel => exact W12.out
      case rest =>
        have W900 := Lib.hid hcut
        have CO_900 := Lib.hid (hc0.out.kept hcut)
        clear hcut
        go_wp2_with fail
        have hcc := (drawSpan_c wc A len cap zs (CO_900.out.upto W900.out.size) hl48)
        refine (hcc).mono ?_
        rintro e w901 ⟨q, b, d, m, AZ, cz, QQ, mm, hP2, hQm, rfl, ho, hz, hb⟩
        have Z901 := Lib.hid (within_of hb).size
        have W901 := Lib.hid (within_on W900.out (within_of hb) W900.out.size (.inr (Nat.le_refl _)))
        have CO_901 := Lib.hid (CO_900.out.within (within_of hb) (by omega))
        have GM_901 := Lib.hid ((own_in ho).bars)
        have ZR_901 := Lib.hid (hz)
        have HP2 := Lib.hid hP2
        have hm : m.length ≤ 1048576 := by have := HP2.out.1; omega
        have HQM := Lib.hid hQm
        have hzl : (setL QQ mm).length ≤ 1048576 := Nat.le_trans (setL_len QQ mm) (by have := HQM.out.1; omega)
        clear ho hz hb hP2 hQm hcc
        go_wp2_with fail
        have hal := new_below w901 (.cells #[.int .i64 q, .slice (some ⟨b, 0, none⟩) m.length d] 30)
        have Z902 := Lib.hid (within_of hal).size
        have W902 := Lib.hid (within_on W901.out (within_of hal) W901.out.size (.inr (Nat.le_refl _)))
        have CO_902 := Lib.hid (CO_901.out.within (within_of hal) (by omega))
        have GM_902 := Lib.hid (GM_901.out.within (within_of hal) (by omega))
        have ZR_902 := Lib.hid (ZR_901.out.within (within_of hal) (by omega))
        clear hal
        have hsz : (w901.alloc (.cells #[.int .i64 q, .slice (some ⟨b, 0, none⟩) m.length d] 30)).heap.size = w901.heap.size + 1 := by simp
        have Y902 := Lib.hid hsz
        clear hsz
        have BM_902 := Lib.hid (box_new w901 q (.slice (some ⟨b, 0, none⟩) m.length d) 30)
        generalize (w901.alloc (.cells #[.int .i64 q, .slice (some ⟨b, 0, none⟩) m.length d] 30)) = w902 at *
        have hcc := (drawRange_c _ A len cap zs (CO_902.out.upto W902.out.size) hl48)
        refine (hcc).mono ?_
        rintro e w903 ⟨u, v, huv, rfl, hb⟩
        have Z903 := Lib.hid (within_of hb).size
        have W903 := Lib.hid (within_on W902.out (within_of hb) W902.out.size (.inr (Nat.le_refl _)))
        have CO_903 := Lib.hid (CO_902.out.within (within_of hb) (by omega))
        have GM_903 := Lib.hid (GM_902.out.within (within_of hb) (by omega))
        have ZR_903 := Lib.hid (ZR_902.out.within (within_of hb) (by omega))
        have BM_903 := Lib.hid (BM_902.out.within (within_of hb) (by omega))
        clear hb hcc
        have hsp := spanL_len m (memS (setL QQ mm))
        have HRS := specRange u v
        have HRI := implRange u v
        generalize rangeB u v = rr at *
        have hrr : (rr == rr) = true := by simp
        have kk := BM_903.out.2
        have hdr : Below w903.heap.size w903 w903.drew := (Below.refl _ _).drew
        have Z904 := Lib.hid (within_of hdr).size
        have W904 := Lib.hid (within_on W903.out (within_of hdr) W903.out.size (.inr (Nat.le_refl _)))
        have CO_904 := Lib.hid (CO_903.out.within (within_of hdr) (by omega))
        have GM_904 := Lib.hid (GM_903.out.within (within_of hdr) (by omega))
        have ZR_904 := Lib.hid (ZR_903.out.within (within_of hdr) (by omega))
        have BM_904 := Lib.hid (BM_903.out.within (within_of hdr) (by omega))
        clear hdr
        obtain ⟨g01, g02, g03⟩ := BM_904.out
        go_wp2_with fail
        go_region_held3 (fun W' => W'.cell? ⟨w901.heap.size, 0, none⟩ = some (.int .i64 q) ∧ W'.cell? ⟨w901.heap.size, 1, none⟩ = some (.slice (some ⟨b, 0, none⟩) m.length d))
          (first | exact kk | exact BM_905.out.2 | exact BM_906.out.2 | exact BM_907.out.2 | fail)
          (first
            | (go_at_call 14; refine (implSpan q m (setL QQ mm) (some ⟨b, 0, none⟩) AZ d cz _ _ _ GM_904.out.at ZR_904.out hm hzl HP2.out.2.wf (setL_wf QQ mm HQM.out.1)).mono ?_; rintro e w905 ⟨AU, cu, rfl, hs, hb⟩; have Z905 := Lib.hid (within_of hb).size; have W905 := Lib.hid (within_on W904.out (within_of hb) W904.out.size (.inr (Nat.le_refl _))); have CO_905 := Lib.hid (CO_904.out.within (within_of hb) (by omega)); have GM_905 := Lib.hid (GM_904.out.within (within_of hb) (by omega)); have ZR_905 := Lib.hid (ZR_904.out.within (within_of hb) (by omega)); have BM_905 := Lib.hid (BM_904.out.within (within_of hb) (by omega)); have UR_905 := Lib.hid hs.reads; clear hs hb)
            | (go_at_call 11; refine (specSpan q m (setL QQ mm) (some ⟨b, 0, none⟩) AZ d cz _ _ _ GM_905.out.at ZR_905.out hm hzl).mono ?_; rintro e w906 ⟨AV, cv, rfl, hs, hb⟩; have Z906 := Lib.hid (within_of hb).size; have W906 := Lib.hid (within_on W905.out (within_of hb) W905.out.size (.inr (Nat.le_refl _))); have CO_906 := Lib.hid (CO_905.out.within (within_of hb) (by omega)); have GM_906 := Lib.hid (GM_905.out.within (within_of hb) (by omega)); have ZR_906 := Lib.hid (ZR_905.out.within (within_of hb) (by omega)); have BM_906 := Lib.hid (BM_905.out.within (within_of hb) (by omega)); have UR_906 := Lib.hid (UR_905.out.within (within_of hb) (by omega)); have VR_906 := Lib.hid hs.reads; clear hs hb)
            | (go_at_call 32; refine (sameInts_c _ AU AV cu cv _ _ _ _ _ UR_906.out VR_906.out (by omega)).mono ?_; rintro e w907 ⟨rfl, hb⟩; have Z907 := Lib.hid (within_of hb).size; have W907 := Lib.hid (within_on W906.out (within_of hb) W906.out.size (.inr (Nat.le_refl _))); have CO_907 := Lib.hid (CO_906.out.within (within_of hb) (by omega)); have GM_907 := Lib.hid (GM_906.out.within (within_of hb) (by omega)); have ZR_907 := Lib.hid (ZR_906.out.within (within_of hb) (by omega)); have BM_907 := Lib.hid (BM_906.out.within (within_of hb) (by omega)); have UR_907 := Lib.hid (UR_906.out.within (within_of hb) (by omega)); have VR_907 := Lib.hid (VR_906.out.within (within_of hb) (by omega)); clear hb)
            | (go_at_call 29; refine (HRI _).mono ?_; rintro e w908 ⟨rfl, rfl⟩)
            | (go_at_call 28; refine (HRS _).mono ?_; rintro e w909 ⟨rfl, rfl⟩))
        go_wp2_with fail
        go_ret
        exact ⟨by simp, W907.out⟩
    · rw [hbo] at HOI HOS HTRUE
      rw [hbs] at HSI HSS HREM HRM
      have KOI := Lib.hid HOI
      have KOS := Lib.hid HOS
      have KSI := Lib.hid HSI
      have KSS := Lib.hid HSS
      have KTI := Lib.hid HTI
      have KTS := Lib.hid HTS
      have KFI := Lib.hid HFI
      have KFS := Lib.hid HFS
      clear HOI HOS HSI HSS HTI HTS HFI HFS
      have KRM := Lib.hid (HRM (by trivial))
      clear HRM
      refine (KOI.out (some ⟨a, 0, none⟩) c _ GR_2.out.at).mono ?_
      rintro e w3 ⟨AS, cs, rfl, hs, hb⟩
      have Z3 := Lib.hid (within_of hb).size
      have W3 := Lib.hid (within_on W2.out (within_of hb) W2.out.size (.inr (Nat.le_refl _)))
      have CO_3 := Lib.hid (CO_2.out.within (within_of hb) (by omega))
      have GR_3 := Lib.hid (GR_2.out.within (within_of hb) (by omega))
      have BX_3 := Lib.hid (BX_2.out.within (within_of hb) (by omega))
      have SR_3 := Lib.hid (hs.reads)
      clear hs hb
      obtain ⟨g01, g02, g03⟩ := BX_3.out
      go_wp2_with fail
      clear g01 g02 g03
      refine (KOS.out (some ⟨a, 0, none⟩) c _ GR_3.out.at).mono ?_
      rintro e w4 ⟨AT, ct, rfl, hs, hb⟩
      have Z4 := Lib.hid (within_of hb).size
      have W4 := Lib.hid (within_on W3.out (within_of hb) W3.out.size (.inr (Nat.le_refl _)))
      have CO_4 := Lib.hid (CO_3.out.within (within_of hb) (by omega))
      have GR_4 := Lib.hid (GR_3.out.within (within_of hb) (by omega))
      have BX_4 := Lib.hid (BX_3.out.within (within_of hb) (by omega))
      have SR_4 := Lib.hid (SR_3.out.within (within_of hb) (by omega))
      have TR_4 := Lib.hid (hs.reads)
      clear hs hb
      obtain ⟨g01, g02, g03⟩ := BX_4.out
      go_wp2_with fail
      clear g01 g02 g03
      refine (KSI.out (some ⟨a, 0, none⟩) c _ GR_4.out.at).mono ?_
      rintro e w5 ⟨rfl, hb⟩
      have Z5 := Lib.hid (within_of hb).size
      have W5 := Lib.hid (within_on W4.out (within_of hb) W4.out.size (.inr (Nat.le_refl _)))
      have CO_5 := Lib.hid (CO_4.out.within (within_of hb) (by omega))
      have GR_5 := Lib.hid (GR_4.out.within (within_of hb) (by omega))
      have BX_5 := Lib.hid (BX_4.out.within (within_of hb) (by omega))
      have SR_5 := Lib.hid (SR_4.out.within (within_of hb) (by omega))
      have TR_5 := Lib.hid (TR_4.out.within (within_of hb) (by omega))
      clear hb
      have hdr : Below w5.heap.size w5 w5.drew := (Below.refl _ _).drew
      have Z6 := Lib.hid (within_of hdr).size
      have W6 := Lib.hid (within_on W5.out (within_of hdr) W5.out.size (.inr (Nat.le_refl _)))
      have CO_6 := Lib.hid (CO_5.out.within (within_of hdr) (by omega))
      have GR_6 := Lib.hid (GR_5.out.within (within_of hdr) (by omega))
      have BX_6 := Lib.hid (BX_5.out.within (within_of hdr) (by omega))
      have SR_6 := Lib.hid (SR_5.out.within (within_of hdr) (by omega))
      have TR_6 := Lib.hid (TR_5.out.within (within_of hdr) (by omega))
      clear hdr
      obtain ⟨g01, g02, g03⟩ := BX_6.out
      go_wp2_with fail
      clear g01 g02 g03
      refine wp_region_held_drew (S := (fun W' : World => W'.cell? ⟨w1.heap.size, 0, none⟩ = some (.int .i64 p) ∧ W'.cell? ⟨w1.heap.size, 1, none⟩ = some (.slice (some ⟨a, 0, none⟩) l.length c))) (by kernel_rfl) ?_ (fun hHeld => ?_)
      · exact BX_6.out.2
      refine wpAnyH_take (i := 0) (v := .bool false) rfl (by kernel_rfl) (by kernel_rfl) (by kernel_rfl) (fun _ _ _ h => h) (Or.inl ⟨by kernel_rfl, fun w hSw => by (try dsimp only at hSw); go_simp; all_goals omega⟩) (by assumption) ?_
      try simp only [Act.put, List.setIfInBounds_toArray]
      refine wpAnyH_take (i := 1) (v := .bool false) rfl (by kernel_rfl) (by kernel_rfl) (by kernel_rfl) (fun _ _ _ h => h) (Or.inl ⟨by kernel_rfl, fun w hSw => by (try dsimp only at hSw); go_simp; all_goals omega⟩) (by assumption) ?_
      try simp only [Act.put]
      refine wpAnyH_take (i := 2) (v := .bool false) rfl (by kernel_rfl) (by kernel_rfl) (by kernel_rfl) (fun _ _ _ h => h) (Or.inl ⟨by kernel_rfl, fun w hSw => by (try dsimp only at hSw); go_simp; all_goals omega⟩) (by assumption) ?_
      try simp only [Act.put]
      refine wpAnyH_take (i := 3) (v := .bool false) rfl (by kernel_rfl) (by kernel_rfl) (by kernel_rfl) (fun _ _ _ h => h) (Or.inl ⟨by kernel_rfl, fun w hSw => by (try dsimp only at hSw); go_simp; all_goals omega⟩) (by assumption) ?_
      try simp only [Act.put]
      refine wpAnyH_take (i := 4) (v := .slice AS OL.length cs) rfl (by kernel_rfl) (by kernel_rfl) (by kernel_rfl) (fun _ _ _ h => h) (Or.inl ⟨by kernel_rfl, fun w hSw => by (try dsimp only at hSw); go_simp; all_goals omega⟩) (by assumption) ?_
      try simp only [Act.put]
      refine wpAnyH_take (i := 5) (v := .slice AT OL.length ct) rfl (by kernel_rfl) (by kernel_rfl) (by kernel_rfl) (fun _ _ _ h => h) (Or.inl ⟨by kernel_rfl, fun w hSw => by (try dsimp only at hSw); go_simp; all_goals omega⟩) (by assumption) ?_
      try simp only [Act.put]
      refine wpAnyH_ready (rs := [6]) (by kernel_rfl) (by simp) (AllReadyH.cons rfl (fun K hK => ?_) AllReadyH.nil)
      go_simp
      go_at_call 32
      refine (sameInts_c OL AS AT cs ct _ _ _ _ _ SR_6.out TR_6.out (by omega)).mono ?_
      rintro e w7 ⟨rfl, hb⟩
      have Z7 := Lib.hid (within_of hb).size
      have W7 := Lib.hid (within_on W6.out (within_of hb) W6.out.size (.inr (Nat.le_refl _)))
      have CO_7 := Lib.hid (CO_6.out.within (within_of hb) (by omega))
      have GR_7 := Lib.hid (GR_6.out.within (within_of hb) (by omega))
      have BX_7 := Lib.hid (BX_6.out.within (within_of hb) (by omega))
      have SR_7 := Lib.hid (SR_6.out.within (within_of hb) (by omega))
      have TR_7 := Lib.hid (TR_6.out.within (within_of hb) (by omega))
      clear hb
      refine hK.out _ _ BX_7.out.2 (fun hHeld => ?_)
      clear hK K
      try simp only [Act.put, List.setIfInBounds_toArray, List.set_cons_zero, List.set_cons_succ]
      refine wpAnyH_take (i := 7) (v := .bool false) rfl (by kernel_rfl) (by kernel_rfl) (by kernel_rfl) (fun _ _ _ h => h) (Or.inl ⟨by kernel_rfl, fun w hSw => by (try dsimp only at hSw); go_simp; all_goals omega⟩) (by assumption) ?_
      try simp only [Act.put, List.setIfInBounds_toArray]
      refine wpAnyH_take (i := 8) (v := .bool false) rfl (by kernel_rfl) (by kernel_rfl) (by kernel_rfl) (fun _ _ _ h => h) (Or.inl ⟨by kernel_rfl, fun w hSw => by (try dsimp only at hSw); go_simp; all_goals omega⟩) (by assumption) ?_
      try simp only [Act.put]
      refine wpAnyH_take (i := 9) (v := .bool false) rfl (by kernel_rfl) (by kernel_rfl) (by kernel_rfl) (fun _ _ _ h => h) (Or.inl ⟨by kernel_rfl, fun w hSw => by (try dsimp only at hSw); go_simp; all_goals omega⟩) (by assumption) ?_
      try simp only [Act.put]
      refine wpAnyH_take (i := 10) (v := .bool true) rfl (by kernel_rfl) (by kernel_rfl) (by kernel_rfl) (fun _ _ _ h => h) (Or.inl ⟨by kernel_rfl, fun w hSw => by (try dsimp only at hSw); go_simp; all_goals omega⟩) (by assumption) ?_
      try simp only [Act.put]
      refine wpAnyH_take (i := 11) (v := .agg #[.int .i64 p, .slice (some ⟨a, 0, none⟩) l.length c]) rfl (by kernel_rfl) (by kernel_rfl) (by kernel_rfl) (fun _ _ _ h => h) (Or.inl ⟨by kernel_rfl, fun w hSw => by (try dsimp only at hSw); go_simp; all_goals omega⟩) (by assumption) ?_
      try simp only [Act.put]
      refine wpAnyH_take (i := 12) (v := .int .i64 x) rfl (by kernel_rfl) (by kernel_rfl) (by kernel_rfl) (fun _ _ _ h => h) (Or.inl ⟨by kernel_rfl, fun w hSw => by (try dsimp only at hSw); go_simp; all_goals omega⟩) (by assumption) ?_
      try simp only [Act.put]
      refine wpAnyH_take (i := 13) (v := .int .i64 y) rfl (by kernel_rfl) (by kernel_rfl) (by kernel_rfl) (fun _ _ _ h => h) (Or.inl ⟨by kernel_rfl, fun w hSw => by (try dsimp only at hSw); go_simp; all_goals omega⟩) (by assumption) ?_
      try simp only [Act.put]
      refine wpAnyH_ready (rs := [14]) (by kernel_rfl) (by simp) (AllReadyH.cons rfl (fun K hK => ?_) AllReadyH.nil)
      go_simp
      go_at_call 20
      refine (KSS.out (some ⟨a, 0, none⟩) c _ GR_7.out.at).mono ?_
      rintro e w8 ⟨rfl, hb⟩
      have Z8 := Lib.hid (within_of hb).size
      have W8 := Lib.hid (within_on W7.out (within_of hb) W7.out.size (.inr (Nat.le_refl _)))
      have CO_8 := Lib.hid (CO_7.out.within (within_of hb) (by omega))
      have GR_8 := Lib.hid (GR_7.out.within (within_of hb) (by omega))
      have BX_8 := Lib.hid (BX_7.out.within (within_of hb) (by omega))
      have SR_8 := Lib.hid (SR_7.out.within (within_of hb) (by omega))
      have TR_8 := Lib.hid (TR_7.out.within (within_of hb) (by omega))
      clear hb
      refine hK.out _ _ BX_8.out.2 (fun hHeld => ?_)
      clear hK K
      try simp only [Act.put, List.setIfInBounds_toArray, List.set_cons_zero, List.set_cons_succ]
      refine wpAnyH_take (i := 15) (v := .bool false) rfl (by kernel_rfl) (by kernel_rfl) (by kernel_rfl) (fun _ _ _ h => h) (Or.inl ⟨by kernel_rfl, fun w hSw => by (try dsimp only at hSw); go_simp; all_goals omega⟩) (by assumption) ?_
      try simp only [Act.put, List.setIfInBounds_toArray]
      refine wpAnyH_take (i := 16) (v := .bool false) rfl (by kernel_rfl) (by kernel_rfl) (by kernel_rfl) (fun _ _ _ h => h) (Or.inl ⟨by kernel_rfl, fun w hSw => by (try dsimp only at hSw); go_simp; all_goals omega⟩) (by assumption) ?_
      try simp only [Act.put]
      refine wpAnyH_take (i := 17) (v := .bool false) rfl (by kernel_rfl) (by kernel_rfl) (by kernel_rfl) (fun _ _ _ h => h) (Or.inl ⟨by kernel_rfl, fun w hSw => by (try dsimp only at hSw); go_simp; all_goals omega⟩) (by assumption) ?_
      try simp only [Act.put]
      refine wpAnyH_take (i := 18) (v := .bool false) rfl (by kernel_rfl) (by kernel_rfl) (by kernel_rfl) (fun _ _ _ h => h) (Or.inl ⟨by kernel_rfl, fun w hSw => by (try dsimp only at hSw); go_simp; all_goals omega⟩) (by assumption) ?_
      try simp only [Act.put]
      refine wpAnyH_take (i := 19) (v := .bool false) rfl (by kernel_rfl) (by kernel_rfl) (by kernel_rfl) (fun _ _ _ h => h) (Or.inl ⟨by kernel_rfl, fun w hSw => by (try dsimp only at hSw); go_simp; all_goals omega⟩) (by assumption) ?_
      try simp only [Act.put]
      refine wpAnyH_take (i := 20) (v := undef) rfl (by kernel_rfl) (by kernel_rfl) (by kernel_rfl) (fun _ _ _ h => h) (Or.inr ⟨by kernel_rfl, rfl⟩) (by assumption) ?_
      try simp only [Act.put]
      refine wpAnyH_take (i := 21) (v := .bool false) rfl (by kernel_rfl) (by kernel_rfl) (by kernel_rfl) (fun _ _ _ h => h) (Or.inl ⟨by kernel_rfl, fun w hSw => by (try dsimp only at hSw); go_simp; all_goals omega⟩) (by assumption) ?_
      try simp only [Act.put]
      refine wpAnyH_take (i := 22) (v := .bool false) rfl (by kernel_rfl) (by kernel_rfl) (by kernel_rfl) (fun _ _ _ h => h) (Or.inl ⟨by kernel_rfl, fun w hSw => by (try dsimp only at hSw); go_simp; all_goals omega⟩) (by assumption) ?_
      try simp only [Act.put]
      refine wpAnyH_take (i := 23) (v := .bool false) rfl (by kernel_rfl) (by kernel_rfl) (by kernel_rfl) (fun _ _ _ h => h) (Or.inl ⟨by kernel_rfl, fun w hSw => by (try dsimp only at hSw); go_simp; all_goals omega⟩) (by assumption) ?_
      try simp only [Act.put]
      refine wpAnyH_take (i := 24) (v := .agg #[.int .i64 p, .slice (some ⟨a, 0, none⟩) l.length c]) rfl (by kernel_rfl) (by kernel_rfl) (by kernel_rfl) (fun _ _ _ h => h) (Or.inl ⟨by kernel_rfl, fun w hSw => by (try dsimp only at hSw); go_simp; all_goals omega⟩) (by assumption) ?_
      try simp only [Act.put]
      refine wpAnyH_take (i := 25) (v := .int .i64 x) rfl (by kernel_rfl) (by kernel_rfl) (by kernel_rfl) (fun _ _ _ h => h) (Or.inl ⟨by kernel_rfl, fun w hSw => by (try dsimp only at hSw); go_simp; all_goals omega⟩) (by assumption) ?_
      try simp only [Act.put]
      refine wpAnyH_take (i := 26) (v := .int .i64 y) rfl (by kernel_rfl) (by kernel_rfl) (by kernel_rfl) (fun _ _ _ h => h) (Or.inl ⟨by kernel_rfl, fun w hSw => by (try dsimp only at hSw); go_simp; all_goals omega⟩) (by assumption) ?_
      try simp only [Act.put]
      refine wpAnyH_take (i := 28) (v := .agg #[.int .i64 p, .slice (some ⟨a, 0, none⟩) l.length c]) rfl (by kernel_rfl) (by kernel_rfl) (by kernel_rfl) (fun _ _ _ h => h) (Or.inl ⟨by kernel_rfl, fun w hSw => by (try dsimp only at hSw); go_simp; all_goals omega⟩) (by assumption) ?_
      try simp only [Act.put]
      refine wpAnyH_take (i := 29) (v := .int .i64 x) rfl (by kernel_rfl) (by kernel_rfl) (by kernel_rfl) (fun _ _ _ h => h) (Or.inl ⟨by kernel_rfl, fun w hSw => by (try dsimp only at hSw); go_simp; all_goals omega⟩) (by assumption) ?_
      try simp only [Act.put]
      refine wpAnyH_take (i := 30) (v := .int .i64 y) rfl (by kernel_rfl) (by kernel_rfl) (by kernel_rfl) (fun _ _ _ h => h) (Or.inl ⟨by kernel_rfl, fun w hSw => by (try dsimp only at hSw); go_simp; all_goals omega⟩) (by assumption) ?_
      try simp only [Act.put]
      refine wpAnyH_ready (rs := [27]) (by kernel_rfl) (by simp) (AllReadyH.cons rfl (fun K hK => ?_) AllReadyH.nil)
      go_simp
      go_at_call 23
      refine (KTI.out (some ⟨a, 0, none⟩) c _ GR_8.out.at).mono ?_
      rintro e w9 ⟨rfl, hb⟩
      have Z9 := Lib.hid (within_of hb).size
      have W9 := Lib.hid (within_on W8.out (within_of hb) W8.out.size (.inr (Nat.le_refl _)))
      have CO_9 := Lib.hid (CO_8.out.within (within_of hb) (by omega))
      have GR_9 := Lib.hid (GR_8.out.within (within_of hb) (by omega))
      have BX_9 := Lib.hid (BX_8.out.within (within_of hb) (by omega))
      have SR_9 := Lib.hid (SR_8.out.within (within_of hb) (by omega))
      have TR_9 := Lib.hid (TR_8.out.within (within_of hb) (by omega))
      clear hb
      refine hK.out _ _ BX_9.out.2 (fun hHeld => ?_)
      clear hK K
      try simp only [Act.put, List.setIfInBounds_toArray, List.set_cons_zero, List.set_cons_succ]
      refine wpAnyH_ready (rs := [31]) (by kernel_rfl) (by simp) (AllReadyH.cons rfl (fun K hK => ?_) AllReadyH.nil)
      go_simp
      go_at_call 22
      refine (KTS.out (some ⟨a, 0, none⟩) c _ GR_9.out.at).mono ?_
      rintro e w10 ⟨rfl, hb⟩
      have Z10 := Lib.hid (within_of hb).size
      have W10 := Lib.hid (within_on W9.out (within_of hb) W9.out.size (.inr (Nat.le_refl _)))
      have CO_10 := Lib.hid (CO_9.out.within (within_of hb) (by omega))
      have GR_10 := Lib.hid (GR_9.out.within (within_of hb) (by omega))
      have BX_10 := Lib.hid (BX_9.out.within (within_of hb) (by omega))
      have SR_10 := Lib.hid (SR_9.out.within (within_of hb) (by omega))
      have TR_10 := Lib.hid (TR_9.out.within (within_of hb) (by omega))
      clear hb
      refine hK.out _ _ BX_10.out.2 (fun hHeld => ?_)
      clear hK K
      try simp only [Act.put, List.setIfInBounds_toArray, List.set_cons_zero, List.set_cons_succ]
      refine wpAnyH_take (i := 32) (v := .bool false) rfl (by kernel_rfl) (by kernel_rfl) (by kernel_rfl) (fun _ _ _ h => h) (Or.inl ⟨by kernel_rfl, fun w hSw => by (try dsimp only at hSw); go_simp; all_goals omega⟩) (by assumption) ?_
      try simp only [Act.put, List.setIfInBounds_toArray]
      refine wpAnyH_take (i := 33) (v := .bool false) rfl (by kernel_rfl) (by kernel_rfl) (by kernel_rfl) (fun _ _ _ h => h) (Or.inl ⟨by kernel_rfl, fun w hSw => by (try dsimp only at hSw); go_simp; all_goals omega⟩) (by assumption) ?_
      try simp only [Act.put]
      refine wpAnyH_take (i := 34) (v := .bool false) rfl (by kernel_rfl) (by kernel_rfl) (by kernel_rfl) (fun _ _ _ h => h) (Or.inl ⟨by kernel_rfl, fun w hSw => by (try dsimp only at hSw); go_simp; all_goals omega⟩) (by assumption) ?_
      try simp only [Act.put]
      refine wpAnyH_take (i := 35) (v := .agg #[.int .i64 p, .slice (some ⟨a, 0, none⟩) l.length c]) rfl (by kernel_rfl) (by kernel_rfl) (by kernel_rfl) (fun _ _ _ h => h) (Or.inl ⟨by kernel_rfl, fun w hSw => by (try dsimp only at hSw); go_simp; all_goals omega⟩) (by assumption) ?_
      try simp only [Act.put]
      refine wpAnyH_take (i := 36) (v := .int .i64 x) rfl (by kernel_rfl) (by kernel_rfl) (by kernel_rfl) (fun _ _ _ h => h) (Or.inl ⟨by kernel_rfl, fun w hSw => by (try dsimp only at hSw); go_simp; all_goals omega⟩) (by assumption) ?_
      try simp only [Act.put]
      refine wpAnyH_take (i := 37) (v := .int .i64 y) rfl (by kernel_rfl) (by kernel_rfl) (by kernel_rfl) (fun _ _ _ h => h) (Or.inl ⟨by kernel_rfl, fun w hSw => by (try dsimp only at hSw); go_simp; all_goals omega⟩) (by assumption) ?_
      try simp only [Act.put]
      refine wpAnyH_take (i := 39) (v := .agg #[.int .i64 p, .slice (some ⟨a, 0, none⟩) l.length c]) rfl (by kernel_rfl) (by kernel_rfl) (by kernel_rfl) (fun _ _ _ h => h) (Or.inl ⟨by kernel_rfl, fun w hSw => by (try dsimp only at hSw); go_simp; all_goals omega⟩) (by assumption) ?_
      try simp only [Act.put]
      refine wpAnyH_take (i := 40) (v := .int .i64 x) rfl (by kernel_rfl) (by kernel_rfl) (by kernel_rfl) (fun _ _ _ h => h) (Or.inl ⟨by kernel_rfl, fun w hSw => by (try dsimp only at hSw); go_simp; all_goals omega⟩) (by assumption) ?_
      try simp only [Act.put]
      refine wpAnyH_take (i := 41) (v := .int .i64 y) rfl (by kernel_rfl) (by kernel_rfl) (by kernel_rfl) (fun _ _ _ h => h) (Or.inl ⟨by kernel_rfl, fun w hSw => by (try dsimp only at hSw); go_simp; all_goals omega⟩) (by assumption) ?_
      try simp only [Act.put]
      refine wpAnyH_ready (rs := [38]) (by kernel_rfl) (by simp) (AllReadyH.cons rfl (fun K hK => ?_) AllReadyH.nil)
      go_simp
      go_at_call 27
      refine (KFI.out (some ⟨a, 0, none⟩) c _ GR_10.out.at).mono ?_
      rintro e w11 ⟨rfl, hb⟩
      have Z11 := Lib.hid (within_of hb).size
      have W11 := Lib.hid (within_on W10.out (within_of hb) W10.out.size (.inr (Nat.le_refl _)))
      have CO_11 := Lib.hid (CO_10.out.within (within_of hb) (by omega))
      have GR_11 := Lib.hid (GR_10.out.within (within_of hb) (by omega))
      have BX_11 := Lib.hid (BX_10.out.within (within_of hb) (by omega))
      have SR_11 := Lib.hid (SR_10.out.within (within_of hb) (by omega))
      have TR_11 := Lib.hid (TR_10.out.within (within_of hb) (by omega))
      clear hb
      refine hK.out _ _ BX_11.out.2 (fun hHeld => ?_)
      clear hK K
      try simp only [Act.put, List.setIfInBounds_toArray, List.set_cons_zero, List.set_cons_succ]
      refine wpAnyH_ready (rs := [42]) (by kernel_rfl) (by simp) (AllReadyH.cons rfl (fun K hK => ?_) AllReadyH.nil)
      go_simp
      go_at_call 26
      refine (KFS.out (some ⟨a, 0, none⟩) c _ GR_11.out.at).mono ?_
      rintro e w12 ⟨rfl, hb⟩
      have Z12 := Lib.hid (within_of hb).size
      have W12 := Lib.hid (within_on W11.out (within_of hb) W11.out.size (.inr (Nat.le_refl _)))
      have CO_12 := Lib.hid (CO_11.out.within (within_of hb) (by omega))
      have GR_12 := Lib.hid (GR_11.out.within (within_of hb) (by omega))
      have BX_12 := Lib.hid (BX_11.out.within (within_of hb) (by omega))
      have SR_12 := Lib.hid (SR_11.out.within (within_of hb) (by omega))
      have TR_12 := Lib.hid (TR_11.out.within (within_of hb) (by omega))
      clear hb
      refine hK.out _ _ BX_12.out.2 (fun hHeld => ?_)
      clear hK K
      try simp only [Act.put, List.setIfInBounds_toArray, List.set_cons_zero, List.set_cons_succ]
      refine wpAnyH_take (i := 43) (v := .bool false) rfl (by kernel_rfl) (by kernel_rfl) (by kernel_rfl) (fun _ _ _ h => h) (Or.inl ⟨by kernel_rfl, fun w hSw => by (try dsimp only at hSw); go_simp; all_goals omega⟩) (by assumption) ?_
      try simp only [Act.put, List.setIfInBounds_toArray]
      refine wpAnyH_take (i := 44) (v := .bool false) rfl (by kernel_rfl) (by kernel_rfl) (by kernel_rfl) (fun _ _ _ h => h) (Or.inl ⟨by kernel_rfl, fun w hSw => by (try dsimp only at hSw); go_simp; all_goals omega⟩) (by assumption) ?_
      try simp only [Act.put]
      refine wpAnyH_done (by kernel_rfl) ?_ _
      obtain ⟨g01, g02, g03⟩ := BX_12.out
      go_upto_if 108 with fail
      clear g01 g02 g03
      go_cut [] (fun wx => Below w.heap.size w wx)
      case first =>
        by_cases hl0 : 0 < l.length
        · have hl1 : (0 : Int) < (l.length : Int) := by omega
          have hl2 : decide ((0 : Int) < (l.length : Int)) = true := by simpa using hl0
          have hl3 : ((l.length : Int) == 0) = false := beq_eq_false_iff_ne.mpr (by omega)
          have hl4 : ¬ l = [] := by intro h; simp [h] at hl0
          obtain ⟨g01, g02, g03⟩ := BX_12.out
          have hdr : Below w12.heap.size w12 w12.drew := (Below.refl _ _).drew
          have Z13 := Lib.hid (within_of hdr).size
          have W13 := Lib.hid (within_on W12.out (within_of hdr) W12.out.size (.inr (Nat.le_refl _)))
          have CO_13 := Lib.hid (CO_12.out.within (within_of hdr) (by omega))
          have GR_13 := Lib.hid (GR_12.out.within (within_of hdr) (by omega))
          have BX_13 := Lib.hid (BX_12.out.within (within_of hdr) (by omega))
          have SR_13 := Lib.hid (SR_12.out.within (within_of hdr) (by omega))
          have TR_13 := Lib.hid (TR_12.out.within (within_of hdr) (by omega))
          clear hdr
          go_wp2_with fail
          clear g01 g02 g03
          refine wp_region_held_drew (S := (fun W' : World => W'.cell? ⟨w1.heap.size, 0, none⟩ = some (.int .i64 p) ∧ W'.cell? ⟨w1.heap.size, 1, none⟩ = some (.slice (some ⟨a, 0, none⟩) l.length c))) (by kernel_rfl) ?_ (fun hHeld => ?_)
          · exact BX_13.out.2
          generalize w12.drew = w13 at *
          refine wpAnyH_take (i := 0) (v := .agg #[.int .i64 p, .slice (some ⟨a, 0, none⟩) l.length c]) rfl (by kernel_rfl) (by kernel_rfl) (by kernel_rfl) (fun _ _ _ h => h) (Or.inl ⟨by kernel_rfl, fun w hSw => by (try dsimp only at hSw); go_simp; all_goals omega⟩) (by assumption) ?_
          try simp only [Act.put, List.setIfInBounds_toArray]
          refine wpAnyH_take (i := 1) (v := .slice A len cap) rfl (by kernel_rfl) (by kernel_rfl) (by kernel_rfl) (fun _ _ _ h => h) (Or.inl ⟨by kernel_rfl, fun w hSw => by (try dsimp only at hSw); go_simp; all_goals omega⟩) (by assumption) ?_
          try simp only [Act.put]
          refine wpAnyH_take (i := 3) (v := .pointer (some ⟨w1.heap.size, 1, none⟩)) rfl (by kernel_rfl) (by kernel_rfl) (by kernel_rfl) (fun _ _ _ h => h) (Or.inl ⟨by kernel_rfl, fun w hSw => by (try dsimp only at hSw); go_simp; all_goals omega⟩) (by assumption) ?_
          try simp only [Act.put]
          refine wpAnyH_take (i := 4) (v := .slice (some ⟨a, 0, none⟩) l.length c) rfl (by kernel_rfl) (by kernel_rfl) (by kernel_rfl) (fun _ _ _ h => h) (Or.inl ⟨by kernel_rfl, fun w hSw => by (try dsimp only at hSw); go_simp; all_goals omega⟩) (by assumption) ?_
          try simp only [Act.put]
          refine wpAnyH_take (i := 5) (v := .int .i64 (l.length : Int)) rfl (by kernel_rfl) (by kernel_rfl) (by kernel_rfl) (fun _ _ _ h => h) (Or.inl ⟨by kernel_rfl, fun w hSw => by (try dsimp only at hSw); go_simp; all_goals omega⟩) (by assumption) ?_
          try simp only [Act.put]
          refine wpAnyH_ready (rs := [2, 11]) (by kernel_rfl) (by simp) (AllReadyH.cons rfl (fun K hK => ?_) (AllReadyH.cons rfl (fun K hK => ?_) AllReadyH.nil))
          · go_simp
            go_at_call 34
            refine (at_c 3 _ w.heap.size A len cap zs CO_13.out (by omega) (by omega)).mono ?_
            rintro e wz ⟨xv, hxv, rfl, rfl⟩
            refine hK.out _ _ BX_13.out.2 (fun hHeld => ?_)
            clear hK K
            try simp only [Act.put, List.setIfInBounds_toArray, List.set_cons_zero, List.set_cons_succ]
            refine wpAnyH_ready (rs := [6, 11]) (by kernel_rfl) (by simp) (AllReadyH.cons rfl (fun K hK => ?_) (AllReadyH.cons rfl (fun K hK => ?_) AllReadyH.nil))
            · go_simp
              try simp only [if_neg hl4]
              try go_simp
              refine hK.out _ _ BX_13.out.2 (fun hHeld => ?_)
              clear hK K
              try simp only [Act.put, List.setIfInBounds_toArray, List.set_cons_zero, List.set_cons_succ]
              refine wpAnyH_ready (rs := [7, 11]) (by kernel_rfl) (by simp) (AllReadyH.cons rfl (fun K hK => ?_) (AllReadyH.cons rfl (fun K hK => ?_) AllReadyH.nil))
              · go_simp
                go_at_call 33
                refine (KRM.out _ _ GR_13.out.at).mono ?_
                rintro e w14 ⟨R, rr, A2, c2, hPR, rfl, ho, hb⟩
                have Z14 := Lib.hid (within_of hb).size
                have W14 := Lib.hid (within_on W13.out (within_of hb) W13.out.size (.inr (Nat.le_refl _)))
                have CO_14 := Lib.hid (CO_13.out.within (within_of hb) (by omega))
                have GR_14 := Lib.hid (GR_13.out.within (within_of hb) (by omega))
                have BX_14 := Lib.hid (BX_13.out.within (within_of hb) (by omega))
                have SR_14 := Lib.hid (SR_13.out.within (within_of hb) (by omega))
                have TR_14 := Lib.hid (TR_13.out.within (within_of hb) (by omega))
                have RR_14 := Lib.hid (ho)
                clear ho hb
                refine hK.out _ _ BX_14.out.2 (fun hHeld => ?_)
                clear hK K
                try simp only [Act.put, List.setIfInBounds_toArray, List.set_cons_zero, List.set_cons_succ]
                refine wpAnyH_take (i := 8) (v := .tuple #[.agg #[.int .i64 p, .slice A2 R.length c2], .bool rr]) rfl (by kernel_rfl) (by kernel_rfl) (by kernel_rfl) (fun _ _ _ h => h) (Or.inl ⟨by kernel_rfl, fun w hSw => by (try dsimp only at hSw); go_simp; all_goals omega⟩) (by assumption) ?_
                try simp only [Act.put, List.setIfInBounds_toArray]
                refine wpAnyH_take (i := 9) (v := .agg #[.int .i64 p, .slice A2 R.length c2]) rfl (by kernel_rfl) (by kernel_rfl) (by kernel_rfl) (fun _ _ _ h => h) (Or.inl ⟨by kernel_rfl, fun w hSw => by (try dsimp only at hSw); go_simp; all_goals omega⟩) (by assumption) ?_
                try simp only [Act.put]
                refine wpAnyH_take (i := 10) (v := .bool rr) rfl (by kernel_rfl) (by kernel_rfl) (by kernel_rfl) (fun _ _ _ h => h) (Or.inl ⟨by kernel_rfl, fun w hSw => by (try dsimp only at hSw); go_simp; all_goals omega⟩) (by assumption) ?_
                try simp only [Act.put]
                refine wpAnyH_ready (rs := [11]) (by kernel_rfl) (by simp) (AllReadyH.cons rfl (fun K hK => ?_) AllReadyH.nil)
                have hal := new_below w14 (.cells #[.int .i64 0, .slice none 0 0] 30)
                have Z15 := Lib.hid (within_of hal).size
                have W15 := Lib.hid (within_on W14.out (within_of hal) W14.out.size (.inr (Nat.le_refl _)))
                have CO_15 := Lib.hid (CO_14.out.within (within_of hal) (by omega))
                have GR_15 := Lib.hid (GR_14.out.within (within_of hal) (by omega))
                have BX_15 := Lib.hid (BX_14.out.within (within_of hal) (by omega))
                have SR_15 := Lib.hid (SR_14.out.within (within_of hal) (by omega))
                have TR_15 := Lib.hid (TR_14.out.within (within_of hal) (by omega))
                have RR_15 := Lib.hid (RR_14.out.within (within_of hal) (by omega))
                clear hal
                have hsz : (w14.alloc (.cells #[.int .i64 0, .slice none 0 0] 30)).heap.size = w14.heap.size + 1 := by simp
                have Y15 := Lib.hid hsz
                clear hsz
                have RZ_15 := Lib.hid (retz_new w14)
                go_simp
                generalize (w14.alloc (.cells #[.int .i64 0, .slice none 0 0] 30)) = w15 at *
                refine hK.out _ _ BX_15.out.2 (fun hHeld => ?_)
                clear hK K
                try simp only [Act.put, List.setIfInBounds_toArray, List.set_cons_zero, List.set_cons_succ]
                refine wpAnyH_ready (rs := [12]) (by kernel_rfl) (by simp) (AllReadyH.cons rfl (fun K hK => ?_) AllReadyH.nil)
                obtain ⟨⟨r0, r1⟩, f0, f1⟩ := RZ_15.out
                obtain ⟨s0, s1⟩ := ret_cells (p := p) (v := .slice A2 R.length c2) r0 r1
                have hne : w1.heap.size ≠ w14.heap.size := by have := Z1.out; have := Z2.out; have := Z3.out; have := Z4.out; have := Z5.out; have := Z6.out; have := Z7.out; have := Z8.out; have := Z9.out; have := Z10.out; have := Z11.out; have := Z12.out; have := Z13.out; have := Z14.out; have := Z15.out; have := Y2.out; have := Y15.out; omega
                have hkp := two_other (u := .int .i64 p) (v := .slice A2 R.length c2) hne BX_15.out.2.1 BX_15.out.2.2
                have hin := within_set2 w14.heap.size (.int .i64 p) (.slice A2 R.length c2) RZ_15.out
                have Z16 := Lib.hid (hin).size
                have W16 := Lib.hid (within_on W15.out (hin) W15.out.size (by have := W15.out.size; have := Z1.out; have := Z2.out; have := Z3.out; have := Z4.out; have := Z5.out; have := Z6.out; have := Z7.out; have := Z8.out; have := Z9.out; have := Z10.out; have := Z11.out; have := Z12.out; have := Z13.out; have := Z14.out; have := Z15.out; have := Z16.out; have := Y2.out; have := Y15.out; omega))
                have CO_16 := Lib.hid (CO_15.out.within (hin) (by have := Z1.out; have := Z2.out; have := Z3.out; have := Z4.out; have := Z5.out; have := Z6.out; have := Z7.out; have := Z8.out; have := Z9.out; have := Z10.out; have := Z11.out; have := Z12.out; have := Z13.out; have := Z14.out; have := Z15.out; have := Z16.out; have := Y2.out; have := Y15.out; omega))
                have GR_16 := Lib.hid (GR_15.out.within (hin) (by have := Z1.out; have := Z2.out; have := Z3.out; have := Z4.out; have := Z5.out; have := Z6.out; have := Z7.out; have := Z8.out; have := Z9.out; have := Z10.out; have := Z11.out; have := Z12.out; have := Z13.out; have := Z14.out; have := Z15.out; have := Z16.out; have := Y2.out; have := Y15.out; omega))
                have BX_16 := Lib.hid (BX_15.out.within (hin) (by have := Z1.out; have := Z2.out; have := Z3.out; have := Z4.out; have := Z5.out; have := Z6.out; have := Z7.out; have := Z8.out; have := Z9.out; have := Z10.out; have := Z11.out; have := Z12.out; have := Z13.out; have := Z14.out; have := Z15.out; have := Z16.out; have := Y2.out; have := Y15.out; omega))
                have SR_16 := Lib.hid (SR_15.out.within (hin) (by have := Z1.out; have := Z2.out; have := Z3.out; have := Z4.out; have := Z5.out; have := Z6.out; have := Z7.out; have := Z8.out; have := Z9.out; have := Z10.out; have := Z11.out; have := Z12.out; have := Z13.out; have := Z14.out; have := Z15.out; have := Z16.out; have := Y2.out; have := Y15.out; omega))
                have TR_16 := Lib.hid (TR_15.out.within (hin) (by have := Z1.out; have := Z2.out; have := Z3.out; have := Z4.out; have := Z5.out; have := Z6.out; have := Z7.out; have := Z8.out; have := Z9.out; have := Z10.out; have := Z11.out; have := Z12.out; have := Z13.out; have := Z14.out; have := Z15.out; have := Z16.out; have := Y2.out; have := Y15.out; omega))
                have RR_16 := Lib.hid (RR_15.out.within (hin) (by have := Z1.out; have := Z2.out; have := Z3.out; have := Z4.out; have := Z5.out; have := Z6.out; have := Z7.out; have := Z8.out; have := Z9.out; have := Z10.out; have := Z11.out; have := Z12.out; have := Z13.out; have := Z14.out; have := Z15.out; have := Z16.out; have := Y2.out; have := Y15.out; omega))
                clear hin
                go_simp
                refine hK.out _ _ hkp (fun hHeld => ?_)
                clear hK K
                clear r0 r1 f0 f1 hkp
                try simp only [Act.put, List.setIfInBounds_toArray, List.set_cons_zero, List.set_cons_succ]
                refine wpAnyH_take (i := 13) (v := .bool rr) rfl (by kernel_rfl) (by kernel_rfl) (by kernel_rfl) (fun _ _ _ h => h) (Or.inl ⟨by kernel_rfl, fun w hSw => by (try dsimp only at hSw); go_simp; all_goals omega⟩) (by assumption) ?_
                try simp only [Act.put, List.setIfInBounds_toArray]
                refine wpAnyH_done (by kernel_rfl) ?_ _
                obtain ⟨g01, g02, g03⟩ := BX_16.out
                have hspR := implSparse p x y R A2 c2 _ RR_16.out.bars.at hPR.2
                rw [hPR.1] at hspR
                go_wp2_with fail
                clear s0 s1 g01 g02 g03
                refine (hspR).mono ?_
                rintro e w17 ⟨rfl, hb⟩
                have Z17 := Lib.hid (within_of hb).size
                have W17 := Lib.hid (within_on W16.out (within_of hb) W16.out.size (.inr (Nat.le_refl _)))
                have CO_17 := Lib.hid (CO_16.out.within (within_of hb) (by omega))
                have GR_17 := Lib.hid (GR_16.out.within (within_of hb) (by omega))
                have BX_17 := Lib.hid (BX_16.out.within (within_of hb) (by omega))
                have SR_17 := Lib.hid (SR_16.out.within (within_of hb) (by omega))
                have TR_17 := Lib.hid (TR_16.out.within (within_of hb) (by omega))
                have RR_17 := Lib.hid (RR_16.out.within (within_of hb) (by omega))
                clear hb hspR
                obtain ⟨g01, g02, g03⟩ := BX_17.out
                by_cases h2 : x = 2
                · have h2' : (x == 2) = true := by simp [h2]
                  have H2 := Lib.hid h2
                  clear h2
                  by_cases h3 : y = 3
                  · have h3' : (y == 3) = true := by simp [h3]
                    have hs22 := implSparse p 2 2 l (some ⟨a, 0, none⟩) c _ GR_17.out.at hn
                    rw [(HREM.out (by trivial)).2 H2.out h3] at hs22
                    clear h3
                    go_wp2_with fail
                    refine (hs22).mono ?_
                    rintro e w18 ⟨rfl, hb⟩
                    have Z18 := Lib.hid (within_of hb).size
                    have W18 := Lib.hid (within_on W17.out (within_of hb) W17.out.size (.inr (Nat.le_refl _)))
                    have CO_18 := Lib.hid (CO_17.out.within (within_of hb) (by omega))
                    have GR_18 := Lib.hid (GR_17.out.within (within_of hb) (by omega))
                    have BX_18 := Lib.hid (BX_17.out.within (within_of hb) (by omega))
                    have SR_18 := Lib.hid (SR_17.out.within (within_of hb) (by omega))
                    have TR_18 := Lib.hid (TR_17.out.within (within_of hb) (by omega))
                    have RR_18 := Lib.hid (RR_17.out.within (within_of hb) (by omega))
                    clear hb hs22
                    go_wp2_with fail
                    go_meet
                    case rel => exact W18.out
                  · have h3' : (y == 3) = false := by simpa using h3
                    clear h3
                    go_wp2_with fail
                    go_meet
                    case rel => exact W17.out
                · have h2' : (x == 2) = false := by simpa using h2
                  clear h2
                  go_wp2_with fail
                  go_meet
                  case rel => exact W17.out
              · have hal := new_below w13 (.cells #[.int .i64 0, .slice none 0 0] 30)
                have Z14 := Lib.hid (within_of hal).size
                have W14 := Lib.hid (within_on W13.out (within_of hal) W13.out.size (.inr (Nat.le_refl _)))
                have CO_14 := Lib.hid (CO_13.out.within (within_of hal) (by omega))
                have GR_14 := Lib.hid (GR_13.out.within (within_of hal) (by omega))
                have BX_14 := Lib.hid (BX_13.out.within (within_of hal) (by omega))
                have SR_14 := Lib.hid (SR_13.out.within (within_of hal) (by omega))
                have TR_14 := Lib.hid (TR_13.out.within (within_of hal) (by omega))
                clear hal
                have hsz : (w13.alloc (.cells #[.int .i64 0, .slice none 0 0] 30)).heap.size = w13.heap.size + 1 := by simp
                have Y14 := Lib.hid hsz
                clear hsz
                have RZ_14 := Lib.hid (retz_new w13)
                go_simp
                generalize (w13.alloc (.cells #[.int .i64 0, .slice none 0 0] 30)) = w14 at *
                refine hK.out _ _ BX_14.out.2 (fun hHeld => ?_)
                clear hK K
                try simp only [Act.put, List.setIfInBounds_toArray, List.set_cons_zero, List.set_cons_succ]
                refine wpAnyH_ready (rs := [7]) (by kernel_rfl) (by simp) (AllReadyH.cons rfl (fun K hK => ?_) AllReadyH.nil)
                go_simp
                go_at_call 33
                refine (KRM.out _ _ GR_14.out.at).mono ?_
                rintro e w15 ⟨R, rr, A2, c2, hPR, rfl, ho, hb⟩
                have Z15 := Lib.hid (within_of hb).size
                have W15 := Lib.hid (within_on W14.out (within_of hb) W14.out.size (.inr (Nat.le_refl _)))
                have CO_15 := Lib.hid (CO_14.out.within (within_of hb) (by omega))
                have GR_15 := Lib.hid (GR_14.out.within (within_of hb) (by omega))
                have BX_15 := Lib.hid (BX_14.out.within (within_of hb) (by omega))
                have SR_15 := Lib.hid (SR_14.out.within (within_of hb) (by omega))
                have TR_15 := Lib.hid (TR_14.out.within (within_of hb) (by omega))
                have RZ_15 := Lib.hid (RZ_14.out.within (within_of hb) (by omega))
                have RR_15 := Lib.hid (ho)
                clear ho hb
                refine hK.out _ _ BX_15.out.2 (fun hHeld => ?_)
                clear hK K
                try simp only [Act.put, List.setIfInBounds_toArray, List.set_cons_zero, List.set_cons_succ]
                refine wpAnyH_take (i := 8) (v := .tuple #[.agg #[.int .i64 p, .slice A2 R.length c2], .bool rr]) rfl (by kernel_rfl) (by kernel_rfl) (by kernel_rfl) (fun _ _ _ h => h) (Or.inl ⟨by kernel_rfl, fun w hSw => by (try dsimp only at hSw); go_simp; all_goals omega⟩) (by assumption) ?_
                try simp only [Act.put, List.setIfInBounds_toArray]
                refine wpAnyH_take (i := 9) (v := .agg #[.int .i64 p, .slice A2 R.length c2]) rfl (by kernel_rfl) (by kernel_rfl) (by kernel_rfl) (fun _ _ _ h => h) (Or.inl ⟨by kernel_rfl, fun w hSw => by (try dsimp only at hSw); go_simp; all_goals omega⟩) (by assumption) ?_
                try simp only [Act.put]
                refine wpAnyH_take (i := 10) (v := .bool rr) rfl (by kernel_rfl) (by kernel_rfl) (by kernel_rfl) (fun _ _ _ h => h) (Or.inl ⟨by kernel_rfl, fun w hSw => by (try dsimp only at hSw); go_simp; all_goals omega⟩) (by assumption) ?_
                try simp only [Act.put]
                refine wpAnyH_ready (rs := [12]) (by kernel_rfl) (by simp) (AllReadyH.cons rfl (fun K hK => ?_) AllReadyH.nil)
                obtain ⟨⟨r0, r1⟩, f0, f1⟩ := RZ_15.out
                obtain ⟨s0, s1⟩ := ret_cells (p := p) (v := .slice A2 R.length c2) r0 r1
                have hne : w1.heap.size ≠ w13.heap.size := by have := Z1.out; have := Z2.out; have := Z3.out; have := Z4.out; have := Z5.out; have := Z6.out; have := Z7.out; have := Z8.out; have := Z9.out; have := Z10.out; have := Z11.out; have := Z12.out; have := Z13.out; have := Z14.out; have := Z15.out; have := Y2.out; have := Y14.out; omega
                have hkp := two_other (u := .int .i64 p) (v := .slice A2 R.length c2) hne BX_15.out.2.1 BX_15.out.2.2
                have hin := within_set2 w13.heap.size (.int .i64 p) (.slice A2 R.length c2) RZ_15.out
                have Z16 := Lib.hid (hin).size
                have W16 := Lib.hid (within_on W15.out (hin) W15.out.size (by have := W15.out.size; have := Z1.out; have := Z2.out; have := Z3.out; have := Z4.out; have := Z5.out; have := Z6.out; have := Z7.out; have := Z8.out; have := Z9.out; have := Z10.out; have := Z11.out; have := Z12.out; have := Z13.out; have := Z14.out; have := Z15.out; have := Z16.out; have := Y2.out; have := Y14.out; omega))
                have CO_16 := Lib.hid (CO_15.out.within (hin) (by have := Z1.out; have := Z2.out; have := Z3.out; have := Z4.out; have := Z5.out; have := Z6.out; have := Z7.out; have := Z8.out; have := Z9.out; have := Z10.out; have := Z11.out; have := Z12.out; have := Z13.out; have := Z14.out; have := Z15.out; have := Z16.out; have := Y2.out; have := Y14.out; omega))
                have GR_16 := Lib.hid (GR_15.out.within (hin) (by have := Z1.out; have := Z2.out; have := Z3.out; have := Z4.out; have := Z5.out; have := Z6.out; have := Z7.out; have := Z8.out; have := Z9.out; have := Z10.out; have := Z11.out; have := Z12.out; have := Z13.out; have := Z14.out; have := Z15.out; have := Z16.out; have := Y2.out; have := Y14.out; omega))
                have BX_16 := Lib.hid (BX_15.out.within (hin) (by have := Z1.out; have := Z2.out; have := Z3.out; have := Z4.out; have := Z5.out; have := Z6.out; have := Z7.out; have := Z8.out; have := Z9.out; have := Z10.out; have := Z11.out; have := Z12.out; have := Z13.out; have := Z14.out; have := Z15.out; have := Z16.out; have := Y2.out; have := Y14.out; omega))
                have SR_16 := Lib.hid (SR_15.out.within (hin) (by have := Z1.out; have := Z2.out; have := Z3.out; have := Z4.out; have := Z5.out; have := Z6.out; have := Z7.out; have := Z8.out; have := Z9.out; have := Z10.out; have := Z11.out; have := Z12.out; have := Z13.out; have := Z14.out; have := Z15.out; have := Z16.out; have := Y2.out; have := Y14.out; omega))
                have TR_16 := Lib.hid (TR_15.out.within (hin) (by have := Z1.out; have := Z2.out; have := Z3.out; have := Z4.out; have := Z5.out; have := Z6.out; have := Z7.out; have := Z8.out; have := Z9.out; have := Z10.out; have := Z11.out; have := Z12.out; have := Z13.out; have := Z14.out; have := Z15.out; have := Z16.out; have := Y2.out; have := Y14.out; omega))
                have RR_16 := Lib.hid (RR_15.out.within (hin) (by have := Z1.out; have := Z2.out; have := Z3.out; have := Z4.out; have := Z5.out; have := Z6.out; have := Z7.out; have := Z8.out; have := Z9.out; have := Z10.out; have := Z11.out; have := Z12.out; have := Z13.out; have := Z14.out; have := Z15.out; have := Z16.out; have := Y2.out; have := Y14.out; omega))
                clear hin
                go_simp
                refine hK.out _ _ hkp (fun hHeld => ?_)
                clear hK K
                clear r0 r1 f0 f1 hkp
                try simp only [Act.put, List.setIfInBounds_toArray, List.set_cons_zero, List.set_cons_succ]
                refine wpAnyH_take (i := 13) (v := .bool rr) rfl (by kernel_rfl) (by kernel_rfl) (by kernel_rfl) (fun _ _ _ h => h) (Or.inl ⟨by kernel_rfl, fun w hSw => by (try dsimp only at hSw); go_simp; all_goals omega⟩) (by assumption) ?_
                try simp only [Act.put, List.setIfInBounds_toArray]
                refine wpAnyH_done (by kernel_rfl) ?_ _
                obtain ⟨g01, g02, g03⟩ := BX_16.out
                have hspR := implSparse p x y R A2 c2 _ RR_16.out.bars.at hPR.2
                rw [hPR.1] at hspR
                go_wp2_with fail
                clear s0 s1 g01 g02 g03
                refine (hspR).mono ?_
                rintro e w17 ⟨rfl, hb⟩
                have Z17 := Lib.hid (within_of hb).size
                have W17 := Lib.hid (within_on W16.out (within_of hb) W16.out.size (.inr (Nat.le_refl _)))
                have CO_17 := Lib.hid (CO_16.out.within (within_of hb) (by omega))
                have GR_17 := Lib.hid (GR_16.out.within (within_of hb) (by omega))
                have BX_17 := Lib.hid (BX_16.out.within (within_of hb) (by omega))
                have SR_17 := Lib.hid (SR_16.out.within (within_of hb) (by omega))
                have TR_17 := Lib.hid (TR_16.out.within (within_of hb) (by omega))
                have RR_17 := Lib.hid (RR_16.out.within (within_of hb) (by omega))
                clear hb hspR
                obtain ⟨g01, g02, g03⟩ := BX_17.out
                by_cases h2 : x = 2
                · have h2' : (x == 2) = true := by simp [h2]
                  have H2 := Lib.hid h2
                  clear h2
                  by_cases h3 : y = 3
                  · have h3' : (y == 3) = true := by simp [h3]
                    have hs22 := implSparse p 2 2 l (some ⟨a, 0, none⟩) c _ GR_17.out.at hn
                    rw [(HREM.out (by trivial)).2 H2.out h3] at hs22
                    clear h3
                    go_wp2_with fail
                    refine (hs22).mono ?_
                    rintro e w18 ⟨rfl, hb⟩
                    have Z18 := Lib.hid (within_of hb).size
                    have W18 := Lib.hid (within_on W17.out (within_of hb) W17.out.size (.inr (Nat.le_refl _)))
                    have CO_18 := Lib.hid (CO_17.out.within (within_of hb) (by omega))
                    have GR_18 := Lib.hid (GR_17.out.within (within_of hb) (by omega))
                    have BX_18 := Lib.hid (BX_17.out.within (within_of hb) (by omega))
                    have SR_18 := Lib.hid (SR_17.out.within (within_of hb) (by omega))
                    have TR_18 := Lib.hid (TR_17.out.within (within_of hb) (by omega))
                    have RR_18 := Lib.hid (RR_17.out.within (within_of hb) (by omega))
                    clear hb hs22
                    go_wp2_with fail
                    go_meet
                    case rel => exact W18.out
                  · have h3' : (y == 3) = false := by simpa using h3
                    clear h3
                    go_wp2_with fail
                    go_meet
                    case rel => exact W17.out
                · have h2' : (x == 2) = false := by simpa using h2
                  clear h2
                  go_wp2_with fail
                  go_meet
                  case rel => exact W17.out
            · have hal := new_below w13 (.cells #[.int .i64 0, .slice none 0 0] 30)
              have Z14 := Lib.hid (within_of hal).size
              have W14 := Lib.hid (within_on W13.out (within_of hal) W13.out.size (.inr (Nat.le_refl _)))
              have CO_14 := Lib.hid (CO_13.out.within (within_of hal) (by omega))
              have GR_14 := Lib.hid (GR_13.out.within (within_of hal) (by omega))
              have BX_14 := Lib.hid (BX_13.out.within (within_of hal) (by omega))
              have SR_14 := Lib.hid (SR_13.out.within (within_of hal) (by omega))
              have TR_14 := Lib.hid (TR_13.out.within (within_of hal) (by omega))
              clear hal
              have hsz : (w13.alloc (.cells #[.int .i64 0, .slice none 0 0] 30)).heap.size = w13.heap.size + 1 := by simp
              have Y14 := Lib.hid hsz
              clear hsz
              have RZ_14 := Lib.hid (retz_new w13)
              go_simp
              generalize (w13.alloc (.cells #[.int .i64 0, .slice none 0 0] 30)) = w14 at *
              refine hK.out _ _ BX_14.out.2 (fun hHeld => ?_)
              clear hK K
              try simp only [Act.put, List.setIfInBounds_toArray, List.set_cons_zero, List.set_cons_succ]
              refine wpAnyH_ready (rs := [6]) (by kernel_rfl) (by simp) (AllReadyH.cons rfl (fun K hK => ?_) AllReadyH.nil)
              go_simp
              try simp only [if_neg hl4]
              try go_simp
              refine hK.out _ _ BX_14.out.2 (fun hHeld => ?_)
              clear hK K
              try simp only [Act.put, List.setIfInBounds_toArray, List.set_cons_zero, List.set_cons_succ]
              refine wpAnyH_ready (rs := [7]) (by kernel_rfl) (by simp) (AllReadyH.cons rfl (fun K hK => ?_) AllReadyH.nil)
              go_simp
              go_at_call 33
              refine (KRM.out _ _ GR_14.out.at).mono ?_
              rintro e w15 ⟨R, rr, A2, c2, hPR, rfl, ho, hb⟩
              have Z15 := Lib.hid (within_of hb).size
              have W15 := Lib.hid (within_on W14.out (within_of hb) W14.out.size (.inr (Nat.le_refl _)))
              have CO_15 := Lib.hid (CO_14.out.within (within_of hb) (by omega))
              have GR_15 := Lib.hid (GR_14.out.within (within_of hb) (by omega))
              have BX_15 := Lib.hid (BX_14.out.within (within_of hb) (by omega))
              have SR_15 := Lib.hid (SR_14.out.within (within_of hb) (by omega))
              have TR_15 := Lib.hid (TR_14.out.within (within_of hb) (by omega))
              have RZ_15 := Lib.hid (RZ_14.out.within (within_of hb) (by omega))
              have RR_15 := Lib.hid (ho)
              clear ho hb
              refine hK.out _ _ BX_15.out.2 (fun hHeld => ?_)
              clear hK K
              try simp only [Act.put, List.setIfInBounds_toArray, List.set_cons_zero, List.set_cons_succ]
              refine wpAnyH_take (i := 8) (v := .tuple #[.agg #[.int .i64 p, .slice A2 R.length c2], .bool rr]) rfl (by kernel_rfl) (by kernel_rfl) (by kernel_rfl) (fun _ _ _ h => h) (Or.inl ⟨by kernel_rfl, fun w hSw => by (try dsimp only at hSw); go_simp; all_goals omega⟩) (by assumption) ?_
              try simp only [Act.put, List.setIfInBounds_toArray]
              refine wpAnyH_take (i := 9) (v := .agg #[.int .i64 p, .slice A2 R.length c2]) rfl (by kernel_rfl) (by kernel_rfl) (by kernel_rfl) (fun _ _ _ h => h) (Or.inl ⟨by kernel_rfl, fun w hSw => by (try dsimp only at hSw); go_simp; all_goals omega⟩) (by assumption) ?_
              try simp only [Act.put]
              refine wpAnyH_take (i := 10) (v := .bool rr) rfl (by kernel_rfl) (by kernel_rfl) (by kernel_rfl) (fun _ _ _ h => h) (Or.inl ⟨by kernel_rfl, fun w hSw => by (try dsimp only at hSw); go_simp; all_goals omega⟩) (by assumption) ?_
              try simp only [Act.put]
              refine wpAnyH_ready (rs := [12]) (by kernel_rfl) (by simp) (AllReadyH.cons rfl (fun K hK => ?_) AllReadyH.nil)
              obtain ⟨⟨r0, r1⟩, f0, f1⟩ := RZ_15.out
              obtain ⟨s0, s1⟩ := ret_cells (p := p) (v := .slice A2 R.length c2) r0 r1
              have hne : w1.heap.size ≠ w13.heap.size := by have := Z1.out; have := Z2.out; have := Z3.out; have := Z4.out; have := Z5.out; have := Z6.out; have := Z7.out; have := Z8.out; have := Z9.out; have := Z10.out; have := Z11.out; have := Z12.out; have := Z13.out; have := Z14.out; have := Z15.out; have := Y2.out; have := Y14.out; omega
              have hkp := two_other (u := .int .i64 p) (v := .slice A2 R.length c2) hne BX_15.out.2.1 BX_15.out.2.2
              have hin := within_set2 w13.heap.size (.int .i64 p) (.slice A2 R.length c2) RZ_15.out
              have Z16 := Lib.hid (hin).size
              have W16 := Lib.hid (within_on W15.out (hin) W15.out.size (by have := W15.out.size; have := Z1.out; have := Z2.out; have := Z3.out; have := Z4.out; have := Z5.out; have := Z6.out; have := Z7.out; have := Z8.out; have := Z9.out; have := Z10.out; have := Z11.out; have := Z12.out; have := Z13.out; have := Z14.out; have := Z15.out; have := Z16.out; have := Y2.out; have := Y14.out; omega))
              have CO_16 := Lib.hid (CO_15.out.within (hin) (by have := Z1.out; have := Z2.out; have := Z3.out; have := Z4.out; have := Z5.out; have := Z6.out; have := Z7.out; have := Z8.out; have := Z9.out; have := Z10.out; have := Z11.out; have := Z12.out; have := Z13.out; have := Z14.out; have := Z15.out; have := Z16.out; have := Y2.out; have := Y14.out; omega))
              have GR_16 := Lib.hid (GR_15.out.within (hin) (by have := Z1.out; have := Z2.out; have := Z3.out; have := Z4.out; have := Z5.out; have := Z6.out; have := Z7.out; have := Z8.out; have := Z9.out; have := Z10.out; have := Z11.out; have := Z12.out; have := Z13.out; have := Z14.out; have := Z15.out; have := Z16.out; have := Y2.out; have := Y14.out; omega))
              have BX_16 := Lib.hid (BX_15.out.within (hin) (by have := Z1.out; have := Z2.out; have := Z3.out; have := Z4.out; have := Z5.out; have := Z6.out; have := Z7.out; have := Z8.out; have := Z9.out; have := Z10.out; have := Z11.out; have := Z12.out; have := Z13.out; have := Z14.out; have := Z15.out; have := Z16.out; have := Y2.out; have := Y14.out; omega))
              have SR_16 := Lib.hid (SR_15.out.within (hin) (by have := Z1.out; have := Z2.out; have := Z3.out; have := Z4.out; have := Z5.out; have := Z6.out; have := Z7.out; have := Z8.out; have := Z9.out; have := Z10.out; have := Z11.out; have := Z12.out; have := Z13.out; have := Z14.out; have := Z15.out; have := Z16.out; have := Y2.out; have := Y14.out; omega))
              have TR_16 := Lib.hid (TR_15.out.within (hin) (by have := Z1.out; have := Z2.out; have := Z3.out; have := Z4.out; have := Z5.out; have := Z6.out; have := Z7.out; have := Z8.out; have := Z9.out; have := Z10.out; have := Z11.out; have := Z12.out; have := Z13.out; have := Z14.out; have := Z15.out; have := Z16.out; have := Y2.out; have := Y14.out; omega))
              have RR_16 := Lib.hid (RR_15.out.within (hin) (by have := Z1.out; have := Z2.out; have := Z3.out; have := Z4.out; have := Z5.out; have := Z6.out; have := Z7.out; have := Z8.out; have := Z9.out; have := Z10.out; have := Z11.out; have := Z12.out; have := Z13.out; have := Z14.out; have := Z15.out; have := Z16.out; have := Y2.out; have := Y14.out; omega))
              clear hin
              go_simp
              refine hK.out _ _ hkp (fun hHeld => ?_)
              clear hK K
              clear r0 r1 f0 f1 hkp
              try simp only [Act.put, List.setIfInBounds_toArray, List.set_cons_zero, List.set_cons_succ]
              refine wpAnyH_take (i := 13) (v := .bool rr) rfl (by kernel_rfl) (by kernel_rfl) (by kernel_rfl) (fun _ _ _ h => h) (Or.inl ⟨by kernel_rfl, fun w hSw => by (try dsimp only at hSw); go_simp; all_goals omega⟩) (by assumption) ?_
              try simp only [Act.put, List.setIfInBounds_toArray]
              refine wpAnyH_done (by kernel_rfl) ?_ _
              obtain ⟨g01, g02, g03⟩ := BX_16.out
              have hspR := implSparse p x y R A2 c2 _ RR_16.out.bars.at hPR.2
              rw [hPR.1] at hspR
              go_wp2_with fail
              clear s0 s1 g01 g02 g03
              refine (hspR).mono ?_
              rintro e w17 ⟨rfl, hb⟩
              have Z17 := Lib.hid (within_of hb).size
              have W17 := Lib.hid (within_on W16.out (within_of hb) W16.out.size (.inr (Nat.le_refl _)))
              have CO_17 := Lib.hid (CO_16.out.within (within_of hb) (by omega))
              have GR_17 := Lib.hid (GR_16.out.within (within_of hb) (by omega))
              have BX_17 := Lib.hid (BX_16.out.within (within_of hb) (by omega))
              have SR_17 := Lib.hid (SR_16.out.within (within_of hb) (by omega))
              have TR_17 := Lib.hid (TR_16.out.within (within_of hb) (by omega))
              have RR_17 := Lib.hid (RR_16.out.within (within_of hb) (by omega))
              clear hb hspR
              obtain ⟨g01, g02, g03⟩ := BX_17.out
              by_cases h2 : x = 2
              · have h2' : (x == 2) = true := by simp [h2]
                have H2 := Lib.hid h2
                clear h2
                by_cases h3 : y = 3
                · have h3' : (y == 3) = true := by simp [h3]
                  have hs22 := implSparse p 2 2 l (some ⟨a, 0, none⟩) c _ GR_17.out.at hn
                  rw [(HREM.out (by trivial)).2 H2.out h3] at hs22
                  clear h3
                  go_wp2_with fail
                  refine (hs22).mono ?_
                  rintro e w18 ⟨rfl, hb⟩
                  have Z18 := Lib.hid (within_of hb).size
                  have W18 := Lib.hid (within_on W17.out (within_of hb) W17.out.size (.inr (Nat.le_refl _)))
                  have CO_18 := Lib.hid (CO_17.out.within (within_of hb) (by omega))
                  have GR_18 := Lib.hid (GR_17.out.within (within_of hb) (by omega))
                  have BX_18 := Lib.hid (BX_17.out.within (within_of hb) (by omega))
                  have SR_18 := Lib.hid (SR_17.out.within (within_of hb) (by omega))
                  have TR_18 := Lib.hid (TR_17.out.within (within_of hb) (by omega))
                  have RR_18 := Lib.hid (RR_17.out.within (within_of hb) (by omega))
                  clear hb hs22
                  go_wp2_with fail
                  go_meet
                  case rel => exact W18.out
                · have h3' : (y == 3) = false := by simpa using h3
                  clear h3
                  go_wp2_with fail
                  go_meet
                  case rel => exact W17.out
              · have h2' : (x == 2) = false := by simpa using h2
                clear h2
                go_wp2_with fail
                go_meet
                case rel => exact W17.out
          · have hal := new_below w13 (.cells #[.int .i64 0, .slice none 0 0] 30)
            have Z14 := Lib.hid (within_of hal).size
            have W14 := Lib.hid (within_on W13.out (within_of hal) W13.out.size (.inr (Nat.le_refl _)))
            have CO_14 := Lib.hid (CO_13.out.within (within_of hal) (by omega))
            have GR_14 := Lib.hid (GR_13.out.within (within_of hal) (by omega))
            have BX_14 := Lib.hid (BX_13.out.within (within_of hal) (by omega))
            have SR_14 := Lib.hid (SR_13.out.within (within_of hal) (by omega))
            have TR_14 := Lib.hid (TR_13.out.within (within_of hal) (by omega))
            clear hal
            have hsz : (w13.alloc (.cells #[.int .i64 0, .slice none 0 0] 30)).heap.size = w13.heap.size + 1 := by simp
            have Y14 := Lib.hid hsz
            clear hsz
            have RZ_14 := Lib.hid (retz_new w13)
            go_simp
            generalize (w13.alloc (.cells #[.int .i64 0, .slice none 0 0] 30)) = w14 at *
            refine hK.out _ _ BX_14.out.2 (fun hHeld => ?_)
            clear hK K
            try simp only [Act.put, List.setIfInBounds_toArray, List.set_cons_zero, List.set_cons_succ]
            refine wpAnyH_ready (rs := [2]) (by kernel_rfl) (by simp) (AllReadyH.cons rfl (fun K hK => ?_) AllReadyH.nil)
            go_simp
            go_at_call 34
            refine (at_c 3 _ w.heap.size A len cap zs CO_14.out (by omega) (by omega)).mono ?_
            rintro e wz ⟨xv, hxv, rfl, rfl⟩
            refine hK.out _ _ BX_14.out.2 (fun hHeld => ?_)
            clear hK K
            try simp only [Act.put, List.setIfInBounds_toArray, List.set_cons_zero, List.set_cons_succ]
            refine wpAnyH_ready (rs := [6]) (by kernel_rfl) (by simp) (AllReadyH.cons rfl (fun K hK => ?_) AllReadyH.nil)
            go_simp
            try simp only [if_neg hl4]
            try go_simp
            refine hK.out _ _ BX_14.out.2 (fun hHeld => ?_)
            clear hK K
            try simp only [Act.put, List.setIfInBounds_toArray, List.set_cons_zero, List.set_cons_succ]
            refine wpAnyH_ready (rs := [7]) (by kernel_rfl) (by simp) (AllReadyH.cons rfl (fun K hK => ?_) AllReadyH.nil)
            go_simp
            go_at_call 33
            refine (KRM.out _ _ GR_14.out.at).mono ?_
            rintro e w15 ⟨R, rr, A2, c2, hPR, rfl, ho, hb⟩
            have Z15 := Lib.hid (within_of hb).size
            have W15 := Lib.hid (within_on W14.out (within_of hb) W14.out.size (.inr (Nat.le_refl _)))
            have CO_15 := Lib.hid (CO_14.out.within (within_of hb) (by omega))
            have GR_15 := Lib.hid (GR_14.out.within (within_of hb) (by omega))
            have BX_15 := Lib.hid (BX_14.out.within (within_of hb) (by omega))
            have SR_15 := Lib.hid (SR_14.out.within (within_of hb) (by omega))
            have TR_15 := Lib.hid (TR_14.out.within (within_of hb) (by omega))
            have RZ_15 := Lib.hid (RZ_14.out.within (within_of hb) (by omega))
            have RR_15 := Lib.hid (ho)
            clear ho hb
            refine hK.out _ _ BX_15.out.2 (fun hHeld => ?_)
            clear hK K
            try simp only [Act.put, List.setIfInBounds_toArray, List.set_cons_zero, List.set_cons_succ]
            refine wpAnyH_take (i := 8) (v := .tuple #[.agg #[.int .i64 p, .slice A2 R.length c2], .bool rr]) rfl (by kernel_rfl) (by kernel_rfl) (by kernel_rfl) (fun _ _ _ h => h) (Or.inl ⟨by kernel_rfl, fun w hSw => by (try dsimp only at hSw); go_simp; all_goals omega⟩) (by assumption) ?_
            try simp only [Act.put, List.setIfInBounds_toArray]
            refine wpAnyH_take (i := 9) (v := .agg #[.int .i64 p, .slice A2 R.length c2]) rfl (by kernel_rfl) (by kernel_rfl) (by kernel_rfl) (fun _ _ _ h => h) (Or.inl ⟨by kernel_rfl, fun w hSw => by (try dsimp only at hSw); go_simp; all_goals omega⟩) (by assumption) ?_
            try simp only [Act.put]
            refine wpAnyH_take (i := 10) (v := .bool rr) rfl (by kernel_rfl) (by kernel_rfl) (by kernel_rfl) (fun _ _ _ h => h) (Or.inl ⟨by kernel_rfl, fun w hSw => by (try dsimp only at hSw); go_simp; all_goals omega⟩) (by assumption) ?_
            try simp only [Act.put]
            refine wpAnyH_ready (rs := [12]) (by kernel_rfl) (by simp) (AllReadyH.cons rfl (fun K hK => ?_) AllReadyH.nil)
            obtain ⟨⟨r0, r1⟩, f0, f1⟩ := RZ_15.out
            obtain ⟨s0, s1⟩ := ret_cells (p := p) (v := .slice A2 R.length c2) r0 r1
            have hne : w1.heap.size ≠ w13.heap.size := by have := Z1.out; have := Z2.out; have := Z3.out; have := Z4.out; have := Z5.out; have := Z6.out; have := Z7.out; have := Z8.out; have := Z9.out; have := Z10.out; have := Z11.out; have := Z12.out; have := Z13.out; have := Z14.out; have := Z15.out; have := Y2.out; have := Y14.out; omega
            have hkp := two_other (u := .int .i64 p) (v := .slice A2 R.length c2) hne BX_15.out.2.1 BX_15.out.2.2
            have hin := within_set2 w13.heap.size (.int .i64 p) (.slice A2 R.length c2) RZ_15.out
            have Z16 := Lib.hid (hin).size
            have W16 := Lib.hid (within_on W15.out (hin) W15.out.size (by have := W15.out.size; have := Z1.out; have := Z2.out; have := Z3.out; have := Z4.out; have := Z5.out; have := Z6.out; have := Z7.out; have := Z8.out; have := Z9.out; have := Z10.out; have := Z11.out; have := Z12.out; have := Z13.out; have := Z14.out; have := Z15.out; have := Z16.out; have := Y2.out; have := Y14.out; omega))
            have CO_16 := Lib.hid (CO_15.out.within (hin) (by have := Z1.out; have := Z2.out; have := Z3.out; have := Z4.out; have := Z5.out; have := Z6.out; have := Z7.out; have := Z8.out; have := Z9.out; have := Z10.out; have := Z11.out; have := Z12.out; have := Z13.out; have := Z14.out; have := Z15.out; have := Z16.out; have := Y2.out; have := Y14.out; omega))
            have GR_16 := Lib.hid (GR_15.out.within (hin) (by have := Z1.out; have := Z2.out; have := Z3.out; have := Z4.out; have := Z5.out; have := Z6.out; have := Z7.out; have := Z8.out; have := Z9.out; have := Z10.out; have := Z11.out; have := Z12.out; have := Z13.out; have := Z14.out; have := Z15.out; have := Z16.out; have := Y2.out; have := Y14.out; omega))
            have BX_16 := Lib.hid (BX_15.out.within (hin) (by have := Z1.out; have := Z2.out; have := Z3.out; have := Z4.out; have := Z5.out; have := Z6.out; have := Z7.out; have := Z8.out; have := Z9.out; have := Z10.out; have := Z11.out; have := Z12.out; have := Z13.out; have := Z14.out; have := Z15.out; have := Z16.out; have := Y2.out; have := Y14.out; omega))
            have SR_16 := Lib.hid (SR_15.out.within (hin) (by have := Z1.out; have := Z2.out; have := Z3.out; have := Z4.out; have := Z5.out; have := Z6.out; have := Z7.out; have := Z8.out; have := Z9.out; have := Z10.out; have := Z11.out; have := Z12.out; have := Z13.out; have := Z14.out; have := Z15.out; have := Z16.out; have := Y2.out; have := Y14.out; omega))
            have TR_16 := Lib.hid (TR_15.out.within (hin) (by have := Z1.out; have := Z2.out; have := Z3.out; have := Z4.out; have := Z5.out; have := Z6.out; have := Z7.out; have := Z8.out; have := Z9.out; have := Z10.out; have := Z11.out; have := Z12.out; have := Z13.out; have := Z14.out; have := Z15.out; have := Z16.out; have := Y2.out; have := Y14.out; omega))
            have RR_16 := Lib.hid (RR_15.out.within (hin) (by have := Z1.out; have := Z2.out; have := Z3.out; have := Z4.out; have := Z5.out; have := Z6.out; have := Z7.out; have := Z8.out; have := Z9.out; have := Z10.out; have := Z11.out; have := Z12.out; have := Z13.out; have := Z14.out; have := Z15.out; have := Z16.out; have := Y2.out; have := Y14.out; omega))
            clear hin
            go_simp
            refine hK.out _ _ hkp (fun hHeld => ?_)
            clear hK K
            clear r0 r1 f0 f1 hkp
            try simp only [Act.put, List.setIfInBounds_toArray, List.set_cons_zero, List.set_cons_succ]
            refine wpAnyH_take (i := 13) (v := .bool rr) rfl (by kernel_rfl) (by kernel_rfl) (by kernel_rfl) (fun _ _ _ h => h) (Or.inl ⟨by kernel_rfl, fun w hSw => by (try dsimp only at hSw); go_simp; all_goals omega⟩) (by assumption) ?_
            try simp only [Act.put, List.setIfInBounds_toArray]
            refine wpAnyH_done (by kernel_rfl) ?_ _
            obtain ⟨g01, g02, g03⟩ := BX_16.out
            have hspR := implSparse p x y R A2 c2 _ RR_16.out.bars.at hPR.2
            rw [hPR.1] at hspR
            go_wp2_with fail
            clear s0 s1 g01 g02 g03
            refine (hspR).mono ?_
            rintro e w17 ⟨rfl, hb⟩
            have Z17 := Lib.hid (within_of hb).size
            have W17 := Lib.hid (within_on W16.out (within_of hb) W16.out.size (.inr (Nat.le_refl _)))
            have CO_17 := Lib.hid (CO_16.out.within (within_of hb) (by omega))
            have GR_17 := Lib.hid (GR_16.out.within (within_of hb) (by omega))
            have BX_17 := Lib.hid (BX_16.out.within (within_of hb) (by omega))
            have SR_17 := Lib.hid (SR_16.out.within (within_of hb) (by omega))
            have TR_17 := Lib.hid (TR_16.out.within (within_of hb) (by omega))
            have RR_17 := Lib.hid (RR_16.out.within (within_of hb) (by omega))
            clear hb hspR
            obtain ⟨g01, g02, g03⟩ := BX_17.out
            by_cases h2 : x = 2
            · have h2' : (x == 2) = true := by simp [h2]
              have H2 := Lib.hid h2
              clear h2
              by_cases h3 : y = 3
              · have h3' : (y == 3) = true := by simp [h3]
                have hs22 := implSparse p 2 2 l (some ⟨a, 0, none⟩) c _ GR_17.out.at hn
                rw [(HREM.out (by trivial)).2 H2.out h3] at hs22
                clear h3
                go_wp2_with fail
                refine (hs22).mono ?_
                rintro e w18 ⟨rfl, hb⟩
                have Z18 := Lib.hid (within_of hb).size
                have W18 := Lib.hid (within_on W17.out (within_of hb) W17.out.size (.inr (Nat.le_refl _)))
                have CO_18 := Lib.hid (CO_17.out.within (within_of hb) (by omega))
                have GR_18 := Lib.hid (GR_17.out.within (within_of hb) (by omega))
                have BX_18 := Lib.hid (BX_17.out.within (within_of hb) (by omega))
                have SR_18 := Lib.hid (SR_17.out.within (within_of hb) (by omega))
                have TR_18 := Lib.hid (TR_17.out.within (within_of hb) (by omega))
                have RR_18 := Lib.hid (RR_17.out.within (within_of hb) (by omega))
                clear hb hs22
                go_wp2_with fail
                go_meet
                case rel => exact W18.out
              · have h3' : (y == 3) = false := by simpa using h3
                clear h3
                go_wp2_with fail
                go_meet
                case rel => exact W17.out
            · have h2' : (x == 2) = false := by simpa using h2
              clear h2
              go_wp2_with fail
              go_meet
              case rel => exact W17.out
        ·     have hl1 : ¬ (0 : Int) < (l.length : Int) := by omega
              have hl2 : decide ((0 : Int) < (l.length : Int)) = false := by simpa using hl0
              go_wp2_with fail
              go_meet
              case rel => exact W12.out
      case rest =>
        have W900 := Lib.hid hcut
        have CO_900 := Lib.hid (hc0.out.kept hcut)
        clear hcut
        go_wp2_with fail
        have hcc := (drawSpan_c wc A len cap zs (CO_900.out.upto W900.out.size) hl48)
        refine (hcc).mono ?_
        rintro e w901 ⟨q, b, d, m, AZ, cz, QQ, mm, hP2, hQm, rfl, ho, hz, hb⟩
        have Z901 := Lib.hid (within_of hb).size
        have W901 := Lib.hid (within_on W900.out (within_of hb) W900.out.size (.inr (Nat.le_refl _)))
        have CO_901 := Lib.hid (CO_900.out.within (within_of hb) (by omega))
        have GM_901 := Lib.hid ((own_in ho).bars)
        have ZR_901 := Lib.hid (hz)
        have HP2 := Lib.hid hP2
        have hm : m.length ≤ 1048576 := by have := HP2.out.1; omega
        have HQM := Lib.hid hQm
        have hzl : (setL QQ mm).length ≤ 1048576 := Nat.le_trans (setL_len QQ mm) (by have := HQM.out.1; omega)
        clear ho hz hb hP2 hQm hcc
        go_wp2_with fail
        have hal := new_below w901 (.cells #[.int .i64 q, .slice (some ⟨b, 0, none⟩) m.length d] 30)
        have Z902 := Lib.hid (within_of hal).size
        have W902 := Lib.hid (within_on W901.out (within_of hal) W901.out.size (.inr (Nat.le_refl _)))
        have CO_902 := Lib.hid (CO_901.out.within (within_of hal) (by omega))
        have GM_902 := Lib.hid (GM_901.out.within (within_of hal) (by omega))
        have ZR_902 := Lib.hid (ZR_901.out.within (within_of hal) (by omega))
        clear hal
        have hsz : (w901.alloc (.cells #[.int .i64 q, .slice (some ⟨b, 0, none⟩) m.length d] 30)).heap.size = w901.heap.size + 1 := by simp
        have Y902 := Lib.hid hsz
        clear hsz
        have BM_902 := Lib.hid (box_new w901 q (.slice (some ⟨b, 0, none⟩) m.length d) 30)
        generalize (w901.alloc (.cells #[.int .i64 q, .slice (some ⟨b, 0, none⟩) m.length d] 30)) = w902 at *
        have hcc := (drawRange_c _ A len cap zs (CO_902.out.upto W902.out.size) hl48)
        refine (hcc).mono ?_
        rintro e w903 ⟨u, v, huv, rfl, hb⟩
        have Z903 := Lib.hid (within_of hb).size
        have W903 := Lib.hid (within_on W902.out (within_of hb) W902.out.size (.inr (Nat.le_refl _)))
        have CO_903 := Lib.hid (CO_902.out.within (within_of hb) (by omega))
        have GM_903 := Lib.hid (GM_902.out.within (within_of hb) (by omega))
        have ZR_903 := Lib.hid (ZR_902.out.within (within_of hb) (by omega))
        have BM_903 := Lib.hid (BM_902.out.within (within_of hb) (by omega))
        clear hb hcc
        have hsp := spanL_len m (memS (setL QQ mm))
        have HRS := specRange u v
        have HRI := implRange u v
        generalize rangeB u v = rr at *
        have hrr : (rr == rr) = true := by simp
        have kk := BM_903.out.2
        have hdr : Below w903.heap.size w903 w903.drew := (Below.refl _ _).drew
        have Z904 := Lib.hid (within_of hdr).size
        have W904 := Lib.hid (within_on W903.out (within_of hdr) W903.out.size (.inr (Nat.le_refl _)))
        have CO_904 := Lib.hid (CO_903.out.within (within_of hdr) (by omega))
        have GM_904 := Lib.hid (GM_903.out.within (within_of hdr) (by omega))
        have ZR_904 := Lib.hid (ZR_903.out.within (within_of hdr) (by omega))
        have BM_904 := Lib.hid (BM_903.out.within (within_of hdr) (by omega))
        clear hdr
        obtain ⟨g01, g02, g03⟩ := BM_904.out
        go_wp2_with fail
        go_region_held3 (fun W' => W'.cell? ⟨w901.heap.size, 0, none⟩ = some (.int .i64 q) ∧ W'.cell? ⟨w901.heap.size, 1, none⟩ = some (.slice (some ⟨b, 0, none⟩) m.length d))
          (first | exact kk | exact BM_905.out.2 | exact BM_906.out.2 | exact BM_907.out.2 | fail)
          (first
            | (go_at_call 14; refine (implSpan q m (setL QQ mm) (some ⟨b, 0, none⟩) AZ d cz _ _ _ GM_904.out.at ZR_904.out hm hzl HP2.out.2.wf (setL_wf QQ mm HQM.out.1)).mono ?_; rintro e w905 ⟨AU, cu, rfl, hs, hb⟩; have Z905 := Lib.hid (within_of hb).size; have W905 := Lib.hid (within_on W904.out (within_of hb) W904.out.size (.inr (Nat.le_refl _))); have CO_905 := Lib.hid (CO_904.out.within (within_of hb) (by omega)); have GM_905 := Lib.hid (GM_904.out.within (within_of hb) (by omega)); have ZR_905 := Lib.hid (ZR_904.out.within (within_of hb) (by omega)); have BM_905 := Lib.hid (BM_904.out.within (within_of hb) (by omega)); have UR_905 := Lib.hid hs.reads; clear hs hb)
            | (go_at_call 11; refine (specSpan q m (setL QQ mm) (some ⟨b, 0, none⟩) AZ d cz _ _ _ GM_905.out.at ZR_905.out hm hzl).mono ?_; rintro e w906 ⟨AV, cv, rfl, hs, hb⟩; have Z906 := Lib.hid (within_of hb).size; have W906 := Lib.hid (within_on W905.out (within_of hb) W905.out.size (.inr (Nat.le_refl _))); have CO_906 := Lib.hid (CO_905.out.within (within_of hb) (by omega)); have GM_906 := Lib.hid (GM_905.out.within (within_of hb) (by omega)); have ZR_906 := Lib.hid (ZR_905.out.within (within_of hb) (by omega)); have BM_906 := Lib.hid (BM_905.out.within (within_of hb) (by omega)); have UR_906 := Lib.hid (UR_905.out.within (within_of hb) (by omega)); have VR_906 := Lib.hid hs.reads; clear hs hb)
            | (go_at_call 32; refine (sameInts_c _ AU AV cu cv _ _ _ _ _ UR_906.out VR_906.out (by omega)).mono ?_; rintro e w907 ⟨rfl, hb⟩; have Z907 := Lib.hid (within_of hb).size; have W907 := Lib.hid (within_on W906.out (within_of hb) W906.out.size (.inr (Nat.le_refl _))); have CO_907 := Lib.hid (CO_906.out.within (within_of hb) (by omega)); have GM_907 := Lib.hid (GM_906.out.within (within_of hb) (by omega)); have ZR_907 := Lib.hid (ZR_906.out.within (within_of hb) (by omega)); have BM_907 := Lib.hid (BM_906.out.within (within_of hb) (by omega)); have UR_907 := Lib.hid (UR_906.out.within (within_of hb) (by omega)); have VR_907 := Lib.hid (VR_906.out.within (within_of hb) (by omega)); clear hb)
            | (go_at_call 29; refine (HRI _).mono ?_; rintro e w908 ⟨rfl, rfl⟩)
            | (go_at_call 28; refine (HRS _).mono ?_; rintro e w909 ⟨rfl, rfl⟩))
        go_wp2_with fail
        go_ret
        exact ⟨by simp, W907.out⟩
  · have hbs : bs = false := (HTRUE.out hbo).1
    rw [hbo] at HOI HOS HTRUE
    rw [hbs] at HSI HSS HREM HRM
    have KOI := Lib.hid HOI
    have KOS := Lib.hid HOS
    have KSI := Lib.hid HSI
    have KSS := Lib.hid HSS
    have KTI := Lib.hid HTI
    have KTS := Lib.hid HTS
    have KFI := Lib.hid HFI
    have KFS := Lib.hid HFS
    clear HOI HOS HSI HSS HTI HTS HFI HFS
    clear HRM
    refine (KOI.out (some ⟨a, 0, none⟩) c _ GR_2.out.at).mono ?_
    rintro e w3 ⟨AS, cs, rfl, hs, hb⟩
    have Z3 := Lib.hid (within_of hb).size
    have W3 := Lib.hid (within_on W2.out (within_of hb) W2.out.size (.inr (Nat.le_refl _)))
    have CO_3 := Lib.hid (CO_2.out.within (within_of hb) (by omega))
    have GR_3 := Lib.hid (GR_2.out.within (within_of hb) (by omega))
    have BX_3 := Lib.hid (BX_2.out.within (within_of hb) (by omega))
    have SR_3 := Lib.hid (hs.reads)
    clear hs hb
    obtain ⟨g01, g02, g03⟩ := BX_3.out
    go_wp2_with fail
    clear g01 g02 g03
    refine (KOS.out (some ⟨a, 0, none⟩) c _ GR_3.out.at).mono ?_
    rintro e w4 ⟨AT, ct, rfl, hs, hb⟩
    have Z4 := Lib.hid (within_of hb).size
    have W4 := Lib.hid (within_on W3.out (within_of hb) W3.out.size (.inr (Nat.le_refl _)))
    have CO_4 := Lib.hid (CO_3.out.within (within_of hb) (by omega))
    have GR_4 := Lib.hid (GR_3.out.within (within_of hb) (by omega))
    have BX_4 := Lib.hid (BX_3.out.within (within_of hb) (by omega))
    have SR_4 := Lib.hid (SR_3.out.within (within_of hb) (by omega))
    have TR_4 := Lib.hid (hs.reads)
    clear hs hb
    obtain ⟨g01, g02, g03⟩ := BX_4.out
    go_wp2_with fail
    clear g01 g02 g03
    refine (KSI.out (some ⟨a, 0, none⟩) c _ GR_4.out.at).mono ?_
    rintro e w5 ⟨rfl, hb⟩
    have Z5 := Lib.hid (within_of hb).size
    have W5 := Lib.hid (within_on W4.out (within_of hb) W4.out.size (.inr (Nat.le_refl _)))
    have CO_5 := Lib.hid (CO_4.out.within (within_of hb) (by omega))
    have GR_5 := Lib.hid (GR_4.out.within (within_of hb) (by omega))
    have BX_5 := Lib.hid (BX_4.out.within (within_of hb) (by omega))
    have SR_5 := Lib.hid (SR_4.out.within (within_of hb) (by omega))
    have TR_5 := Lib.hid (TR_4.out.within (within_of hb) (by omega))
    clear hb
    have hdr : Below w5.heap.size w5 w5.drew := (Below.refl _ _).drew
    have Z6 := Lib.hid (within_of hdr).size
    have W6 := Lib.hid (within_on W5.out (within_of hdr) W5.out.size (.inr (Nat.le_refl _)))
    have CO_6 := Lib.hid (CO_5.out.within (within_of hdr) (by omega))
    have GR_6 := Lib.hid (GR_5.out.within (within_of hdr) (by omega))
    have BX_6 := Lib.hid (BX_5.out.within (within_of hdr) (by omega))
    have SR_6 := Lib.hid (SR_5.out.within (within_of hdr) (by omega))
    have TR_6 := Lib.hid (TR_5.out.within (within_of hdr) (by omega))
    clear hdr
    obtain ⟨g01, g02, g03⟩ := BX_6.out
    go_wp2_with fail
    clear g01 g02 g03
    refine wp_region_held_drew (S := (fun W' : World => W'.cell? ⟨w1.heap.size, 0, none⟩ = some (.int .i64 p) ∧ W'.cell? ⟨w1.heap.size, 1, none⟩ = some (.slice (some ⟨a, 0, none⟩) l.length c))) (by kernel_rfl) ?_ (fun hHeld => ?_)
    · exact BX_6.out.2
    refine wpAnyH_take (i := 0) (v := .bool true) rfl (by kernel_rfl) (by kernel_rfl) (by kernel_rfl) (fun _ _ _ h => h) (Or.inl ⟨by kernel_rfl, fun w hSw => by (try dsimp only at hSw); go_simp; all_goals omega⟩) (by assumption) ?_
    try simp only [Act.put, List.setIfInBounds_toArray]
    refine wpAnyH_take (i := 1) (v := .bool true) rfl (by kernel_rfl) (by kernel_rfl) (by kernel_rfl) (fun _ _ _ h => h) (Or.inl ⟨by kernel_rfl, fun w hSw => by (try dsimp only at hSw); go_simp; all_goals omega⟩) (by assumption) ?_
    try simp only [Act.put]
    refine wpAnyH_take (i := 2) (v := .bool false) rfl (by kernel_rfl) (by kernel_rfl) (by kernel_rfl) (fun _ _ _ h => h) (Or.inl ⟨by kernel_rfl, fun w hSw => by (try dsimp only at hSw); go_simp; all_goals omega⟩) (by assumption) ?_
    try simp only [Act.put]
    refine wpAnyH_take (i := 3) (v := .bool false) rfl (by kernel_rfl) (by kernel_rfl) (by kernel_rfl) (fun _ _ _ h => h) (Or.inl ⟨by kernel_rfl, fun w hSw => by (try dsimp only at hSw); go_simp; all_goals omega⟩) (by assumption) ?_
    try simp only [Act.put]
    refine wpAnyH_take (i := 4) (v := .slice AS OL.length cs) rfl (by kernel_rfl) (by kernel_rfl) (by kernel_rfl) (fun _ _ _ h => h) (Or.inl ⟨by kernel_rfl, fun w hSw => by (try dsimp only at hSw); go_simp; all_goals omega⟩) (by assumption) ?_
    try simp only [Act.put]
    refine wpAnyH_take (i := 5) (v := .slice AT OL.length ct) rfl (by kernel_rfl) (by kernel_rfl) (by kernel_rfl) (fun _ _ _ h => h) (Or.inl ⟨by kernel_rfl, fun w hSw => by (try dsimp only at hSw); go_simp; all_goals omega⟩) (by assumption) ?_
    try simp only [Act.put]
    refine wpAnyH_ready (rs := [6]) (by kernel_rfl) (by simp) (AllReadyH.cons rfl (fun K hK => ?_) AllReadyH.nil)
    go_simp
    go_at_call 32
    refine (sameInts_c OL AS AT cs ct _ _ _ _ _ SR_6.out TR_6.out (by omega)).mono ?_
    rintro e w7 ⟨rfl, hb⟩
    have Z7 := Lib.hid (within_of hb).size
    have W7 := Lib.hid (within_on W6.out (within_of hb) W6.out.size (.inr (Nat.le_refl _)))
    have CO_7 := Lib.hid (CO_6.out.within (within_of hb) (by omega))
    have GR_7 := Lib.hid (GR_6.out.within (within_of hb) (by omega))
    have BX_7 := Lib.hid (BX_6.out.within (within_of hb) (by omega))
    have SR_7 := Lib.hid (SR_6.out.within (within_of hb) (by omega))
    have TR_7 := Lib.hid (TR_6.out.within (within_of hb) (by omega))
    clear hb
    refine hK.out _ _ BX_7.out.2 (fun hHeld => ?_)
    clear hK K
    try simp only [Act.put, List.setIfInBounds_toArray, List.set_cons_zero, List.set_cons_succ]
    refine wpAnyH_take (i := 7) (v := .bool false) rfl (by kernel_rfl) (by kernel_rfl) (by kernel_rfl) (fun _ _ _ h => h) (Or.inl ⟨by kernel_rfl, fun w hSw => by (try dsimp only at hSw); go_simp; all_goals omega⟩) (by assumption) ?_
    try simp only [Act.put, List.setIfInBounds_toArray]
    refine wpAnyH_take (i := 8) (v := .bool false) rfl (by kernel_rfl) (by kernel_rfl) (by kernel_rfl) (fun _ _ _ h => h) (Or.inl ⟨by kernel_rfl, fun w hSw => by (try dsimp only at hSw); go_simp; all_goals omega⟩) (by assumption) ?_
    try simp only [Act.put]
    refine wpAnyH_take (i := 9) (v := .bool false) rfl (by kernel_rfl) (by kernel_rfl) (by kernel_rfl) (fun _ _ _ h => h) (Or.inl ⟨by kernel_rfl, fun w hSw => by (try dsimp only at hSw); go_simp; all_goals omega⟩) (by assumption) ?_
    try simp only [Act.put]
    refine wpAnyH_take (i := 10) (v := .bool false) rfl (by kernel_rfl) (by kernel_rfl) (by kernel_rfl) (fun _ _ _ h => h) (Or.inl ⟨by kernel_rfl, fun w hSw => by (try dsimp only at hSw); go_simp; all_goals omega⟩) (by assumption) ?_
    try simp only [Act.put]
    refine wpAnyH_take (i := 11) (v := .agg #[.int .i64 p, .slice (some ⟨a, 0, none⟩) l.length c]) rfl (by kernel_rfl) (by kernel_rfl) (by kernel_rfl) (fun _ _ _ h => h) (Or.inl ⟨by kernel_rfl, fun w hSw => by (try dsimp only at hSw); go_simp; all_goals omega⟩) (by assumption) ?_
    try simp only [Act.put]
    refine wpAnyH_take (i := 12) (v := .int .i64 x) rfl (by kernel_rfl) (by kernel_rfl) (by kernel_rfl) (fun _ _ _ h => h) (Or.inl ⟨by kernel_rfl, fun w hSw => by (try dsimp only at hSw); go_simp; all_goals omega⟩) (by assumption) ?_
    try simp only [Act.put]
    refine wpAnyH_take (i := 13) (v := .int .i64 y) rfl (by kernel_rfl) (by kernel_rfl) (by kernel_rfl) (fun _ _ _ h => h) (Or.inl ⟨by kernel_rfl, fun w hSw => by (try dsimp only at hSw); go_simp; all_goals omega⟩) (by assumption) ?_
    try simp only [Act.put]
    refine wpAnyH_ready (rs := [14]) (by kernel_rfl) (by simp) (AllReadyH.cons rfl (fun K hK => ?_) AllReadyH.nil)
    go_simp
    go_at_call 20
    refine (KSS.out (some ⟨a, 0, none⟩) c _ GR_7.out.at).mono ?_
    rintro e w8 ⟨rfl, hb⟩
    have Z8 := Lib.hid (within_of hb).size
    have W8 := Lib.hid (within_on W7.out (within_of hb) W7.out.size (.inr (Nat.le_refl _)))
    have CO_8 := Lib.hid (CO_7.out.within (within_of hb) (by omega))
    have GR_8 := Lib.hid (GR_7.out.within (within_of hb) (by omega))
    have BX_8 := Lib.hid (BX_7.out.within (within_of hb) (by omega))
    have SR_8 := Lib.hid (SR_7.out.within (within_of hb) (by omega))
    have TR_8 := Lib.hid (TR_7.out.within (within_of hb) (by omega))
    clear hb
    refine hK.out _ _ BX_8.out.2 (fun hHeld => ?_)
    clear hK K
    try simp only [Act.put, List.setIfInBounds_toArray, List.set_cons_zero, List.set_cons_succ]
    refine wpAnyH_take (i := 15) (v := .bool false) rfl (by kernel_rfl) (by kernel_rfl) (by kernel_rfl) (fun _ _ _ h => h) (Or.inl ⟨by kernel_rfl, fun w hSw => by (try dsimp only at hSw); go_simp; all_goals omega⟩) (by assumption) ?_
    try simp only [Act.put, List.setIfInBounds_toArray]
    refine wpAnyH_take (i := 16) (v := .bool false) rfl (by kernel_rfl) (by kernel_rfl) (by kernel_rfl) (fun _ _ _ h => h) (Or.inl ⟨by kernel_rfl, fun w hSw => by (try dsimp only at hSw); go_simp; all_goals omega⟩) (by assumption) ?_
    try simp only [Act.put]
    refine wpAnyH_take (i := 17) (v := .bool false) rfl (by kernel_rfl) (by kernel_rfl) (by kernel_rfl) (fun _ _ _ h => h) (Or.inl ⟨by kernel_rfl, fun w hSw => by (try dsimp only at hSw); go_simp; all_goals omega⟩) (by assumption) ?_
    try simp only [Act.put]
    refine wpAnyH_take (i := 18) (v := .bool true) rfl (by kernel_rfl) (by kernel_rfl) (by kernel_rfl) (fun _ _ _ h => h) (Or.inl ⟨by kernel_rfl, fun w hSw => by (try dsimp only at hSw); go_simp; all_goals omega⟩) (by assumption) ?_
    try simp only [Act.put]
    refine wpAnyH_take (i := 19) (v := .bool true) rfl (by kernel_rfl) (by kernel_rfl) (by kernel_rfl) (fun _ _ _ h => h) (Or.inl ⟨by kernel_rfl, fun w hSw => by (try dsimp only at hSw); go_simp; all_goals omega⟩) (by assumption) ?_
    try simp only [Act.put]
    refine wpAnyH_take (i := 20) (v := .bool false) rfl (by kernel_rfl) (by kernel_rfl) (by kernel_rfl) (fun _ _ _ h => h) (Or.inl ⟨by kernel_rfl, fun w hSw => by (try dsimp only at hSw); go_simp; all_goals omega⟩) (by assumption) ?_
    try simp only [Act.put]
    refine wpAnyH_take (i := 21) (v := .bool false) rfl (by kernel_rfl) (by kernel_rfl) (by kernel_rfl) (fun _ _ _ h => h) (Or.inl ⟨by kernel_rfl, fun w hSw => by (try dsimp only at hSw); go_simp; all_goals omega⟩) (by assumption) ?_
    try simp only [Act.put]
    refine wpAnyH_take (i := 22) (v := .bool false) rfl (by kernel_rfl) (by kernel_rfl) (by kernel_rfl) (fun _ _ _ h => h) (Or.inl ⟨by kernel_rfl, fun w hSw => by (try dsimp only at hSw); go_simp; all_goals omega⟩) (by assumption) ?_
    try simp only [Act.put]
    refine wpAnyH_take (i := 23) (v := .bool false) rfl (by kernel_rfl) (by kernel_rfl) (by kernel_rfl) (fun _ _ _ h => h) (Or.inl ⟨by kernel_rfl, fun w hSw => by (try dsimp only at hSw); go_simp; all_goals omega⟩) (by assumption) ?_
    try simp only [Act.put]
    refine wpAnyH_take (i := 24) (v := .agg #[.int .i64 p, .slice (some ⟨a, 0, none⟩) l.length c]) rfl (by kernel_rfl) (by kernel_rfl) (by kernel_rfl) (fun _ _ _ h => h) (Or.inl ⟨by kernel_rfl, fun w hSw => by (try dsimp only at hSw); go_simp; all_goals omega⟩) (by assumption) ?_
    try simp only [Act.put]
    refine wpAnyH_take (i := 25) (v := .int .i64 x) rfl (by kernel_rfl) (by kernel_rfl) (by kernel_rfl) (fun _ _ _ h => h) (Or.inl ⟨by kernel_rfl, fun w hSw => by (try dsimp only at hSw); go_simp; all_goals omega⟩) (by assumption) ?_
    try simp only [Act.put]
    refine wpAnyH_take (i := 26) (v := .int .i64 y) rfl (by kernel_rfl) (by kernel_rfl) (by kernel_rfl) (fun _ _ _ h => h) (Or.inl ⟨by kernel_rfl, fun w hSw => by (try dsimp only at hSw); go_simp; all_goals omega⟩) (by assumption) ?_
    try simp only [Act.put]
    refine wpAnyH_take (i := 28) (v := .agg #[.int .i64 p, .slice (some ⟨a, 0, none⟩) l.length c]) rfl (by kernel_rfl) (by kernel_rfl) (by kernel_rfl) (fun _ _ _ h => h) (Or.inl ⟨by kernel_rfl, fun w hSw => by (try dsimp only at hSw); go_simp; all_goals omega⟩) (by assumption) ?_
    try simp only [Act.put]
    refine wpAnyH_take (i := 29) (v := .int .i64 x) rfl (by kernel_rfl) (by kernel_rfl) (by kernel_rfl) (fun _ _ _ h => h) (Or.inl ⟨by kernel_rfl, fun w hSw => by (try dsimp only at hSw); go_simp; all_goals omega⟩) (by assumption) ?_
    try simp only [Act.put]
    refine wpAnyH_take (i := 30) (v := .int .i64 y) rfl (by kernel_rfl) (by kernel_rfl) (by kernel_rfl) (fun _ _ _ h => h) (Or.inl ⟨by kernel_rfl, fun w hSw => by (try dsimp only at hSw); go_simp; all_goals omega⟩) (by assumption) ?_
    try simp only [Act.put]
    refine wpAnyH_ready (rs := [27]) (by kernel_rfl) (by simp) (AllReadyH.cons rfl (fun K hK => ?_) AllReadyH.nil)
    go_simp
    go_at_call 23
    refine (KTI.out (some ⟨a, 0, none⟩) c _ GR_8.out.at).mono ?_
    rintro e w9 ⟨rfl, hb⟩
    have Z9 := Lib.hid (within_of hb).size
    have W9 := Lib.hid (within_on W8.out (within_of hb) W8.out.size (.inr (Nat.le_refl _)))
    have CO_9 := Lib.hid (CO_8.out.within (within_of hb) (by omega))
    have GR_9 := Lib.hid (GR_8.out.within (within_of hb) (by omega))
    have BX_9 := Lib.hid (BX_8.out.within (within_of hb) (by omega))
    have SR_9 := Lib.hid (SR_8.out.within (within_of hb) (by omega))
    have TR_9 := Lib.hid (TR_8.out.within (within_of hb) (by omega))
    clear hb
    refine hK.out _ _ BX_9.out.2 (fun hHeld => ?_)
    clear hK K
    try simp only [Act.put, List.setIfInBounds_toArray, List.set_cons_zero, List.set_cons_succ]
    refine wpAnyH_ready (rs := [31]) (by kernel_rfl) (by simp) (AllReadyH.cons rfl (fun K hK => ?_) AllReadyH.nil)
    go_simp
    go_at_call 22
    refine (KTS.out (some ⟨a, 0, none⟩) c _ GR_9.out.at).mono ?_
    rintro e w10 ⟨rfl, hb⟩
    have Z10 := Lib.hid (within_of hb).size
    have W10 := Lib.hid (within_on W9.out (within_of hb) W9.out.size (.inr (Nat.le_refl _)))
    have CO_10 := Lib.hid (CO_9.out.within (within_of hb) (by omega))
    have GR_10 := Lib.hid (GR_9.out.within (within_of hb) (by omega))
    have BX_10 := Lib.hid (BX_9.out.within (within_of hb) (by omega))
    have SR_10 := Lib.hid (SR_9.out.within (within_of hb) (by omega))
    have TR_10 := Lib.hid (TR_9.out.within (within_of hb) (by omega))
    clear hb
    refine hK.out _ _ BX_10.out.2 (fun hHeld => ?_)
    clear hK K
    try simp only [Act.put, List.setIfInBounds_toArray, List.set_cons_zero, List.set_cons_succ]
    refine wpAnyH_take (i := 32) (v := .bool false) rfl (by kernel_rfl) (by kernel_rfl) (by kernel_rfl) (fun _ _ _ h => h) (Or.inl ⟨by kernel_rfl, fun w hSw => by (try dsimp only at hSw); go_simp; all_goals omega⟩) (by assumption) ?_
    try simp only [Act.put, List.setIfInBounds_toArray]
    refine wpAnyH_take (i := 33) (v := .bool false) rfl (by kernel_rfl) (by kernel_rfl) (by kernel_rfl) (fun _ _ _ h => h) (Or.inl ⟨by kernel_rfl, fun w hSw => by (try dsimp only at hSw); go_simp; all_goals omega⟩) (by assumption) ?_
    try simp only [Act.put]
    refine wpAnyH_take (i := 34) (v := .bool false) rfl (by kernel_rfl) (by kernel_rfl) (by kernel_rfl) (fun _ _ _ h => h) (Or.inl ⟨by kernel_rfl, fun w hSw => by (try dsimp only at hSw); go_simp; all_goals omega⟩) (by assumption) ?_
    try simp only [Act.put]
    refine wpAnyH_take (i := 35) (v := .agg #[.int .i64 p, .slice (some ⟨a, 0, none⟩) l.length c]) rfl (by kernel_rfl) (by kernel_rfl) (by kernel_rfl) (fun _ _ _ h => h) (Or.inl ⟨by kernel_rfl, fun w hSw => by (try dsimp only at hSw); go_simp; all_goals omega⟩) (by assumption) ?_
    try simp only [Act.put]
    refine wpAnyH_take (i := 36) (v := .int .i64 x) rfl (by kernel_rfl) (by kernel_rfl) (by kernel_rfl) (fun _ _ _ h => h) (Or.inl ⟨by kernel_rfl, fun w hSw => by (try dsimp only at hSw); go_simp; all_goals omega⟩) (by assumption) ?_
    try simp only [Act.put]
    refine wpAnyH_take (i := 37) (v := .int .i64 y) rfl (by kernel_rfl) (by kernel_rfl) (by kernel_rfl) (fun _ _ _ h => h) (Or.inl ⟨by kernel_rfl, fun w hSw => by (try dsimp only at hSw); go_simp; all_goals omega⟩) (by assumption) ?_
    try simp only [Act.put]
    refine wpAnyH_take (i := 39) (v := .agg #[.int .i64 p, .slice (some ⟨a, 0, none⟩) l.length c]) rfl (by kernel_rfl) (by kernel_rfl) (by kernel_rfl) (fun _ _ _ h => h) (Or.inl ⟨by kernel_rfl, fun w hSw => by (try dsimp only at hSw); go_simp; all_goals omega⟩) (by assumption) ?_
    try simp only [Act.put]
    refine wpAnyH_take (i := 40) (v := .int .i64 x) rfl (by kernel_rfl) (by kernel_rfl) (by kernel_rfl) (fun _ _ _ h => h) (Or.inl ⟨by kernel_rfl, fun w hSw => by (try dsimp only at hSw); go_simp; all_goals omega⟩) (by assumption) ?_
    try simp only [Act.put]
    refine wpAnyH_take (i := 41) (v := .int .i64 y) rfl (by kernel_rfl) (by kernel_rfl) (by kernel_rfl) (fun _ _ _ h => h) (Or.inl ⟨by kernel_rfl, fun w hSw => by (try dsimp only at hSw); go_simp; all_goals omega⟩) (by assumption) ?_
    try simp only [Act.put]
    refine wpAnyH_ready (rs := [38]) (by kernel_rfl) (by simp) (AllReadyH.cons rfl (fun K hK => ?_) AllReadyH.nil)
    go_simp
    go_at_call 27
    refine (KFI.out (some ⟨a, 0, none⟩) c _ GR_10.out.at).mono ?_
    rintro e w11 ⟨rfl, hb⟩
    have Z11 := Lib.hid (within_of hb).size
    have W11 := Lib.hid (within_on W10.out (within_of hb) W10.out.size (.inr (Nat.le_refl _)))
    have CO_11 := Lib.hid (CO_10.out.within (within_of hb) (by omega))
    have GR_11 := Lib.hid (GR_10.out.within (within_of hb) (by omega))
    have BX_11 := Lib.hid (BX_10.out.within (within_of hb) (by omega))
    have SR_11 := Lib.hid (SR_10.out.within (within_of hb) (by omega))
    have TR_11 := Lib.hid (TR_10.out.within (within_of hb) (by omega))
    clear hb
    refine hK.out _ _ BX_11.out.2 (fun hHeld => ?_)
    clear hK K
    try simp only [Act.put, List.setIfInBounds_toArray, List.set_cons_zero, List.set_cons_succ]
    refine wpAnyH_ready (rs := [42]) (by kernel_rfl) (by simp) (AllReadyH.cons rfl (fun K hK => ?_) AllReadyH.nil)
    go_simp
    go_at_call 26
    refine (KFS.out (some ⟨a, 0, none⟩) c _ GR_11.out.at).mono ?_
    rintro e w12 ⟨rfl, hb⟩
    have Z12 := Lib.hid (within_of hb).size
    have W12 := Lib.hid (within_on W11.out (within_of hb) W11.out.size (.inr (Nat.le_refl _)))
    have CO_12 := Lib.hid (CO_11.out.within (within_of hb) (by omega))
    have GR_12 := Lib.hid (GR_11.out.within (within_of hb) (by omega))
    have BX_12 := Lib.hid (BX_11.out.within (within_of hb) (by omega))
    have SR_12 := Lib.hid (SR_11.out.within (within_of hb) (by omega))
    have TR_12 := Lib.hid (TR_11.out.within (within_of hb) (by omega))
    clear hb
    refine hK.out _ _ BX_12.out.2 (fun hHeld => ?_)
    clear hK K
    try simp only [Act.put, List.setIfInBounds_toArray, List.set_cons_zero, List.set_cons_succ]
    refine wpAnyH_take (i := 43) (v := .bool false) rfl (by kernel_rfl) (by kernel_rfl) (by kernel_rfl) (fun _ _ _ h => h) (Or.inl ⟨by kernel_rfl, fun w hSw => by (try dsimp only at hSw); go_simp; all_goals omega⟩) (by assumption) ?_
    try simp only [Act.put, List.setIfInBounds_toArray]
    refine wpAnyH_take (i := 44) (v := .bool false) rfl (by kernel_rfl) (by kernel_rfl) (by kernel_rfl) (fun _ _ _ h => h) (Or.inl ⟨by kernel_rfl, fun w hSw => by (try dsimp only at hSw); go_simp; all_goals omega⟩) (by assumption) ?_
    try simp only [Act.put]
    refine wpAnyH_done (by kernel_rfl) ?_ _
    obtain ⟨g01, g02, g03⟩ := BX_12.out
    obtain ⟨_, ht1, ht2, ht3⟩ := HTRUE.out (by trivial)
    have hspl := spanL_len l (memS OL)
    go_wp2_with fail
    clear g01 g02 g03
    refine (implSpan p l OL (some ⟨a, 0, none⟩) AT c ct _ _ _ GR_12.out.at TR_12.out hn (by omega) HSM.out HWO.out).mono ?_
    rintro e w13 ⟨AX, cx, rfl, _, hb⟩
    have Z13 := Lib.hid (within_of hb).size
    have W13 := Lib.hid (within_on W12.out (within_of hb) W12.out.size (.inr (Nat.le_refl _)))
    have CO_13 := Lib.hid (CO_12.out.within (within_of hb) (by omega))
    have GR_13 := Lib.hid (GR_12.out.within (within_of hb) (by omega))
    have BX_13 := Lib.hid (BX_12.out.within (within_of hb) (by omega))
    have SR_13 := Lib.hid (SR_12.out.within (within_of hb) (by omega))
    have TR_13 := Lib.hid (TR_12.out.within (within_of hb) (by omega))
    clear hb
    obtain ⟨g01, g02, g03⟩ := BX_13.out
    go_upto_if 108 with fail
    clear g01 g02 g03
    go_cut [] (fun wx => Below w.heap.size w wx)
    case first =>
      go_wp2_with fail
      go_meet
      case rel => exact W13.out
    case rest =>
      have W900 := Lib.hid hcut
      have CO_900 := Lib.hid (hc0.out.kept hcut)
      clear hcut
      go_wp2_with fail
      have hcc := (drawSpan_c wc A len cap zs (CO_900.out.upto W900.out.size) hl48)
      refine (hcc).mono ?_
      rintro e w901 ⟨q, b, d, m, AZ, cz, QQ, mm, hP2, hQm, rfl, ho, hz, hb⟩
      have Z901 := Lib.hid (within_of hb).size
      have W901 := Lib.hid (within_on W900.out (within_of hb) W900.out.size (.inr (Nat.le_refl _)))
      have CO_901 := Lib.hid (CO_900.out.within (within_of hb) (by omega))
      have GM_901 := Lib.hid ((own_in ho).bars)
      have ZR_901 := Lib.hid (hz)
      have HP2 := Lib.hid hP2
      have hm : m.length ≤ 1048576 := by have := HP2.out.1; omega
      have HQM := Lib.hid hQm
      have hzl : (setL QQ mm).length ≤ 1048576 := Nat.le_trans (setL_len QQ mm) (by have := HQM.out.1; omega)
      clear ho hz hb hP2 hQm hcc
      go_wp2_with fail
      have hal := new_below w901 (.cells #[.int .i64 q, .slice (some ⟨b, 0, none⟩) m.length d] 30)
      have Z902 := Lib.hid (within_of hal).size
      have W902 := Lib.hid (within_on W901.out (within_of hal) W901.out.size (.inr (Nat.le_refl _)))
      have CO_902 := Lib.hid (CO_901.out.within (within_of hal) (by omega))
      have GM_902 := Lib.hid (GM_901.out.within (within_of hal) (by omega))
      have ZR_902 := Lib.hid (ZR_901.out.within (within_of hal) (by omega))
      clear hal
      have hsz : (w901.alloc (.cells #[.int .i64 q, .slice (some ⟨b, 0, none⟩) m.length d] 30)).heap.size = w901.heap.size + 1 := by simp
      have Y902 := Lib.hid hsz
      clear hsz
      have BM_902 := Lib.hid (box_new w901 q (.slice (some ⟨b, 0, none⟩) m.length d) 30)
      generalize (w901.alloc (.cells #[.int .i64 q, .slice (some ⟨b, 0, none⟩) m.length d] 30)) = w902 at *
      have hcc := (drawRange_c _ A len cap zs (CO_902.out.upto W902.out.size) hl48)
      refine (hcc).mono ?_
      rintro e w903 ⟨u, v, huv, rfl, hb⟩
      have Z903 := Lib.hid (within_of hb).size
      have W903 := Lib.hid (within_on W902.out (within_of hb) W902.out.size (.inr (Nat.le_refl _)))
      have CO_903 := Lib.hid (CO_902.out.within (within_of hb) (by omega))
      have GM_903 := Lib.hid (GM_902.out.within (within_of hb) (by omega))
      have ZR_903 := Lib.hid (ZR_902.out.within (within_of hb) (by omega))
      have BM_903 := Lib.hid (BM_902.out.within (within_of hb) (by omega))
      clear hb hcc
      have hsp := spanL_len m (memS (setL QQ mm))
      have HRS := specRange u v
      have HRI := implRange u v
      generalize rangeB u v = rr at *
      have hrr : (rr == rr) = true := by simp
      have kk := BM_903.out.2
      have hdr : Below w903.heap.size w903 w903.drew := (Below.refl _ _).drew
      have Z904 := Lib.hid (within_of hdr).size
      have W904 := Lib.hid (within_on W903.out (within_of hdr) W903.out.size (.inr (Nat.le_refl _)))
      have CO_904 := Lib.hid (CO_903.out.within (within_of hdr) (by omega))
      have GM_904 := Lib.hid (GM_903.out.within (within_of hdr) (by omega))
      have ZR_904 := Lib.hid (ZR_903.out.within (within_of hdr) (by omega))
      have BM_904 := Lib.hid (BM_903.out.within (within_of hdr) (by omega))
      clear hdr
      obtain ⟨g01, g02, g03⟩ := BM_904.out
      go_wp2_with fail
      go_region_held3 (fun W' => W'.cell? ⟨w901.heap.size, 0, none⟩ = some (.int .i64 q) ∧ W'.cell? ⟨w901.heap.size, 1, none⟩ = some (.slice (some ⟨b, 0, none⟩) m.length d))
        (first | exact kk | exact BM_905.out.2 | exact BM_906.out.2 | exact BM_907.out.2 | fail)
        (first
          | (go_at_call 14; refine (implSpan q m (setL QQ mm) (some ⟨b, 0, none⟩) AZ d cz _ _ _ GM_904.out.at ZR_904.out hm hzl HP2.out.2.wf (setL_wf QQ mm HQM.out.1)).mono ?_; rintro e w905 ⟨AU, cu, rfl, hs, hb⟩; have Z905 := Lib.hid (within_of hb).size; have W905 := Lib.hid (within_on W904.out (within_of hb) W904.out.size (.inr (Nat.le_refl _))); have CO_905 := Lib.hid (CO_904.out.within (within_of hb) (by omega)); have GM_905 := Lib.hid (GM_904.out.within (within_of hb) (by omega)); have ZR_905 := Lib.hid (ZR_904.out.within (within_of hb) (by omega)); have BM_905 := Lib.hid (BM_904.out.within (within_of hb) (by omega)); have UR_905 := Lib.hid hs.reads; clear hs hb)
          | (go_at_call 11; refine (specSpan q m (setL QQ mm) (some ⟨b, 0, none⟩) AZ d cz _ _ _ GM_905.out.at ZR_905.out hm hzl).mono ?_; rintro e w906 ⟨AV, cv, rfl, hs, hb⟩; have Z906 := Lib.hid (within_of hb).size; have W906 := Lib.hid (within_on W905.out (within_of hb) W905.out.size (.inr (Nat.le_refl _))); have CO_906 := Lib.hid (CO_905.out.within (within_of hb) (by omega)); have GM_906 := Lib.hid (GM_905.out.within (within_of hb) (by omega)); have ZR_906 := Lib.hid (ZR_905.out.within (within_of hb) (by omega)); have BM_906 := Lib.hid (BM_905.out.within (within_of hb) (by omega)); have UR_906 := Lib.hid (UR_905.out.within (within_of hb) (by omega)); have VR_906 := Lib.hid hs.reads; clear hs hb)
          | (go_at_call 32; refine (sameInts_c _ AU AV cu cv _ _ _ _ _ UR_906.out VR_906.out (by omega)).mono ?_; rintro e w907 ⟨rfl, hb⟩; have Z907 := Lib.hid (within_of hb).size; have W907 := Lib.hid (within_on W906.out (within_of hb) W906.out.size (.inr (Nat.le_refl _))); have CO_907 := Lib.hid (CO_906.out.within (within_of hb) (by omega)); have GM_907 := Lib.hid (GM_906.out.within (within_of hb) (by omega)); have ZR_907 := Lib.hid (ZR_906.out.within (within_of hb) (by omega)); have BM_907 := Lib.hid (BM_906.out.within (within_of hb) (by omega)); have UR_907 := Lib.hid (UR_906.out.within (within_of hb) (by omega)); have VR_907 := Lib.hid (VR_906.out.within (within_of hb) (by omega)); clear hb)
          | (go_at_call 29; refine (HRI _).mono ?_; rintro e w908 ⟨rfl, rfl⟩)
          | (go_at_call 28; refine (HRS _).mono ?_; rintro e w909 ⟨rfl, rfl⟩))
      go_wp2_with fail
      go_ret
      exact ⟨by simp, W907.out⟩
end Go.Proofs.Ytimgkekllanhmaa
