/- What spec.l4Copy answers. No condition. -/
import Derived.Test.YtggibhhdnlifcaaCpR
import Derived.Deep.RegionHeld3
namespace Go.Proofs.Ytggibhhdnlifcaa
open Go.RowKit

set_option maxHeartbeats 8000000 in
set_option maxRecDepth 100000 in
theorem copyPeb_c (AF AT AZ : Option Addr) (cF cT cZ lo hi : Nat) (F T Z : List Int) (w : World) (h : Peb3 w lo hi AF AT AZ F T Z) (hF : F.length ≤ 1048576) (hT : T.length ≤ 1048576) (hZ : Z.length ≤ 1048576) :
    Calls Try.prog 130 #[pebV AF F.length cF AT T.length cT AZ Z.length cZ] w (PebR w F T Z) := by
  have W0 := Lib.hid (Below.refl w.heap.size w)
  have H_0 := Lib.hid (h)
  have hhi : hi ≤ w.heap.size := h.f.1
  clear h
  have Z1 := Lib.hid (within_alloc w (.cells #[(.slice AF F.length cF), (.slice AT T.length cT), (.slice AZ Z.length cZ)] 63)).size
  have W1 := Lib.hid (within_on W0.out (within_alloc w (.cells #[(.slice AF F.length cF), (.slice AT T.length cT), (.slice AZ Z.length cZ)] 63)) W0.out.size (.inr (Nat.le_refl _)))
  have H_1 := Lib.hid (H_0.out.within (within_alloc w (.cells #[(.slice AF F.length cF), (.slice AT T.length cT), (.slice AZ Z.length cZ)] 63)) (by omega))
  have Y1 := Lib.hid (show (w.alloc (.cells #[(.slice AF F.length cF), (.slice AT T.length cT), (.slice AZ Z.length cZ)] 63)).heap.size = w.heap.size + 1 by simp)
  have hnew := cel3_new w (.slice AF F.length cF) (.slice AT T.length cT) (.slice AZ Z.length cZ) 63
  have GA_1 := Lib.hid hnew
  clear hnew
  have Z2 := Lib.hid (within_alloc (w.alloc (.cells #[(.slice AF F.length cF), (.slice AT T.length cT), (.slice AZ Z.length cZ)] 63)) (.cells #[(.slice none 0 0), (.slice none 0 0), (.slice none 0 0)] 63)).size
  have W2 := Lib.hid (within_on W1.out (within_alloc (w.alloc (.cells #[(.slice AF F.length cF), (.slice AT T.length cT), (.slice AZ Z.length cZ)] 63)) (.cells #[(.slice none 0 0), (.slice none 0 0), (.slice none 0 0)] 63)) W1.out.size (.inr (Nat.le_refl _)))
  have H_2 := Lib.hid (H_1.out.within (within_alloc (w.alloc (.cells #[(.slice AF F.length cF), (.slice AT T.length cT), (.slice AZ Z.length cZ)] 63)) (.cells #[(.slice none 0 0), (.slice none 0 0), (.slice none 0 0)] 63)) (by omega))
  have GA_2 := Lib.hid (GA_1.out.within (within_alloc (w.alloc (.cells #[(.slice AF F.length cF), (.slice AT T.length cT), (.slice AZ Z.length cZ)] 63)) (.cells #[(.slice none 0 0), (.slice none 0 0), (.slice none 0 0)] 63)) (by omega))
  have Y2 := Lib.hid (show ((w.alloc (.cells #[(.slice AF F.length cF), (.slice AT T.length cT), (.slice AZ Z.length cZ)] 63)).alloc (.cells #[(.slice none 0 0), (.slice none 0 0), (.slice none 0 0)] 63)).heap.size = (w.alloc (.cells #[(.slice AF F.length cF), (.slice AT T.length cT), (.slice AZ Z.length cZ)] 63)).heap.size + 1 by simp)
  have hnew := cel3_new (w.alloc (.cells #[(.slice AF F.length cF), (.slice AT T.length cT), (.slice AZ Z.length cZ)] 63)) (.slice none 0 0) (.slice none 0 0) (.slice none 0 0) 63
  rw [show (w.alloc (.cells #[(.slice AF F.length cF), (.slice AT T.length cT), (.slice AZ Z.length cZ)] 63)).heap.size = w.heap.size + 1 by simp] at hnew
  have GR_2 := Lib.hid hnew
  clear hnew
  have CI := Lib.hid (⟨GA_2.out, GR_2.out, H_2.out, W2.out⟩ : CpS w ((w.alloc (.cells #[(.slice AF F.length cF), (.slice AT T.length cT), (.slice AZ Z.length cZ)] 63)).alloc (.cells #[(.slice none 0 0), (.slice none 0 0), (.slice none 0 0)] 63)) AF cF AT cT AZ cZ lo hi F T Z)
  have SZ := Lib.hid (show ((w.alloc (.cells #[(.slice AF F.length cF), (.slice AT T.length cT), (.slice AZ Z.length cZ)] 63)).alloc (.cells #[(.slice none 0 0), (.slice none 0 0), (.slice none 0 0)] 63)).heap.size = w.heap.size + 1 + 1 by simp)
  go_enter Try.func130, Try.ntmps130
  go_wp2_with fail
  generalize ((w.alloc (.cells #[(.slice AF F.length cF), (.slice AT T.length cT), (.slice AZ Z.length cZ)] 63)).alloc (.cells #[(.slice none 0 0), (.slice none 0 0), (.slice none 0 0)] 63)) = w2 at *
  generalize (w.alloc (.cells #[(.slice AF F.length cF), (.slice AT T.length cT), (.slice AZ Z.length cZ)] 63)) = w1 at *
  have CD := Lib.hid (CI.out.below (Below.refl _ _).drew)
  have SD := Lib.hid (show w2.drew.heap.size = w.heap.size + 1 + 1 from SZ.out)
  clear CI
  refine wp_region_held_drew (S := (fun W' : World => W'.cell? ⟨w.heap.size, 0, none⟩ = some (.slice AF F.length cF) ∧ W'.cell? ⟨w.heap.size, 1, none⟩ = some (.slice AT T.length cT) ∧ W'.cell? ⟨w.heap.size, 2, none⟩ = some (.slice AZ Z.length cZ))) (by kernel_rfl) ?_ (fun hHeld => ?_)
  · exact CD.out.cells
  clear hHeld
  generalize w2.drew = WD at *
  have CR := Lib.hid (CpR.nil WD (w.heap.size + 1 + 1) (Nat.le_of_eq SD.out.symm))
  refine wpAnyH_take (i := 1) (v := .pointer (some ⟨w.heap.size, 0, none⟩)) rfl (by kernel_rfl) (by kernel_rfl) (by kernel_rfl) (fun _ _ _ h => h) (Or.inl ⟨by kernel_rfl, fun w hSw => by (try dsimp only at hSw); go_simp; all_goals first | omega | rfl⟩) CD.out.cells ?_
  refine wpAnyH_take (i := 2) (v := .slice AF F.length cF) rfl (by kernel_rfl) (by kernel_rfl) (by kernel_rfl) (fun _ _ _ h => h) (Or.inl ⟨by kernel_rfl, fun w hSw => by (try dsimp only at hSw); go_simp; all_goals first | omega | rfl⟩) CD.out.cells ?_
  refine wpAnyH_take (i := 5) (v := .pointer (some ⟨w.heap.size, 1, none⟩)) rfl (by kernel_rfl) (by kernel_rfl) (by kernel_rfl) (fun _ _ _ h => h) (Or.inl ⟨by kernel_rfl, fun w hSw => by (try dsimp only at hSw); go_simp; all_goals first | omega | rfl⟩) CD.out.cells ?_
  refine wpAnyH_take (i := 6) (v := .slice AT T.length cT) rfl (by kernel_rfl) (by kernel_rfl) (by kernel_rfl) (fun _ _ _ h => h) (Or.inl ⟨by kernel_rfl, fun w hSw => by (try dsimp only at hSw); go_simp; all_goals first | omega | rfl⟩) CD.out.cells ?_
  refine wpAnyH_take (i := 9) (v := .pointer (some ⟨w.heap.size, 2, none⟩)) rfl (by kernel_rfl) (by kernel_rfl) (by kernel_rfl) (fun _ _ _ h => h) (Or.inl ⟨by kernel_rfl, fun w hSw => by (try dsimp only at hSw); go_simp; all_goals first | omega | rfl⟩) CD.out.cells ?_
  refine wpAnyH_take (i := 10) (v := .slice AZ Z.length cZ) rfl (by kernel_rfl) (by kernel_rfl) (by kernel_rfl) (fun _ _ _ h => h) (Or.inl ⟨by kernel_rfl, fun w hSw => by (try dsimp only at hSw); go_simp; all_goals first | omega | rfl⟩) CD.out.cells ?_
  refine as_fun ?_
  intro R hR
  have j : ∀ (W : World) (f t z : Nat × Nat) (gF : Nat) (AF' : Option Addr) (cF' : Nat) (gT : Nat) (AT' : Option Addr) (cT' : Nat) (gZ : Nat) (AZ' : Option Addr) (cZ' : Nat), CpS w W AF cF AT cT AZ cZ lo hi F T Z → CpR W (w.heap.size + 1 + 1) f t z AF' cF' AT' cT' AZ' cZ' F T Z → R 2 #[true, true, true, true, true, true, true, true, true, true, true, true, false, false] ⟨#[pebV AF F.length cF AT T.length cT AZ Z.length cZ, .pointer (some ⟨w.heap.size, 0, none⟩), .pointer (some ⟨w.heap.size + 1, 0, none⟩), .slice (some ⟨gF, 0, none⟩) 0 0, .pointer (some ⟨w.heap.size, 0, none⟩), .slice AF F.length cF, .slice AF' F.length cF', .slice (some ⟨gT, 0, none⟩) 0 0, .pointer (some ⟨w.heap.size, 1, none⟩), .slice AT T.length cT, .slice AT' T.length cT', .slice (some ⟨gZ, 0, none⟩) 0 0, .pointer (some ⟨w.heap.size, 2, none⟩), .slice AZ Z.length cZ, .slice AZ' Z.length cZ', undef], []⟩ W := by
    intro W f t z gF AF' cF' gT AT' cT' gZ AZ' cZ' hc hr
    rw [hR]
    refine wpAnyH_take (i := 12) (v := .agg #[.slice AF' F.length cF', .slice AT' T.length cT', .slice AZ' Z.length cZ']) rfl (by kernel_rfl) (by kernel_rfl) (by kernel_rfl) (fun _ _ _ h => h) (Or.inl ⟨by kernel_rfl, fun w hSw => by (try dsimp only at hSw); go_simp; all_goals first | omega | rfl⟩) hc.cells ?_
    refine wpAnyH_ready (rs := [13]) (by kernel_rfl) (by simp) (AllReadyH.cons rfl (fun K hK => ?_) AllReadyH.nil)
    obtain ⟨q0, q1, q2, q3, q4, q5⟩ := hc.ret.cells
    have hr2 := ret3 hc.ret (.slice AF' F.length cF') (.slice AT' T.length cT') (.slice AZ' Z.length cZ')
    have RR := Lib.hid hr2.1
    have RW := Lib.hid hr2.2
    have RC := Lib.hid (hc.arg.within hr2.2 (by omega)).cells
    have HC := Lib.hid hc
    have HR := Lib.hid hr
    clear hr2 hc hr
    go_simp
    clear q0 q1 q2 q3 q4 q5
    refine hK.out _ _ ⟨RC.out.1, RC.out.2.1, RC.out.2.2.1⟩ (fun hHeld => ?_)
    clear hK K hHeld
    refine wpAnyH_done (by kernel_rfl) ?_ _
    obtain ⟨s0, s1, s2, _⟩ := RR.out.cells
    go_wp2_with fail
    refine bodyPost_ret (v := pebV AF' F.length cF' AT' T.length cT' AZ' Z.length cZ') ?_ rfl ?_
    · simp [results, Try.results130, go_sem, s0, s1, s2]
    · have lf := HR.out.lf
      have lt := HR.out.lt
      have lz := HR.out.lz
      have hh := HR.out.own.hi
      have rs := RW.out.size
      have ho := HR.out.own.within RW.out (by omega) (by omega) (by omega)
      exact ⟨AF', cF', AT', cT', AZ', cZ', rfl, ho.own3R (by omega) (by omega) (by omega) (Nat.le_refl _), within_on HC.out.bel RW.out HC.out.bel.size (.inl (by omega))⟩
  have J222 := Lib.hid j
  clear j
  have j : ∀ (W : World) (f t z : Nat × Nat) (gF : Nat) (AF' : Option Addr) (cF' : Nat) (gT : Nat) (AT' : Option Addr) (cT' : Nat) (gZ : Nat), CpS w W AF cF AT cT AZ cZ lo hi F T Z → CpR W (w.heap.size + 1 + 1) f t z AF' cF' AT' cT' (some ⟨gZ, 0, none⟩) 0 F T [] → R 3 #[true, true, true, true, true, true, true, true, true, true, true, false, false, false] ⟨#[pebV AF F.length cF AT T.length cT AZ Z.length cZ, .pointer (some ⟨w.heap.size, 0, none⟩), .pointer (some ⟨w.heap.size + 1, 0, none⟩), .slice (some ⟨gF, 0, none⟩) 0 0, .pointer (some ⟨w.heap.size, 0, none⟩), .slice AF F.length cF, .slice AF' F.length cF', .slice (some ⟨gT, 0, none⟩) 0 0, .pointer (some ⟨w.heap.size, 1, none⟩), .slice AT T.length cT, .slice AT' T.length cT', .slice (some ⟨gZ, 0, none⟩) 0 0, .pointer (some ⟨w.heap.size, 2, none⟩), .slice AZ Z.length cZ, undef, undef], []⟩ W := by
    intro W f t z gF AF' cF' gT AT' cT' gZ hc hr
    rw [hR]
    refine wpAnyH_ready (rs := [11]) (by kernel_rfl) (by simp) (AllReadyH.cons rfl (fun K hK => ?_) AllReadyH.nil)
    refine step_copyR (by rfl) _ _ (by rfl) gZ z.1 z.2 AZ Z cZ lo hi (by rfl) (by rfl) hr.own.2.2.1 hc.src.z hZ ?_
    intro AZ' cZ' W' r ho hl hb
    have C2 := Lib.hid (hc.below hb)
    have R2 := Lib.hid (hr.newZ hb ho hl)
    clear hb hc hr ho hl
    refine hK.out _ _ C2.out.cells (fun _ => ?_)
    clear hK K
    exact as_of hR (J222.out W' f t r gF AF' cF' gT AT' cT' gZ AZ' cZ' C2.out R2.out)
  have J221 := Lib.hid j
  clear j
  have j : ∀ (W : World) (f t z : Nat × Nat) (gF : Nat) (AF' : Option Addr) (cF' : Nat) (gT : Nat) (gZ : Nat), CpS w W AF cF AT cT AZ cZ lo hi F T Z → CpR W (w.heap.size + 1 + 1) f t z AF' cF' (some ⟨gT, 0, none⟩) 0 (some ⟨gZ, 0, none⟩) 0 F [] [] → R 4 #[true, true, true, true, true, true, true, false, true, true, true, false, false, false] ⟨#[pebV AF F.length cF AT T.length cT AZ Z.length cZ, .pointer (some ⟨w.heap.size, 0, none⟩), .pointer (some ⟨w.heap.size + 1, 0, none⟩), .slice (some ⟨gF, 0, none⟩) 0 0, .pointer (some ⟨w.heap.size, 0, none⟩), .slice AF F.length cF, .slice AF' F.length cF', .slice (some ⟨gT, 0, none⟩) 0 0, .pointer (some ⟨w.heap.size, 1, none⟩), .slice AT T.length cT, undef, .slice (some ⟨gZ, 0, none⟩) 0 0, .pointer (some ⟨w.heap.size, 2, none⟩), .slice AZ Z.length cZ, undef, undef], []⟩ W := by
    intro W f t z gF AF' cF' gT gZ hc hr
    rw [hR]
    refine wpAnyH_ready (rs := [7]) (by kernel_rfl) (by simp) (AllReadyH.cons rfl (fun K hK => ?_) AllReadyH.nil)
    refine step_copyR (by rfl) _ _ (by rfl) gT t.1 t.2 AT T cT lo hi (by rfl) (by rfl) hr.own.2.1 hc.src.t hT ?_
    intro AT' cT' W' r ho hl hb
    have C2 := Lib.hid (hc.below hb)
    have R2 := Lib.hid (hr.newT hb ho hl)
    clear hb hc hr ho hl
    refine hK.out _ _ C2.out.cells (fun _ => ?_)
    clear hK K
    exact as_of hR (J221.out W' f r z gF AF' cF' gT AT' cT' gZ C2.out R2.out)
  have J211 := Lib.hid j
  clear j
  have j : ∀ (W : World) (f t z : Nat × Nat) (gF : Nat) (AF' : Option Addr) (cF' : Nat) (gT : Nat) (AT' : Option Addr) (cT' : Nat), CpS w W AF cF AT cT AZ cZ lo hi F T Z → CpR W (w.heap.size + 1 + 1) f t z AF' cF' AT' cT' none 0 F T [] → R 4 #[true, true, true, true, true, true, true, true, false, true, true, false, false, false] ⟨#[pebV AF F.length cF AT T.length cT AZ Z.length cZ, .pointer (some ⟨w.heap.size, 0, none⟩), .pointer (some ⟨w.heap.size + 1, 0, none⟩), .slice (some ⟨gF, 0, none⟩) 0 0, .pointer (some ⟨w.heap.size, 0, none⟩), .slice AF F.length cF, .slice AF' F.length cF', .slice (some ⟨gT, 0, none⟩) 0 0, .pointer (some ⟨w.heap.size, 1, none⟩), .slice AT T.length cT, .slice AT' T.length cT', undef, .pointer (some ⟨w.heap.size, 2, none⟩), .slice AZ Z.length cZ, undef, undef], []⟩ W := by
    intro W f t z gF AF' cF' gT AT' cT' hc hr
    rw [hR]
    refine wpAnyH_ready (rs := [8]) (by kernel_rfl) (by simp) (AllReadyH.cons rfl (fun K hK => ?_) AllReadyH.nil)
    have hb := new_below W (.cells #[] 3)
    have C2 := Lib.hid (hc.below hb)
    have R2 := Lib.hid (hr.newZ (z' := (W.heap.size, W.heap.size + 1)) hb (ownR_empty W) (.inr (Nat.le_refl _)))
    clear hb hc hr
    go_simp
    refine hK.out _ _ C2.out.cells (fun _ => ?_)
    clear hK K
    exact as_of hR (J221.out (W.alloc (.cells #[] 3)) f t (W.heap.size, W.heap.size + 1) gF AF' cF' gT AT' cT' W.heap.size C2.out R2.out)
  have J220 := Lib.hid j
  clear j
  have j : ∀ (W : World) (f t z : Nat × Nat) (gF : Nat) (gT : Nat) (gZ : Nat), CpS w W AF cF AT cT AZ cZ lo hi F T Z → CpR W (w.heap.size + 1 + 1) f t z (some ⟨gF, 0, none⟩) 0 (some ⟨gT, 0, none⟩) 0 (some ⟨gZ, 0, none⟩) 0 [] [] [] → R 5 #[true, true, true, false, true, true, true, false, true, true, true, false, false, false] ⟨#[pebV AF F.length cF AT T.length cT AZ Z.length cZ, .pointer (some ⟨w.heap.size, 0, none⟩), .pointer (some ⟨w.heap.size + 1, 0, none⟩), .slice (some ⟨gF, 0, none⟩) 0 0, .pointer (some ⟨w.heap.size, 0, none⟩), .slice AF F.length cF, undef, .slice (some ⟨gT, 0, none⟩) 0 0, .pointer (some ⟨w.heap.size, 1, none⟩), .slice AT T.length cT, undef, .slice (some ⟨gZ, 0, none⟩) 0 0, .pointer (some ⟨w.heap.size, 2, none⟩), .slice AZ Z.length cZ, undef, undef], []⟩ W := by
    intro W f t z gF gT gZ hc hr
    rw [hR]
    refine wpAnyH_ready (rs := [3]) (by kernel_rfl) (by simp) (AllReadyH.cons rfl (fun K hK => ?_) AllReadyH.nil)
    refine step_copyR (by rfl) _ _ (by rfl) gF f.1 f.2 AF F cF lo hi (by rfl) (by rfl) hr.own.1 hc.src.f hF ?_
    intro AF' cF' W' r ho hl hb
    have C2 := Lib.hid (hc.below hb)
    have R2 := Lib.hid (hr.newF hb ho hl)
    clear hb hc hr ho hl
    refine hK.out _ _ C2.out.cells (fun _ => ?_)
    clear hK K
    exact as_of hR (J211.out W' r t z gF AF' cF' gT gZ C2.out R2.out)
  have J111 := Lib.hid j
  clear j
  have j : ∀ (W : World) (f t z : Nat × Nat) (gF : Nat) (AF' : Option Addr) (cF' : Nat) (gZ : Nat), CpS w W AF cF AT cT AZ cZ lo hi F T Z → CpR W (w.heap.size + 1 + 1) f t z AF' cF' none 0 (some ⟨gZ, 0, none⟩) 0 F [] [] → R 5 #[true, true, true, true, false, true, true, false, true, true, true, false, false, false] ⟨#[pebV AF F.length cF AT T.length cT AZ Z.length cZ, .pointer (some ⟨w.heap.size, 0, none⟩), .pointer (some ⟨w.heap.size + 1, 0, none⟩), .slice (some ⟨gF, 0, none⟩) 0 0, .pointer (some ⟨w.heap.size, 0, none⟩), .slice AF F.length cF, .slice AF' F.length cF', undef, .pointer (some ⟨w.heap.size, 1, none⟩), .slice AT T.length cT, undef, .slice (some ⟨gZ, 0, none⟩) 0 0, .pointer (some ⟨w.heap.size, 2, none⟩), .slice AZ Z.length cZ, undef, undef], []⟩ W := by
    intro W f t z gF AF' cF' gZ hc hr
    rw [hR]
    refine wpAnyH_ready (rs := [4]) (by kernel_rfl) (by simp) (AllReadyH.cons rfl (fun K hK => ?_) AllReadyH.nil)
    have hb := new_below W (.cells #[] 3)
    have C2 := Lib.hid (hc.below hb)
    have R2 := Lib.hid (hr.newT (t' := (W.heap.size, W.heap.size + 1)) hb (ownR_empty W) (.inr (Nat.le_refl _)))
    clear hb hc hr
    go_simp
    refine hK.out _ _ C2.out.cells (fun _ => ?_)
    clear hK K
    exact as_of hR (J211.out (W.alloc (.cells #[] 3)) f (W.heap.size, W.heap.size + 1) z gF AF' cF' W.heap.size gZ C2.out R2.out)
  have J201 := Lib.hid j
  clear j
  have j : ∀ (W : World) (f t z : Nat × Nat) (gF : Nat) (AF' : Option Addr) (cF' : Nat) (gT : Nat), CpS w W AF cF AT cT AZ cZ lo hi F T Z → CpR W (w.heap.size + 1 + 1) f t z AF' cF' (some ⟨gT, 0, none⟩) 0 none 0 F [] [] → R 5 #[true, true, true, true, true, true, true, false, false, true, true, false, false, false] ⟨#[pebV AF F.length cF AT T.length cT AZ Z.length cZ, .pointer (some ⟨w.heap.size, 0, none⟩), .pointer (some ⟨w.heap.size + 1, 0, none⟩), .slice (some ⟨gF, 0, none⟩) 0 0, .pointer (some ⟨w.heap.size, 0, none⟩), .slice AF F.length cF, .slice AF' F.length cF', .slice (some ⟨gT, 0, none⟩) 0 0, .pointer (some ⟨w.heap.size, 1, none⟩), .slice AT T.length cT, undef, undef, .pointer (some ⟨w.heap.size, 2, none⟩), .slice AZ Z.length cZ, undef, undef], []⟩ W := by
    intro W f t z gF AF' cF' gT hc hr
    rw [hR]
    refine wpAnyH_ready (rs := [7, 8]) (by kernel_rfl) (by simp) (AllReadyH.cons rfl (fun K hK => ?_) (AllReadyH.cons rfl (fun K hK => ?_) AllReadyH.nil))
    · refine step_copyR (by rfl) _ _ (by rfl) gT t.1 t.2 AT T cT lo hi (by rfl) (by rfl) hr.own.2.1 hc.src.t hT ?_
      intro AT' cT' W' r ho hl hb
      have C2 := Lib.hid (hc.below hb)
      have R2 := Lib.hid (hr.newT hb ho hl)
      clear hb hc hr ho hl
      refine hK.out _ _ C2.out.cells (fun _ => ?_)
      clear hK K
      exact as_of hR (J220.out W' f r z gF AF' cF' gT AT' cT' C2.out R2.out)
    · have hb := new_below W (.cells #[] 3)
      have C2 := Lib.hid (hc.below hb)
      have R2 := Lib.hid (hr.newZ (z' := (W.heap.size, W.heap.size + 1)) hb (ownR_empty W) (.inr (Nat.le_refl _)))
      clear hb hc hr
      go_simp
      refine hK.out _ _ C2.out.cells (fun _ => ?_)
      clear hK K
      exact as_of hR (J211.out (W.alloc (.cells #[] 3)) f t (W.heap.size, W.heap.size + 1) gF AF' cF' gT W.heap.size C2.out R2.out)
  have J210 := Lib.hid j
  clear j
  have j : ∀ (W : World) (f t z : Nat × Nat) (gT : Nat) (gZ : Nat), CpS w W AF cF AT cT AZ cZ lo hi F T Z → CpR W (w.heap.size + 1 + 1) f t z none 0 (some ⟨gT, 0, none⟩) 0 (some ⟨gZ, 0, none⟩) 0 [] [] [] → R 6 #[false, true, true, false, true, true, true, false, true, true, true, false, false, false] ⟨#[pebV AF F.length cF AT T.length cT AZ Z.length cZ, .pointer (some ⟨w.heap.size, 0, none⟩), .pointer (some ⟨w.heap.size + 1, 0, none⟩), undef, .pointer (some ⟨w.heap.size, 0, none⟩), .slice AF F.length cF, undef, .slice (some ⟨gT, 0, none⟩) 0 0, .pointer (some ⟨w.heap.size, 1, none⟩), .slice AT T.length cT, undef, .slice (some ⟨gZ, 0, none⟩) 0 0, .pointer (some ⟨w.heap.size, 2, none⟩), .slice AZ Z.length cZ, undef, undef], []⟩ W := by
    intro W f t z gT gZ hc hr
    rw [hR]
    refine wpAnyH_ready (rs := [0]) (by kernel_rfl) (by simp) (AllReadyH.cons rfl (fun K hK => ?_) AllReadyH.nil)
    have hb := new_below W (.cells #[] 3)
    have C2 := Lib.hid (hc.below hb)
    have R2 := Lib.hid (hr.newF (f' := (W.heap.size, W.heap.size + 1)) hb (ownR_empty W) (.inr (Nat.le_refl _)))
    clear hb hc hr
    go_simp
    refine hK.out _ _ C2.out.cells (fun _ => ?_)
    clear hK K
    exact as_of hR (J111.out (W.alloc (.cells #[] 3)) (W.heap.size, W.heap.size + 1) t z W.heap.size gT gZ C2.out R2.out)
  have J011 := Lib.hid j
  clear j
  have j : ∀ (W : World) (f t z : Nat × Nat) (gF : Nat) (gZ : Nat), CpS w W AF cF AT cT AZ cZ lo hi F T Z → CpR W (w.heap.size + 1 + 1) f t z (some ⟨gF, 0, none⟩) 0 none 0 (some ⟨gZ, 0, none⟩) 0 [] [] [] → R 6 #[true, true, true, false, false, true, true, false, true, true, true, false, false, false] ⟨#[pebV AF F.length cF AT T.length cT AZ Z.length cZ, .pointer (some ⟨w.heap.size, 0, none⟩), .pointer (some ⟨w.heap.size + 1, 0, none⟩), .slice (some ⟨gF, 0, none⟩) 0 0, .pointer (some ⟨w.heap.size, 0, none⟩), .slice AF F.length cF, undef, undef, .pointer (some ⟨w.heap.size, 1, none⟩), .slice AT T.length cT, undef, .slice (some ⟨gZ, 0, none⟩) 0 0, .pointer (some ⟨w.heap.size, 2, none⟩), .slice AZ Z.length cZ, undef, undef], []⟩ W := by
    intro W f t z gF gZ hc hr
    rw [hR]
    refine wpAnyH_ready (rs := [3, 4]) (by kernel_rfl) (by simp) (AllReadyH.cons rfl (fun K hK => ?_) (AllReadyH.cons rfl (fun K hK => ?_) AllReadyH.nil))
    · refine step_copyR (by rfl) _ _ (by rfl) gF f.1 f.2 AF F cF lo hi (by rfl) (by rfl) hr.own.1 hc.src.f hF ?_
      intro AF' cF' W' r ho hl hb
      have C2 := Lib.hid (hc.below hb)
      have R2 := Lib.hid (hr.newF hb ho hl)
      clear hb hc hr ho hl
      refine hK.out _ _ C2.out.cells (fun _ => ?_)
      clear hK K
      exact as_of hR (J201.out W' r t z gF AF' cF' gZ C2.out R2.out)
    · have hb := new_below W (.cells #[] 3)
      have C2 := Lib.hid (hc.below hb)
      have R2 := Lib.hid (hr.newT (t' := (W.heap.size, W.heap.size + 1)) hb (ownR_empty W) (.inr (Nat.le_refl _)))
      clear hb hc hr
      go_simp
      refine hK.out _ _ C2.out.cells (fun _ => ?_)
      clear hK K
      exact as_of hR (J111.out (W.alloc (.cells #[] 3)) f (W.heap.size, W.heap.size + 1) z gF W.heap.size gZ C2.out R2.out)
  have J101 := Lib.hid j
  clear j
  have j : ∀ (W : World) (f t z : Nat × Nat) (gF : Nat) (gT : Nat), CpS w W AF cF AT cT AZ cZ lo hi F T Z → CpR W (w.heap.size + 1 + 1) f t z (some ⟨gF, 0, none⟩) 0 (some ⟨gT, 0, none⟩) 0 none 0 [] [] [] → R 6 #[true, true, true, false, true, true, true, false, false, true, true, false, false, false] ⟨#[pebV AF F.length cF AT T.length cT AZ Z.length cZ, .pointer (some ⟨w.heap.size, 0, none⟩), .pointer (some ⟨w.heap.size + 1, 0, none⟩), .slice (some ⟨gF, 0, none⟩) 0 0, .pointer (some ⟨w.heap.size, 0, none⟩), .slice AF F.length cF, undef, .slice (some ⟨gT, 0, none⟩) 0 0, .pointer (some ⟨w.heap.size, 1, none⟩), .slice AT T.length cT, undef, undef, .pointer (some ⟨w.heap.size, 2, none⟩), .slice AZ Z.length cZ, undef, undef], []⟩ W := by
    intro W f t z gF gT hc hr
    rw [hR]
    refine wpAnyH_ready (rs := [3, 8]) (by kernel_rfl) (by simp) (AllReadyH.cons rfl (fun K hK => ?_) (AllReadyH.cons rfl (fun K hK => ?_) AllReadyH.nil))
    · refine step_copyR (by rfl) _ _ (by rfl) gF f.1 f.2 AF F cF lo hi (by rfl) (by rfl) hr.own.1 hc.src.f hF ?_
      intro AF' cF' W' r ho hl hb
      have C2 := Lib.hid (hc.below hb)
      have R2 := Lib.hid (hr.newF hb ho hl)
      clear hb hc hr ho hl
      refine hK.out _ _ C2.out.cells (fun _ => ?_)
      clear hK K
      exact as_of hR (J210.out W' r t z gF AF' cF' gT C2.out R2.out)
    · have hb := new_below W (.cells #[] 3)
      have C2 := Lib.hid (hc.below hb)
      have R2 := Lib.hid (hr.newZ (z' := (W.heap.size, W.heap.size + 1)) hb (ownR_empty W) (.inr (Nat.le_refl _)))
      clear hb hc hr
      go_simp
      refine hK.out _ _ C2.out.cells (fun _ => ?_)
      clear hK K
      exact as_of hR (J111.out (W.alloc (.cells #[] 3)) f t (W.heap.size, W.heap.size + 1) gF gT W.heap.size C2.out R2.out)
  have J110 := Lib.hid j
  clear j
  have j : ∀ (W : World) (f t z : Nat × Nat) (gF : Nat) (AF' : Option Addr) (cF' : Nat), CpS w W AF cF AT cT AZ cZ lo hi F T Z → CpR W (w.heap.size + 1 + 1) f t z AF' cF' none 0 none 0 F [] [] → R 6 #[true, true, true, true, false, true, true, false, false, true, true, false, false, false] ⟨#[pebV AF F.length cF AT T.length cT AZ Z.length cZ, .pointer (some ⟨w.heap.size, 0, none⟩), .pointer (some ⟨w.heap.size + 1, 0, none⟩), .slice (some ⟨gF, 0, none⟩) 0 0, .pointer (some ⟨w.heap.size, 0, none⟩), .slice AF F.length cF, .slice AF' F.length cF', undef, .pointer (some ⟨w.heap.size, 1, none⟩), .slice AT T.length cT, undef, undef, .pointer (some ⟨w.heap.size, 2, none⟩), .slice AZ Z.length cZ, undef, undef], []⟩ W := by
    intro W f t z gF AF' cF' hc hr
    rw [hR]
    refine wpAnyH_ready (rs := [4, 8]) (by kernel_rfl) (by simp) (AllReadyH.cons rfl (fun K hK => ?_) (AllReadyH.cons rfl (fun K hK => ?_) AllReadyH.nil))
    · have hb := new_below W (.cells #[] 3)
      have C2 := Lib.hid (hc.below hb)
      have R2 := Lib.hid (hr.newT (t' := (W.heap.size, W.heap.size + 1)) hb (ownR_empty W) (.inr (Nat.le_refl _)))
      clear hb hc hr
      go_simp
      refine hK.out _ _ C2.out.cells (fun _ => ?_)
      clear hK K
      exact as_of hR (J210.out (W.alloc (.cells #[] 3)) f (W.heap.size, W.heap.size + 1) z gF AF' cF' W.heap.size C2.out R2.out)
    · have hb := new_below W (.cells #[] 3)
      have C2 := Lib.hid (hc.below hb)
      have R2 := Lib.hid (hr.newZ (z' := (W.heap.size, W.heap.size + 1)) hb (ownR_empty W) (.inr (Nat.le_refl _)))
      clear hb hc hr
      go_simp
      refine hK.out _ _ C2.out.cells (fun _ => ?_)
      clear hK K
      exact as_of hR (J201.out (W.alloc (.cells #[] 3)) f t (W.heap.size, W.heap.size + 1) gF AF' cF' W.heap.size C2.out R2.out)
  have J200 := Lib.hid j
  clear j
  have j : ∀ (W : World) (f t z : Nat × Nat) (gZ : Nat), CpS w W AF cF AT cT AZ cZ lo hi F T Z → CpR W (w.heap.size + 1 + 1) f t z none 0 none 0 (some ⟨gZ, 0, none⟩) 0 [] [] [] → R 7 #[false, true, true, false, false, true, true, false, true, true, true, false, false, false] ⟨#[pebV AF F.length cF AT T.length cT AZ Z.length cZ, .pointer (some ⟨w.heap.size, 0, none⟩), .pointer (some ⟨w.heap.size + 1, 0, none⟩), undef, .pointer (some ⟨w.heap.size, 0, none⟩), .slice AF F.length cF, undef, undef, .pointer (some ⟨w.heap.size, 1, none⟩), .slice AT T.length cT, undef, .slice (some ⟨gZ, 0, none⟩) 0 0, .pointer (some ⟨w.heap.size, 2, none⟩), .slice AZ Z.length cZ, undef, undef], []⟩ W := by
    intro W f t z gZ hc hr
    rw [hR]
    refine wpAnyH_ready (rs := [0, 4]) (by kernel_rfl) (by simp) (AllReadyH.cons rfl (fun K hK => ?_) (AllReadyH.cons rfl (fun K hK => ?_) AllReadyH.nil))
    · have hb := new_below W (.cells #[] 3)
      have C2 := Lib.hid (hc.below hb)
      have R2 := Lib.hid (hr.newF (f' := (W.heap.size, W.heap.size + 1)) hb (ownR_empty W) (.inr (Nat.le_refl _)))
      clear hb hc hr
      go_simp
      refine hK.out _ _ C2.out.cells (fun _ => ?_)
      clear hK K
      exact as_of hR (J101.out (W.alloc (.cells #[] 3)) (W.heap.size, W.heap.size + 1) t z W.heap.size gZ C2.out R2.out)
    · have hb := new_below W (.cells #[] 3)
      have C2 := Lib.hid (hc.below hb)
      have R2 := Lib.hid (hr.newT (t' := (W.heap.size, W.heap.size + 1)) hb (ownR_empty W) (.inr (Nat.le_refl _)))
      clear hb hc hr
      go_simp
      refine hK.out _ _ C2.out.cells (fun _ => ?_)
      clear hK K
      exact as_of hR (J011.out (W.alloc (.cells #[] 3)) f (W.heap.size, W.heap.size + 1) z W.heap.size gZ C2.out R2.out)
  have J001 := Lib.hid j
  clear j
  have j : ∀ (W : World) (f t z : Nat × Nat) (gT : Nat), CpS w W AF cF AT cT AZ cZ lo hi F T Z → CpR W (w.heap.size + 1 + 1) f t z none 0 (some ⟨gT, 0, none⟩) 0 none 0 [] [] [] → R 7 #[false, true, true, false, true, true, true, false, false, true, true, false, false, false] ⟨#[pebV AF F.length cF AT T.length cT AZ Z.length cZ, .pointer (some ⟨w.heap.size, 0, none⟩), .pointer (some ⟨w.heap.size + 1, 0, none⟩), undef, .pointer (some ⟨w.heap.size, 0, none⟩), .slice AF F.length cF, undef, .slice (some ⟨gT, 0, none⟩) 0 0, .pointer (some ⟨w.heap.size, 1, none⟩), .slice AT T.length cT, undef, undef, .pointer (some ⟨w.heap.size, 2, none⟩), .slice AZ Z.length cZ, undef, undef], []⟩ W := by
    intro W f t z gT hc hr
    rw [hR]
    refine wpAnyH_ready (rs := [0, 8]) (by kernel_rfl) (by simp) (AllReadyH.cons rfl (fun K hK => ?_) (AllReadyH.cons rfl (fun K hK => ?_) AllReadyH.nil))
    · have hb := new_below W (.cells #[] 3)
      have C2 := Lib.hid (hc.below hb)
      have R2 := Lib.hid (hr.newF (f' := (W.heap.size, W.heap.size + 1)) hb (ownR_empty W) (.inr (Nat.le_refl _)))
      clear hb hc hr
      go_simp
      refine hK.out _ _ C2.out.cells (fun _ => ?_)
      clear hK K
      exact as_of hR (J110.out (W.alloc (.cells #[] 3)) (W.heap.size, W.heap.size + 1) t z W.heap.size gT C2.out R2.out)
    · have hb := new_below W (.cells #[] 3)
      have C2 := Lib.hid (hc.below hb)
      have R2 := Lib.hid (hr.newZ (z' := (W.heap.size, W.heap.size + 1)) hb (ownR_empty W) (.inr (Nat.le_refl _)))
      clear hb hc hr
      go_simp
      refine hK.out _ _ C2.out.cells (fun _ => ?_)
      clear hK K
      exact as_of hR (J011.out (W.alloc (.cells #[] 3)) f t (W.heap.size, W.heap.size + 1) gT W.heap.size C2.out R2.out)
  have J010 := Lib.hid j
  clear j
  have j : ∀ (W : World) (f t z : Nat × Nat) (gF : Nat), CpS w W AF cF AT cT AZ cZ lo hi F T Z → CpR W (w.heap.size + 1 + 1) f t z (some ⟨gF, 0, none⟩) 0 none 0 none 0 [] [] [] → R 7 #[true, true, true, false, false, true, true, false, false, true, true, false, false, false] ⟨#[pebV AF F.length cF AT T.length cT AZ Z.length cZ, .pointer (some ⟨w.heap.size, 0, none⟩), .pointer (some ⟨w.heap.size + 1, 0, none⟩), .slice (some ⟨gF, 0, none⟩) 0 0, .pointer (some ⟨w.heap.size, 0, none⟩), .slice AF F.length cF, undef, undef, .pointer (some ⟨w.heap.size, 1, none⟩), .slice AT T.length cT, undef, undef, .pointer (some ⟨w.heap.size, 2, none⟩), .slice AZ Z.length cZ, undef, undef], []⟩ W := by
    intro W f t z gF hc hr
    rw [hR]
    refine wpAnyH_ready (rs := [3, 4, 8]) (by kernel_rfl) (by simp) (AllReadyH.cons rfl (fun K hK => ?_) (AllReadyH.cons rfl (fun K hK => ?_) (AllReadyH.cons rfl (fun K hK => ?_) AllReadyH.nil)))
    · refine step_copyR (by rfl) _ _ (by rfl) gF f.1 f.2 AF F cF lo hi (by rfl) (by rfl) hr.own.1 hc.src.f hF ?_
      intro AF' cF' W' r ho hl hb
      have C2 := Lib.hid (hc.below hb)
      have R2 := Lib.hid (hr.newF hb ho hl)
      clear hb hc hr ho hl
      refine hK.out _ _ C2.out.cells (fun _ => ?_)
      clear hK K
      exact as_of hR (J200.out W' r t z gF AF' cF' C2.out R2.out)
    · have hb := new_below W (.cells #[] 3)
      have C2 := Lib.hid (hc.below hb)
      have R2 := Lib.hid (hr.newT (t' := (W.heap.size, W.heap.size + 1)) hb (ownR_empty W) (.inr (Nat.le_refl _)))
      clear hb hc hr
      go_simp
      refine hK.out _ _ C2.out.cells (fun _ => ?_)
      clear hK K
      exact as_of hR (J110.out (W.alloc (.cells #[] 3)) f (W.heap.size, W.heap.size + 1) z gF W.heap.size C2.out R2.out)
    · have hb := new_below W (.cells #[] 3)
      have C2 := Lib.hid (hc.below hb)
      have R2 := Lib.hid (hr.newZ (z' := (W.heap.size, W.heap.size + 1)) hb (ownR_empty W) (.inr (Nat.le_refl _)))
      clear hb hc hr
      go_simp
      refine hK.out _ _ C2.out.cells (fun _ => ?_)
      clear hK K
      exact as_of hR (J101.out (W.alloc (.cells #[] 3)) f t (W.heap.size, W.heap.size + 1) gF W.heap.size C2.out R2.out)
  have J100 := Lib.hid j
  clear j
  have j : ∀ (W : World) (f t z : Nat × Nat), CpS w W AF cF AT cT AZ cZ lo hi F T Z → CpR W (w.heap.size + 1 + 1) f t z none 0 none 0 none 0 [] [] [] → R 8 #[false, true, true, false, false, true, true, false, false, true, true, false, false, false] ⟨#[pebV AF F.length cF AT T.length cT AZ Z.length cZ, .pointer (some ⟨w.heap.size, 0, none⟩), .pointer (some ⟨w.heap.size + 1, 0, none⟩), undef, .pointer (some ⟨w.heap.size, 0, none⟩), .slice AF F.length cF, undef, undef, .pointer (some ⟨w.heap.size, 1, none⟩), .slice AT T.length cT, undef, undef, .pointer (some ⟨w.heap.size, 2, none⟩), .slice AZ Z.length cZ, undef, undef], []⟩ W := by
    intro W f t z  hc hr
    rw [hR]
    refine wpAnyH_ready (rs := [0, 4, 8]) (by kernel_rfl) (by simp) (AllReadyH.cons rfl (fun K hK => ?_) (AllReadyH.cons rfl (fun K hK => ?_) (AllReadyH.cons rfl (fun K hK => ?_) AllReadyH.nil)))
    · have hb := new_below W (.cells #[] 3)
      have C2 := Lib.hid (hc.below hb)
      have R2 := Lib.hid (hr.newF (f' := (W.heap.size, W.heap.size + 1)) hb (ownR_empty W) (.inr (Nat.le_refl _)))
      clear hb hc hr
      go_simp
      refine hK.out _ _ C2.out.cells (fun _ => ?_)
      clear hK K
      exact as_of hR (J100.out (W.alloc (.cells #[] 3)) (W.heap.size, W.heap.size + 1) t z W.heap.size C2.out R2.out)
    · have hb := new_below W (.cells #[] 3)
      have C2 := Lib.hid (hc.below hb)
      have R2 := Lib.hid (hr.newT (t' := (W.heap.size, W.heap.size + 1)) hb (ownR_empty W) (.inr (Nat.le_refl _)))
      clear hb hc hr
      go_simp
      refine hK.out _ _ C2.out.cells (fun _ => ?_)
      clear hK K
      exact as_of hR (J010.out (W.alloc (.cells #[] 3)) f (W.heap.size, W.heap.size + 1) z W.heap.size C2.out R2.out)
    · have hb := new_below W (.cells #[] 3)
      have C2 := Lib.hid (hc.below hb)
      have R2 := Lib.hid (hr.newZ (z' := (W.heap.size, W.heap.size + 1)) hb (ownR_empty W) (.inr (Nat.le_refl _)))
      clear hb hc hr
      go_simp
      refine hK.out _ _ C2.out.cells (fun _ => ?_)
      clear hK K
      exact as_of hR (J001.out (W.alloc (.cells #[] 3)) f t (W.heap.size, W.heap.size + 1) W.heap.size C2.out R2.out)
  have J000 := Lib.hid j
  clear j
  exact J000.out WD _ _ _ CD.out CR.out
end Go.Proofs.Ytggibhhdnlifcaa
