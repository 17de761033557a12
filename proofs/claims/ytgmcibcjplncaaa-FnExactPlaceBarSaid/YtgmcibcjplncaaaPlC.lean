/- Several texts in one, in the order in which they build on each other (part 3 of 7): what stands on the way to the law; each names its own matter. No condition. -/
import Derived.Test.YtgmcibcjplncaaaPlB
import Derived.Deep.RegionHeld3
import Derived.Deep.QuietTactic
import Derived.BigQuiet
/- What spec.l4Copy answers. No condition. -/
namespace Go.Proofs.Ytgmcibcjplncaaa
open Go.RowKit

set_option maxHeartbeats 8000000 in
set_option maxRecDepth 100000 in
theorem copyPeb_c (AF AT AZ : Option Addr) (cF cT cZ lo hi : Nat) (F T Z : List Int) (w : World) (h : Peb3 w lo hi AF AT AZ F T Z) (hF : F.length ≤ 1048576) (hT : T.length ≤ 1048576) (hZ : Z.length ≤ 1048576) :
    Calls Try.prog 73 #[pebV AF F.length cF AT T.length cT AZ Z.length cZ] w (PebR w F T Z) := by
  have W0 := Lib.hid (Below.refl w.heap.size w)
  have H_0 := Lib.hid (h)
  have hhi : hi ≤ w.heap.size := h.f.1
  clear h
  have Z1 := Lib.hid (within_alloc w (.cells #[(.slice AF F.length cF), (.slice AT T.length cT), (.slice AZ Z.length cZ)] 30)).size
  have W1 := Lib.hid (within_on W0.out (within_alloc w (.cells #[(.slice AF F.length cF), (.slice AT T.length cT), (.slice AZ Z.length cZ)] 30)) W0.out.size (.inr (Nat.le_refl _)))
  have H_1 := Lib.hid (H_0.out.within (within_alloc w (.cells #[(.slice AF F.length cF), (.slice AT T.length cT), (.slice AZ Z.length cZ)] 30)) (by omega))
  have Y1 := Lib.hid (show (w.alloc (.cells #[(.slice AF F.length cF), (.slice AT T.length cT), (.slice AZ Z.length cZ)] 30)).heap.size = w.heap.size + 1 by simp)
  have hnew := cel3_new w (.slice AF F.length cF) (.slice AT T.length cT) (.slice AZ Z.length cZ) 30
  have GA_1 := Lib.hid hnew
  clear hnew
  have Z2 := Lib.hid (within_alloc (w.alloc (.cells #[(.slice AF F.length cF), (.slice AT T.length cT), (.slice AZ Z.length cZ)] 30)) (.cells #[(.slice none 0 0), (.slice none 0 0), (.slice none 0 0)] 30)).size
  have W2 := Lib.hid (within_on W1.out (within_alloc (w.alloc (.cells #[(.slice AF F.length cF), (.slice AT T.length cT), (.slice AZ Z.length cZ)] 30)) (.cells #[(.slice none 0 0), (.slice none 0 0), (.slice none 0 0)] 30)) W1.out.size (.inr (Nat.le_refl _)))
  have H_2 := Lib.hid (H_1.out.within (within_alloc (w.alloc (.cells #[(.slice AF F.length cF), (.slice AT T.length cT), (.slice AZ Z.length cZ)] 30)) (.cells #[(.slice none 0 0), (.slice none 0 0), (.slice none 0 0)] 30)) (by omega))
  have GA_2 := Lib.hid (GA_1.out.within (within_alloc (w.alloc (.cells #[(.slice AF F.length cF), (.slice AT T.length cT), (.slice AZ Z.length cZ)] 30)) (.cells #[(.slice none 0 0), (.slice none 0 0), (.slice none 0 0)] 30)) (by omega))
  have Y2 := Lib.hid (show ((w.alloc (.cells #[(.slice AF F.length cF), (.slice AT T.length cT), (.slice AZ Z.length cZ)] 30)).alloc (.cells #[(.slice none 0 0), (.slice none 0 0), (.slice none 0 0)] 30)).heap.size = (w.alloc (.cells #[(.slice AF F.length cF), (.slice AT T.length cT), (.slice AZ Z.length cZ)] 30)).heap.size + 1 by simp)
  have hnew := cel3_new (w.alloc (.cells #[(.slice AF F.length cF), (.slice AT T.length cT), (.slice AZ Z.length cZ)] 30)) (.slice none 0 0) (.slice none 0 0) (.slice none 0 0) 30
  rw [show (w.alloc (.cells #[(.slice AF F.length cF), (.slice AT T.length cT), (.slice AZ Z.length cZ)] 30)).heap.size = w.heap.size + 1 by simp] at hnew
  have GR_2 := Lib.hid hnew
  clear hnew
  have CI := Lib.hid (⟨GA_2.out, GR_2.out, H_2.out, W2.out⟩ : CpS w ((w.alloc (.cells #[(.slice AF F.length cF), (.slice AT T.length cT), (.slice AZ Z.length cZ)] 30)).alloc (.cells #[(.slice none 0 0), (.slice none 0 0), (.slice none 0 0)] 30)) AF cF AT cT AZ cZ lo hi F T Z)
  have SZ := Lib.hid (show ((w.alloc (.cells #[(.slice AF F.length cF), (.slice AT T.length cT), (.slice AZ Z.length cZ)] 30)).alloc (.cells #[(.slice none 0 0), (.slice none 0 0), (.slice none 0 0)] 30)).heap.size = w.heap.size + 1 + 1 by simp)
  go_enter Try.func73, Try.ntmps73
  go_wp2_with fail
  generalize ((w.alloc (.cells #[(.slice AF F.length cF), (.slice AT T.length cT), (.slice AZ Z.length cZ)] 30)).alloc (.cells #[(.slice none 0 0), (.slice none 0 0), (.slice none 0 0)] 30)) = w2 at *
  generalize (w.alloc (.cells #[(.slice AF F.length cF), (.slice AT T.length cT), (.slice AZ Z.length cZ)] 30)) = w1 at *
  have CD := Lib.hid (CI.out.below (Below.refl _ _).drew)
  have SD := Lib.hid (show w2.drew.heap.size = w.heap.size + 1 + 1 from SZ.out)
  clear CI
  refine wp_region_held_drew (S := (fun W' : World => W'.cell? ⟨w.heap.size, 0, none⟩ = some (.slice AF F.length cF) ∧ W'.cell? ⟨w.heap.size, 1, none⟩ = some (.slice AT T.length cT) ∧ W'.cell? ⟨w.heap.size, 2, none⟩ = some (.slice AZ Z.length cZ))) (by kernel_rfl) ?_ (fun hHeld => ?_)
  · exact CD.out.cells
  clear hHeld
  generalize w2.drew = WD at *
  have CR := Lib.hid (CpR.nil WD (w.heap.size + 1 + 1) (Nat.le_of_eq SD.out.symm))
  refine wpAnyH_take (i := 1) (v := .pointer (some ⟨w.heap.size, 0, none⟩)) rfl (by kernel_rfl) (by kernel_rfl) (by kernel_rfl) (fun _ _ _ h => h) (Or.inl ⟨by kernel_rfl, fun w hSw => by (try dsimp only at hSw); go_simp; all_goals first | omega | rfl⟩) CD.out.cells ?_
  refine wpAnyH_take (i := 2) (v := .slice AF F.length cF) rfl (by kernel_rfl) (by kernel_rfl) (by kernel_rfl) (fun _ _ _ h => h) (Or.inl ⟨by kernel_rfl, fun w hSw => by (try dsimp only at hSw); go_simp; all_goals first | omega | rfl⟩) CD.out.cells ?_
  refine wpAnyH_take (i := 5) (v := .pointer (some ⟨w.heap.size, 1, none⟩)) rfl (by kernel_rfl) (by kernel_rfl) (by kernel_rfl) (fun _ _ _ h => h) (Or.inl ⟨by kernel_rfl, fun w hSw => by (try dsimp only at hSw); go_simp; all_goals first | omega | rfl⟩) CD.out.cells ?_
  refine wpAnyH_take (i := 6) (v := .slice AT T.length cT) rfl (by kernel_rfl) (by kernel_rfl) (by kernel_rfl) (fun _ _ _ h => h) (Or.inl ⟨by kernel_rfl, fun w hSw => by (try dsimp only at hSw); go_simp; all_goals first | omega | rfl⟩) CD.out.cells ?_
  refine wpAnyH_take (i := 9) (v := .pointer (some ⟨w.heap.size, 2, none⟩)) rfl (by kernel_rfl) (by kernel_rfl) (by kernel_rfl) (fun _ _ _ h => h) (Or.inl ⟨by kernel_rfl, fun w hSw => by (try dsimp only at hSw); go_simp; all_goals first | omega | rfl⟩) CD.out.cells ?_
  refine wpAnyH_take (i := 10) (v := .slice AZ Z.length cZ) rfl (by kernel_rfl) (by kernel_rfl) (by kernel_rfl) (fun _ _ _ h => h) (Or.inl ⟨by kernel_rfl, fun w hSw => by (try dsimp only at hSw); go_simp; all_goals first | omega | rfl⟩) CD.out.cells ?_
  refine as_fun ?_
  intro R hR
  have j : ∀ (W : World) (f t z : Nat × Nat) (gF : Nat) (AF' : Option Addr) (cF' : Nat) (gT : Nat) (AT' : Option Addr) (cT' : Nat) (gZ : Nat) (AZ' : Option Addr) (cZ' : Nat), CpS w W AF cF AT cT AZ cZ lo hi F T Z → CpR W (w.heap.size + 1 + 1) f t z AF' cF' AT' cT' AZ' cZ' F T Z → R 2 #[true, true, true, true, true, true, true, true, true, true, true, true, false, false] ⟨#[pebV AF F.length cF AT T.length cT AZ Z.length cZ, .pointer (some ⟨w.heap.size, 0, none⟩), .pointer (some ⟨w.heap.size + 1, 0, none⟩), .slice (some ⟨gF, 0, none⟩) 0 0, .pointer (some ⟨w.heap.size, 0, none⟩), .slice AF F.length cF, .slice AF' F.length cF', .slice (some ⟨gT, 0, none⟩) 0 0, .pointer (some ⟨w.heap.size, 1, none⟩), .slice AT T.length cT, .slice AT' T.length cT', .slice (some ⟨gZ, 0, none⟩) 0 0, .pointer (some ⟨w.heap.size, 2, none⟩), .slice AZ Z.length cZ, .slice AZ' Z.length cZ', undef], []⟩ W := by
    intro W f t z gF AF' cF' gT AT' cT' gZ AZ' cZ' hc hr
    rw [hR]
    refine wpAnyH_take (i := 12) (v := .agg #[.slice AF' F.length cF', .slice AT' T.length cT', .slice AZ' Z.length cZ']) rfl (by kernel_rfl) (by kernel_rfl) (by kernel_rfl) (fun _ _ _ h => h) (Or.inl ⟨by kernel_rfl, fun w hSw => by (try dsimp only at hSw); go_simp; all_goals first | omega | rfl⟩) hc.cells ?_
    refine wpAnyH_ready (rs := [13]) (by kernel_rfl) (by simp) (AllReadyH.cons rfl (fun K hK => ?_) AllReadyH.nil)
    obtain ⟨q0, q1, q2, q3, q4, q5⟩ := hc.ret.cells
    have hr2 := ret3 hc.ret (.slice AF' F.length cF') (.slice AT' T.length cT') (.slice AZ' Z.length cZ')
    have RR := Lib.hid hr2.1
    have RW := Lib.hid hr2.2
    have RC := Lib.hid (hc.arg.within hr2.2 (by omega)).cells
    have HC := Lib.hid hc
    have HR := Lib.hid hr
    clear hr2 hc hr
    go_simp
    clear q0 q1 q2 q3 q4 q5
    refine hK.out _ _ ⟨RC.out.1, RC.out.2.1, RC.out.2.2.1⟩ (fun hHeld => ?_)
    clear hK K hHeld
    refine wpAnyH_done (by kernel_rfl) ?_ _
    obtain ⟨s0, s1, s2, _⟩ := RR.out.cells
    go_wp2_with fail
    refine bodyPost_ret (v := pebV AF' F.length cF' AT' T.length cT' AZ' Z.length cZ') ?_ rfl ?_
    · simp [results, Try.results73, go_sem, s0, s1, s2]
    · have lf := HR.out.lf
      have lt := HR.out.lt
      have lz := HR.out.lz
      have hh := HR.out.own.hi
      have rs := RW.out.size
      have ho := HR.out.own.within RW.out (by omega) (by omega) (by omega)
      exact ⟨AF', cF', AT', cT', AZ', cZ', rfl, ho.own3R (by omega) (by omega) (by omega) (Nat.le_refl _), within_on HC.out.bel RW.out HC.out.bel.size (.inl (by omega))⟩
  have J222 := Lib.hid j
  clear j
  have j : ∀ (W : World) (f t z : Nat × Nat) (gF : Nat) (AF' : Option Addr) (cF' : Nat) (gT : Nat) (AT' : Option Addr) (cT' : Nat) (gZ : Nat), CpS w W AF cF AT cT AZ cZ lo hi F T Z → CpR W (w.heap.size + 1 + 1) f t z AF' cF' AT' cT' (some ⟨gZ, 0, none⟩) 0 F T [] → R 3 #[true, true, true, true, true, true, true, true, true, true, true, false, false, false] ⟨#[pebV AF F.length cF AT T.length cT AZ Z.length cZ, .pointer (some ⟨w.heap.size, 0, none⟩), .pointer (some ⟨w.heap.size + 1, 0, none⟩), .slice (some ⟨gF, 0, none⟩) 0 0, .pointer (some ⟨w.heap.size, 0, none⟩), .slice AF F.length cF, .slice AF' F.length cF', .slice (some ⟨gT, 0, none⟩) 0 0, .pointer (some ⟨w.heap.size, 1, none⟩), .slice AT T.length cT, .slice AT' T.length cT', .slice (some ⟨gZ, 0, none⟩) 0 0, .pointer (some ⟨w.heap.size, 2, none⟩), .slice AZ Z.length cZ, undef, undef], []⟩ W := by
    intro W f t z gF AF' cF' gT AT' cT' gZ hc hr
    rw [hR]
    refine wpAnyH_ready (rs := [11]) (by kernel_rfl) (by simp) (AllReadyH.cons rfl (fun K hK => ?_) AllReadyH.nil)
    refine step_copyR (by rfl) _ _ (by rfl) gZ z.1 z.2 AZ Z cZ lo hi (by rfl) (by rfl) hr.own.2.2.1 hc.src.z hZ ?_
    intro AZ' cZ' W' r ho hl hb
    have C2 := Lib.hid (hc.below hb)
    have R2 := Lib.hid (hr.newZ hb ho hl)
    clear hb hc hr ho hl
    refine hK.out _ _ C2.out.cells (fun _ => ?_)
    clear hK K
    exact as_of hR (J222.out W' f t r gF AF' cF' gT AT' cT' gZ AZ' cZ' C2.out R2.out)
  have J221 := Lib.hid j
  clear j
  have j : ∀ (W : World) (f t z : Nat × Nat) (gF : Nat) (AF' : Option Addr) (cF' : Nat) (gT : Nat) (gZ : Nat), CpS w W AF cF AT cT AZ cZ lo hi F T Z → CpR W (w.heap.size + 1 + 1) f t z AF' cF' (some ⟨gT, 0, none⟩) 0 (some ⟨gZ, 0, none⟩) 0 F [] [] → R 4 #[true, true, true, true, true, true, true, false, true, true, true, false, false, false] ⟨#[pebV AF F.length cF AT T.length cT AZ Z.length cZ, .pointer (some ⟨w.heap.size, 0, none⟩), .pointer (some ⟨w.heap.size + 1, 0, none⟩), .slice (some ⟨gF, 0, none⟩) 0 0, .pointer (some ⟨w.heap.size, 0, none⟩), .slice AF F.length cF, .slice AF' F.length cF', .slice (some ⟨gT, 0, none⟩) 0 0, .pointer (some ⟨w.heap.size, 1, none⟩), .slice AT T.length cT, undef, .slice (some ⟨gZ, 0, none⟩) 0 0, .pointer (some ⟨w.heap.size, 2, none⟩), .slice AZ Z.length cZ, undef, undef], []⟩ W := by
    intro W f t z gF AF' cF' gT gZ hc hr
    rw [hR]
    refine wpAnyH_ready (rs := [7]) (by kernel_rfl) (by simp) (AllReadyH.cons rfl (fun K hK => ?_) AllReadyH.nil)
    refine step_copyR (by rfl) _ _ (by rfl) gT t.1 t.2 AT T cT lo hi (by rfl) (by rfl) hr.own.2.1 hc.src.t hT ?_
    intro AT' cT' W' r ho hl hb
    have C2 := Lib.hid (hc.below hb)
    have R2 := Lib.hid (hr.newT hb ho hl)
    clear hb hc hr ho hl
    refine hK.out _ _ C2.out.cells (fun _ => ?_)
    clear hK K
    exact as_of hR (J221.out W' f r z gF AF' cF' gT AT' cT' gZ C2.out R2.out)
  have J211 := Lib.hid j
  clear j
  have j : ∀ (W : World) (f t z : Nat × Nat) (gF : Nat) (AF' : Option Addr) (cF' : Nat) (gT : Nat) (AT' : Option Addr) (cT' : Nat), CpS w W AF cF AT cT AZ cZ lo hi F T Z → CpR W (w.heap.size + 1 + 1) f t z AF' cF' AT' cT' none 0 F T [] → R 4 #[true, true, true, true, true, true, true, true, false, true, true, false, false, false] ⟨#[pebV AF F.length cF AT T.length cT AZ Z.length cZ, .pointer (some ⟨w.heap.size, 0, none⟩), .pointer (some ⟨w.heap.size + 1, 0, none⟩), .slice (some ⟨gF, 0, none⟩) 0 0, .pointer (some ⟨w.heap.size, 0, none⟩), .slice AF F.length cF, .slice AF' F.length cF', .slice (some ⟨gT, 0, none⟩) 0 0, .pointer (some ⟨w.heap.size, 1, none⟩), .slice AT T.length cT, .slice AT' T.length cT', undef, .pointer (some ⟨w.heap.size, 2, none⟩), .slice AZ Z.length cZ, undef, undef], []⟩ W := by
    intro W f t z gF AF' cF' gT AT' cT' hc hr
    rw [hR]
    refine wpAnyH_ready (rs := [8]) (by kernel_rfl) (by simp) (AllReadyH.cons rfl (fun K hK => ?_) AllReadyH.nil)
    have hb := new_below W (.cells #[] 3)
    have C2 := Lib.hid (hc.below hb)
    have R2 := Lib.hid (hr.newZ (z' := (W.heap.size, W.heap.size + 1)) hb (ownR_empty W) (.inr (Nat.le_refl _)))
    clear hb hc hr
    go_simp
    refine hK.out _ _ C2.out.cells (fun _ => ?_)
    clear hK K
    exact as_of hR (J221.out (W.alloc (.cells #[] 3)) f t (W.heap.size, W.heap.size + 1) gF AF' cF' gT AT' cT' W.heap.size C2.out R2.out)
  have J220 := Lib.hid j
  clear j
  have j : ∀ (W : World) (f t z : Nat × Nat) (gF : Nat) (gT : Nat) (gZ : Nat), CpS w W AF cF AT cT AZ cZ lo hi F T Z → CpR W (w.heap.size + 1 + 1) f t z (some ⟨gF, 0, none⟩) 0 (some ⟨gT, 0, none⟩) 0 (some ⟨gZ, 0, none⟩) 0 [] [] [] → R 5 #[true, true, true, false, true, true, true, false, true, true, true, false, false, false] ⟨#[pebV AF F.length cF AT T.length cT AZ Z.length cZ, .pointer (some ⟨w.heap.size, 0, none⟩), .pointer (some ⟨w.heap.size + 1, 0, none⟩), .slice (some ⟨gF, 0, none⟩) 0 0, .pointer (some ⟨w.heap.size, 0, none⟩), .slice AF F.length cF, undef, .slice (some ⟨gT, 0, none⟩) 0 0, .pointer (some ⟨w.heap.size, 1, none⟩), .slice AT T.length cT, undef, .slice (some ⟨gZ, 0, none⟩) 0 0, .pointer (some ⟨w.heap.size, 2, none⟩), .slice AZ Z.length cZ, undef, undef], []⟩ W := by
    intro W f t z gF gT gZ hc hr
    rw [hR]
    refine wpAnyH_ready (rs := [3]) (by kernel_rfl) (by simp) (AllReadyH.cons rfl (fun K hK => ?_) AllReadyH.nil)
    refine step_copyR (by rfl) _ _ (by rfl) gF f.1 f.2 AF F cF lo hi (by rfl) (by rfl) hr.own.1 hc.src.f hF ?_
    intro AF' cF' W' r ho hl hb
    have C2 := Lib.hid (hc.below hb)
    have R2 := Lib.hid (hr.newF hb ho hl)
    clear hb hc hr ho hl
    refine hK.out _ _ C2.out.cells (fun _ => ?_)
    clear hK K
    exact as_of hR (J211.out W' r t z gF AF' cF' gT gZ C2.out R2.out)
  have J111 := Lib.hid j
  clear j
  have j : ∀ (W : World) (f t z : Nat × Nat) (gF : Nat) (AF' : Option Addr) (cF' : Nat) (gZ : Nat), CpS w W AF cF AT cT AZ cZ lo hi F T Z → CpR W (w.heap.size + 1 + 1) f t z AF' cF' none 0 (some ⟨gZ, 0, none⟩) 0 F [] [] → R 5 #[true, true, true, true, false, true, true, false, true, true, true, false, false, false] ⟨#[pebV AF F.length cF AT T.length cT AZ Z.length cZ, .pointer (some ⟨w.heap.size, 0, none⟩), .pointer (some ⟨w.heap.size + 1, 0, none⟩), .slice (some ⟨gF, 0, none⟩) 0 0, .pointer (some ⟨w.heap.size, 0, none⟩), .slice AF F.length cF, .slice AF' F.length cF', undef, .pointer (some ⟨w.heap.size, 1, none⟩), .slice AT T.length cT, undef, .slice (some ⟨gZ, 0, none⟩) 0 0, .pointer (some ⟨w.heap.size, 2, none⟩), .slice AZ Z.length cZ, undef, undef], []⟩ W := by
    intro W f t z gF AF' cF' gZ hc hr
    rw [hR]
    refine wpAnyH_ready (rs := [4]) (by kernel_rfl) (by simp) (AllReadyH.cons rfl (fun K hK => ?_) AllReadyH.nil)
    have hb := new_below W (.cells #[] 3)
    have C2 := Lib.hid (hc.below hb)
    have R2 := Lib.hid (hr.newT (t' := (W.heap.size, W.heap.size + 1)) hb (ownR_empty W) (.inr (Nat.le_refl _)))
    clear hb hc hr
    go_simp
    refine hK.out _ _ C2.out.cells (fun _ => ?_)
    clear hK K
    exact as_of hR (J211.out (W.alloc (.cells #[] 3)) f (W.heap.size, W.heap.size + 1) z gF AF' cF' W.heap.size gZ C2.out R2.out)
  have J201 := Lib.hid j
  clear j
  have j : ∀ (W : World) (f t z : Nat × Nat) (gF : Nat) (AF' : Option Addr) (cF' : Nat) (gT : Nat), CpS w W AF cF AT cT AZ cZ lo hi F T Z → CpR W (w.heap.size + 1 + 1) f t z AF' cF' (some ⟨gT, 0, none⟩) 0 none 0 F [] [] → R 5 #[true, true, true, true, true, true, true, false, false, true, true, false, false, false] ⟨#[pebV AF F.length cF AT T.length cT AZ Z.length cZ, .pointer (some ⟨w.heap.size, 0, none⟩), .pointer (some ⟨w.heap.size + 1, 0, none⟩), .slice (some ⟨gF, 0, none⟩) 0 0, .pointer (some ⟨w.heap.size, 0, none⟩), .slice AF F.length cF, .slice AF' F.length cF', .slice (some ⟨gT, 0, none⟩) 0 0, .pointer (some ⟨w.heap.size, 1, none⟩), .slice AT T.length cT, undef, undef, .pointer (some ⟨w.heap.size, 2, none⟩), .slice AZ Z.length cZ, undef, undef], []⟩ W := by
    intro W f t z gF AF' cF' gT hc hr
    rw [hR]
    refine wpAnyH_ready (rs := [7, 8]) (by kernel_rfl) (by simp) (AllReadyH.cons rfl (fun K hK => ?_) (AllReadyH.cons rfl (fun K hK => ?_) AllReadyH.nil))
    · refine step_copyR (by rfl) _ _ (by rfl) gT t.1 t.2 AT T cT lo hi (by rfl) (by rfl) hr.own.2.1 hc.src.t hT ?_
      intro AT' cT' W' r ho hl hb
      have C2 := Lib.hid (hc.below hb)
      have R2 := Lib.hid (hr.newT hb ho hl)
      clear hb hc hr ho hl
      refine hK.out _ _ C2.out.cells (fun _ => ?_)
      clear hK K
      exact as_of hR (J220.out W' f r z gF AF' cF' gT AT' cT' C2.out R2.out)
    · have hb := new_below W (.cells #[] 3)
      have C2 := Lib.hid (hc.below hb)
      have R2 := Lib.hid (hr.newZ (z' := (W.heap.size, W.heap.size + 1)) hb (ownR_empty W) (.inr (Nat.le_refl _)))
      clear hb hc hr
      go_simp
      refine hK.out _ _ C2.out.cells (fun _ => ?_)
      clear hK K
      exact as_of hR (J211.out (W.alloc (.cells #[] 3)) f t (W.heap.size, W.heap.size + 1) gF AF' cF' gT W.heap.size C2.out R2.out)
  have J210 := Lib.hid j
  clear j
  have j : ∀ (W : World) (f t z : Nat × Nat) (gT : Nat) (gZ : Nat), CpS w W AF cF AT cT AZ cZ lo hi F T Z → CpR W (w.heap.size + 1 + 1) f t z none 0 (some ⟨gT, 0, none⟩) 0 (some ⟨gZ, 0, none⟩) 0 [] [] [] → R 6 #[false, true, true, false, true, true, true, false, true, true, true, false, false, false] ⟨#[pebV AF F.length cF AT T.length cT AZ Z.length cZ, .pointer (some ⟨w.heap.size, 0, none⟩), .pointer (some ⟨w.heap.size + 1, 0, none⟩), undef, .pointer (some ⟨w.heap.size, 0, none⟩), .slice AF F.length cF, undef, .slice (some ⟨gT, 0, none⟩) 0 0, .pointer (some ⟨w.heap.size, 1, none⟩), .slice AT T.length cT, undef, .slice (some ⟨gZ, 0, none⟩) 0 0, .pointer (some ⟨w.heap.size, 2, none⟩), .slice AZ Z.length cZ, undef, undef], []⟩ W := by
    intro W f t z gT gZ hc hr
    rw [hR]
    refine wpAnyH_ready (rs := [0]) (by kernel_rfl) (by simp) (AllReadyH.cons rfl (fun K hK => ?_) AllReadyH.nil)
    have hb := new_below W (.cells #[] 3)
    have C2 := Lib.hid (hc.below hb)
    have R2 := Lib.hid (hr.newF (f' := (W.heap.size, W.heap.size + 1)) hb (ownR_empty W) (.inr (Nat.le_refl _)))
    clear hb hc hr
    go_simp
    refine hK.out _ _ C2.out.cells (fun _ => ?_)
    clear hK K
    exact as_of hR (J111.out (W.alloc (.cells #[] 3)) (W.heap.size, W.heap.size + 1) t z W.heap.size gT gZ C2.out R2.out)
  have J011 := Lib.hid j
  clear j
  have j : ∀ (W : World) (f t z : Nat × Nat) (gF : Nat) (gZ : Nat), CpS w W AF cF AT cT AZ cZ lo hi F T Z → CpR W (w.heap.size + 1 + 1) f t z (some ⟨gF, 0, none⟩) 0 none 0 (some ⟨gZ, 0, none⟩) 0 [] [] [] → R 6 #[true, true, true, false, false, true, true, false, true, true, true, false, false, false] ⟨#[pebV AF F.length cF AT T.length cT AZ Z.length cZ, .pointer (some ⟨w.heap.size, 0, none⟩), .pointer (some ⟨w.heap.size + 1, 0, none⟩), .slice (some ⟨gF, 0, none⟩) 0 0, .pointer (some ⟨w.heap.size, 0, none⟩), .slice AF F.length cF, undef, undef, .pointer (some ⟨w.heap.size, 1, none⟩), .slice AT T.length cT, undef, .slice (some ⟨gZ, 0, none⟩) 0 0, .pointer (some ⟨w.heap.size, 2, none⟩), .slice AZ Z.length cZ, undef, undef], []⟩ W := by
    intro W f t z gF gZ hc hr
    rw [hR]
    refine wpAnyH_ready (rs := [3, 4]) (by kernel_rfl) (by simp) (AllReadyH.cons rfl (fun K hK => ?_) (AllReadyH.cons rfl (fun K hK => ?_) AllReadyH.nil))
    · refine step_copyR (by rfl) _ _ (by rfl) gF f.1 f.2 AF F cF lo hi (by rfl) (by rfl) hr.own.1 hc.src.f hF ?_
      intro AF' cF' W' r ho hl hb
      have C2 := Lib.hid (hc.below hb)
      have R2 := Lib.hid (hr.newF hb ho hl)
      clear hb hc hr ho hl
      refine hK.out _ _ C2.out.cells (fun _ => ?_)
      clear hK K
      exact as_of hR (J201.out W' r t z gF AF' cF' gZ C2.out R2.out)
    · have hb := new_below W (.cells #[] 3)
      have C2 := Lib.hid (hc.below hb)
      have R2 := Lib.hid (hr.newT (t' := (W.heap.size, W.heap.size + 1)) hb (ownR_empty W) (.inr (Nat.le_refl _)))
      clear hb hc hr
      go_simp
      refine hK.out _ _ C2.out.cells (fun _ => ?_)
      clear hK K
      exact as_of hR (J111.out (W.alloc (.cells #[] 3)) f (W.heap.size, W.heap.size + 1) z gF W.heap.size gZ C2.out R2.out)
  have J101 := Lib.hid j
  clear j
  have j : ∀ (W : World) (f t z : Nat × Nat) (gF : Nat) (gT : Nat), CpS w W AF cF AT cT AZ cZ lo hi F T Z → CpR W (w.heap.size + 1 + 1) f t z (some ⟨gF, 0, none⟩) 0 (some ⟨gT, 0, none⟩) 0 none 0 [] [] [] → R 6 #[true, true, true, false, true, true, true, false, false, true, true, false, false, false] ⟨#[pebV AF F.length cF AT T.length cT AZ Z.length cZ, .pointer (some ⟨w.heap.size, 0, none⟩), .pointer (some ⟨w.heap.size + 1, 0, none⟩), .slice (some ⟨gF, 0, none⟩) 0 0, .pointer (some ⟨w.heap.size, 0, none⟩), .slice AF F.length cF, undef, .slice (some ⟨gT, 0, none⟩) 0 0, .pointer (some ⟨w.heap.size, 1, none⟩), .slice AT T.length cT, undef, undef, .pointer (some ⟨w.heap.size, 2, none⟩), .slice AZ Z.length cZ, undef, undef], []⟩ W := by
    intro W f t z gF gT hc hr
    rw [hR]
    refine wpAnyH_ready (rs := [3, 8]) (by kernel_rfl) (by simp) (AllReadyH.cons rfl (fun K hK => ?_) (AllReadyH.cons rfl (fun K hK => ?_) AllReadyH.nil))
    · refine step_copyR (by rfl) _ _ (by rfl) gF f.1 f.2 AF F cF lo hi (by rfl) (by rfl) hr.own.1 hc.src.f hF ?_
      intro AF' cF' W' r ho hl hb
      have C2 := Lib.hid (hc.below hb)
      have R2 := Lib.hid (hr.newF hb ho hl)
      clear hb hc hr ho hl
      refine hK.out _ _ C2.out.cells (fun _ => ?_)
      clear hK K
      exact as_of hR (J210.out W' r t z gF AF' cF' gT C2.out R2.out)
    · have hb := new_below W (.cells #[] 3)
      have C2 := Lib.hid (hc.below hb)
      have R2 := Lib.hid (hr.newZ (z' := (W.heap.size, W.heap.size + 1)) hb (ownR_empty W) (.inr (Nat.le_refl _)))
      clear hb hc hr
      go_simp
      refine hK.out _ _ C2.out.cells (fun _ => ?_)
      clear hK K
      exact as_of hR (J111.out (W.alloc (.cells #[] 3)) f t (W.heap.size, W.heap.size + 1) gF gT W.heap.size C2.out R2.out)
  have J110 := Lib.hid j
  clear j
  have j : ∀ (W : World) (f t z : Nat × Nat) (gF : Nat) (AF' : Option Addr) (cF' : Nat), CpS w W AF cF AT cT AZ cZ lo hi F T Z → CpR W (w.heap.size + 1 + 1) f t z AF' cF' none 0 none 0 F [] [] → R 6 #[true, true, true, true, false, true, true, false, false, true, true, false, false, false] ⟨#[pebV AF F.length cF AT T.length cT AZ Z.length cZ, .pointer (some ⟨w.heap.size, 0, none⟩), .pointer (some ⟨w.heap.size + 1, 0, none⟩), .slice (some ⟨gF, 0, none⟩) 0 0, .pointer (some ⟨w.heap.size, 0, none⟩), .slice AF F.length cF, .slice AF' F.length cF', undef, .pointer (some ⟨w.heap.size, 1, none⟩), .slice AT T.length cT, undef, undef, .pointer (some ⟨w.heap.size, 2, none⟩), .slice AZ Z.length cZ, undef, undef], []⟩ W := by
    intro W f t z gF AF' cF' hc hr
    rw [hR]
    refine wpAnyH_ready (rs := [4, 8]) (by kernel_rfl) (by simp) (AllReadyH.cons rfl (fun K hK => ?_) (AllReadyH.cons rfl (fun K hK => ?_) AllReadyH.nil))
    · have hb := new_below W (.cells #[] 3)
      have C2 := Lib.hid (hc.below hb)
      have R2 := Lib.hid (hr.newT (t' := (W.heap.size, W.heap.size + 1)) hb (ownR_empty W) (.inr (Nat.le_refl _)))
      clear hb hc hr
      go_simp
      refine hK.out _ _ C2.out.cells (fun _ => ?_)
      clear hK K
      exact as_of hR (J210.out (W.alloc (.cells #[] 3)) f (W.heap.size, W.heap.size + 1) z gF AF' cF' W.heap.size C2.out R2.out)
    · have hb := new_below W (.cells #[] 3)
      have C2 := Lib.hid (hc.below hb)
      have R2 := Lib.hid (hr.newZ (z' := (W.heap.size, W.heap.size + 1)) hb (ownR_empty W) (.inr (Nat.le_refl _)))
      clear hb hc hr
      go_simp
      refine hK.out _ _ C2.out.cells (fun _ => ?_)
      clear hK K
      exact as_of hR (J201.out (W.alloc (.cells #[] 3)) f t (W.heap.size, W.heap.size + 1) gF AF' cF' W.heap.size C2.out R2.out)
  have J200 := Lib.hid j
  clear j
  have j : ∀ (W : World) (f t z : Nat × Nat) (gZ : Nat), CpS w W AF cF AT cT AZ cZ lo hi F T Z → CpR W (w.heap.size + 1 + 1) f t z none 0 none 0 (some ⟨gZ, 0, none⟩) 0 [] [] [] → R 7 #[false, true, true, false, false, true, true, false, true, true, true, false, false, false] ⟨#[pebV AF F.length cF AT T.length cT AZ Z.length cZ, .pointer (some ⟨w.heap.size, 0, none⟩), .pointer (some ⟨w.heap.size + 1, 0, none⟩), undef, .pointer (some ⟨w.heap.size, 0, none⟩), .slice AF F.length cF, undef, undef, .pointer (some ⟨w.heap.size, 1, none⟩), .slice AT T.length cT, undef, .slice (some ⟨gZ, 0, none⟩) 0 0, .pointer (some ⟨w.heap.size, 2, none⟩), .slice AZ Z.length cZ, undef, undef], []⟩ W := by
    intro W f t z gZ hc hr
    rw [hR]
    refine wpAnyH_ready (rs := [0, 4]) (by kernel_rfl) (by simp) (AllReadyH.cons rfl (fun K hK => ?_) (AllReadyH.cons rfl (fun K hK => ?_) AllReadyH.nil))
    · have hb := new_below W (.cells #[] 3)
      have C2 := Lib.hid (hc.below hb)
      have R2 := Lib.hid (hr.newF (f' := (W.heap.size, W.heap.size + 1)) hb (ownR_empty W) (.inr (Nat.le_refl _)))
      clear hb hc hr
      go_simp
      refine hK.out _ _ C2.out.cells (fun _ => ?_)
      clear hK K
      exact as_of hR (J101.out (W.alloc (.cells #[] 3)) (W.heap.size, W.heap.size + 1) t z W.heap.size gZ C2.out R2.out)
    · have hb := new_below W (.cells #[] 3)
      have C2 := Lib.hid (hc.below hb)
      have R2 := Lib.hid (hr.newT (t' := (W.heap.size, W.heap.size + 1)) hb (ownR_empty W) (.inr (Nat.le_refl _)))
      clear hb hc hr
      go_simp
      refine hK.out _ _ C2.out.cells (fun _ => ?_)
      clear hK K
      exact as_of hR (J011.out (W.alloc (.cells #[] 3)) f (W.heap.size, W.heap.size + 1) z W.heap.size gZ C2.out R2.out)
  have J001 := Lib.hid j
  clear j
  have j : ∀ (W : World) (f t z : Nat × Nat) (gT : Nat), CpS w W AF cF AT cT AZ cZ lo hi F T Z → CpR W (w.heap.size + 1 + 1) f t z none 0 (some ⟨gT, 0, none⟩) 0 none 0 [] [] [] → R 7 #[false, true, true, false, true, true, true, false, false, true, true, false, false, false] ⟨#[pebV AF F.length cF AT T.length cT AZ Z.length cZ, .pointer (some ⟨w.heap.size, 0, none⟩), .pointer (some ⟨w.heap.size + 1, 0, none⟩), undef, .pointer (some ⟨w.heap.size, 0, none⟩), .slice AF F.length cF, undef, .slice (some ⟨gT, 0, none⟩) 0 0, .pointer (some ⟨w.heap.size, 1, none⟩), .slice AT T.length cT, undef, undef, .pointer (some ⟨w.heap.size, 2, none⟩), .slice AZ Z.length cZ, undef, undef], []⟩ W := by
    intro W f t z gT hc hr
    rw [hR]
    refine wpAnyH_ready (rs := [0, 8]) (by kernel_rfl) (by simp) (AllReadyH.cons rfl (fun K hK => ?_) (AllReadyH.cons rfl (fun K hK => ?_) AllReadyH.nil))
    · have hb := new_below W (.cells #[] 3)
      have C2 := Lib.hid (hc.below hb)
      have R2 := Lib.hid (hr.newF (f' := (W.heap.size, W.heap.size + 1)) hb (ownR_empty W) (.inr (Nat.le_refl _)))
      clear hb hc hr
      go_simp
      refine hK.out _ _ C2.out.cells (fun _ => ?_)
      clear hK K
      exact as_of hR (J110.out (W.alloc (.cells #[] 3)) (W.heap.size, W.heap.size + 1) t z W.heap.size gT C2.out R2.out)
    · have hb := new_below W (.cells #[] 3)
      have C2 := Lib.hid (hc.below hb)
      have R2 := Lib.hid (hr.newZ (z' := (W.heap.size, W.heap.size + 1)) hb (ownR_empty W) (.inr (Nat.le_refl _)))
      clear hb hc hr
      go_simp
      refine hK.out _ _ C2.out.cells (fun _ => ?_)
      clear hK K
      exact as_of hR (J011.out (W.alloc (.cells #[] 3)) f t (W.heap.size, W.heap.size + 1) gT W.heap.size C2.out R2.out)
  have J010 := Lib.hid j
  clear j
  have j : ∀ (W : World) (f t z : Nat × Nat) (gF : Nat), CpS w W AF cF AT cT AZ cZ lo hi F T Z → CpR W (w.heap.size + 1 + 1) f t z (some ⟨gF, 0, none⟩) 0 none 0 none 0 [] [] [] → R 7 #[true, true, true, false, false, true, true, false, false, true, true, false, false, false] ⟨#[pebV AF F.length cF AT T.length cT AZ Z.length cZ, .pointer (some ⟨w.heap.size, 0, none⟩), .pointer (some ⟨w.heap.size + 1, 0, none⟩), .slice (some ⟨gF, 0, none⟩) 0 0, .pointer (some ⟨w.heap.size, 0, none⟩), .slice AF F.length cF, undef, undef, .pointer (some ⟨w.heap.size, 1, none⟩), .slice AT T.length cT, undef, undef, .pointer (some ⟨w.heap.size, 2, none⟩), .slice AZ Z.length cZ, undef, undef], []⟩ W := by
    intro W f t z gF hc hr
    rw [hR]
    refine wpAnyH_ready (rs := [3, 4, 8]) (by kernel_rfl) (by simp) (AllReadyH.cons rfl (fun K hK => ?_) (AllReadyH.cons rfl (fun K hK => ?_) (AllReadyH.cons rfl (fun K hK => ?_) AllReadyH.nil)))
    · refine step_copyR (by rfl) _ _ (by rfl) gF f.1 f.2 AF F cF lo hi (by rfl) (by rfl) hr.own.1 hc.src.f hF ?_
      intro AF' cF' W' r ho hl hb
      have C2 := Lib.hid (hc.below hb)
      have R2 := Lib.hid (hr.newF hb ho hl)
      clear hb hc hr ho hl
      refine hK.out _ _ C2.out.cells (fun _ => ?_)
      clear hK K
      exact as_of hR (J200.out W' r t z gF AF' cF' C2.out R2.out)
    · have hb := new_below W (.cells #[] 3)
      have C2 := Lib.hid (hc.below hb)
      have R2 := Lib.hid (hr.newT (t' := (W.heap.size, W.heap.size + 1)) hb (ownR_empty W) (.inr (Nat.le_refl _)))
      clear hb hc hr
      go_simp
      refine hK.out _ _ C2.out.cells (fun _ => ?_)
      clear hK K
      exact as_of hR (J110.out (W.alloc (.cells #[] 3)) f (W.heap.size, W.heap.size + 1) z gF W.heap.size C2.out R2.out)
    · have hb := new_below W (.cells #[] 3)
      have C2 := Lib.hid (hc.below hb)
      have R2 := Lib.hid (hr.newZ (z' := (W.heap.size, W.heap.size + 1)) hb (ownR_empty W) (.inr (Nat.le_refl _)))
      clear hb hc hr
      go_simp
      refine hK.out _ _ C2.out.cells (fun _ => ?_)
      clear hK K
      exact as_of hR (J101.out (W.alloc (.cells #[] 3)) f t (W.heap.size, W.heap.size + 1) gF W.heap.size C2.out R2.out)
  have J100 := Lib.hid j
  clear j
  have j : ∀ (W : World) (f t z : Nat × Nat), CpS w W AF cF AT cT AZ cZ lo hi F T Z → CpR W (w.heap.size + 1 + 1) f t z none 0 none 0 none 0 [] [] [] → R 8 #[false, true, true, false, false, true, true, false, false, true, true, false, false, false] ⟨#[pebV AF F.length cF AT T.length cT AZ Z.length cZ, .pointer (some ⟨w.heap.size, 0, none⟩), .pointer (some ⟨w.heap.size + 1, 0, none⟩), undef, .pointer (some ⟨w.heap.size, 0, none⟩), .slice AF F.length cF, undef, undef, .pointer (some ⟨w.heap.size, 1, none⟩), .slice AT T.length cT, undef, undef, .pointer (some ⟨w.heap.size, 2, none⟩), .slice AZ Z.length cZ, undef, undef], []⟩ W := by
    intro W f t z  hc hr
    rw [hR]
    refine wpAnyH_ready (rs := [0, 4, 8]) (by kernel_rfl) (by simp) (AllReadyH.cons rfl (fun K hK => ?_) (AllReadyH.cons rfl (fun K hK => ?_) (AllReadyH.cons rfl (fun K hK => ?_) AllReadyH.nil)))
    · have hb := new_below W (.cells #[] 3)
      have C2 := Lib.hid (hc.below hb)
      have R2 := Lib.hid (hr.newF (f' := (W.heap.size, W.heap.size + 1)) hb (ownR_empty W) (.inr (Nat.le_refl _)))
      clear hb hc hr
      go_simp
      refine hK.out _ _ C2.out.cells (fun _ => ?_)
      clear hK K
      exact as_of hR (J100.out (W.alloc (.cells #[] 3)) (W.heap.size, W.heap.size + 1) t z W.heap.size C2.out R2.out)
    · have hb := new_below W (.cells #[] 3)
      have C2 := Lib.hid (hc.below hb)
      have R2 := Lib.hid (hr.newT (t' := (W.heap.size, W.heap.size + 1)) hb (ownR_empty W) (.inr (Nat.le_refl _)))
      clear hb hc hr
      go_simp
      refine hK.out _ _ C2.out.cells (fun _ => ?_)
      clear hK K
      exact as_of hR (J010.out (W.alloc (.cells #[] 3)) f (W.heap.size, W.heap.size + 1) z W.heap.size C2.out R2.out)
    · have hb := new_below W (.cells #[] 3)
      have C2 := Lib.hid (hc.below hb)
      have R2 := Lib.hid (hr.newZ (z' := (W.heap.size, W.heap.size + 1)) hb (ownR_empty W) (.inr (Nat.le_refl _)))
      clear hb hc hr
      go_simp
      refine hK.out _ _ C2.out.cells (fun _ => ?_)
      clear hK K
      exact as_of hR (J001.out (W.alloc (.cells #[] 3)) f t (W.heap.size, W.heap.size + 1) W.heap.size C2.out R2.out)
  have J000 := Lib.hid j
  clear j
  exact J000.out WD _ _ _ CD.out CR.out
end Go.Proofs.Ytgmcibcjplncaaa
/- What stands while a state is worked upon: the graph's box, the state's box, the result's box. No program's walk. No condition. -/
namespace Go.Proofs.Ytgmcibcjplncaaa
open Go.RowKit

/-- What stands while a state is worked upon: the graph's box, the state's box, the result's box. -/
structure GtI (w W : World) (p : Int) (A : Option Addr) (cap : Nat) (l : List (Int × Int)) (AF AT AZ : Option Addr) (cF cT cZ lo hi : Nat) (F T Z : List Int) : Prop where
  gb : Box W w.heap.size p (.slice A l.length cap)
  pb : Cel3 W (w.heap.size + 1) 30 (.slice AF F.length cF) (.slice AT T.length cT) (.slice AZ Z.length cZ)
  rb : Cel3 W (w.heap.size + 1 + 1) 30 (.slice none 0 0) (.slice none 0 0) (.slice none 0 0)
  bars : BarsIn W 0 w.heap.size A l
  src : Peb3 W lo hi AF AT AZ F T Z
  bel : Below w.heap.size w W
theorem GtI.below {w W : World} {p : Int} {A : Option Addr} {cap : Nat} {l : List (Int × Int)} {AF AT AZ : Option Addr} {cF cT cZ lo hi : Nat} {F T Z : List Int} {W' : World} (h : GtI w W p A cap l AF AT AZ cF cT cZ lo hi F T Z) (hb : Below W.heap.size W W') : GtI w W' p A cap l AF AT AZ cF cT cZ lo hi F T Z :=
  ⟨h.gb.kept hb, h.pb.kept hb, h.rb.kept hb, h.bars.within (within_of hb) (.inr (Nat.zero_le _)), h.src.within (within_of hb) (.inr (Nat.zero_le _)), below_on h.bel hb h.bel.size⟩
theorem GtI.within {w W : World} {p : Int} {A : Option Addr} {cap : Nat} {l : List (Int × Int)} {AF AT AZ : Option Addr} {cF cT cZ lo hi : Nat} {F T Z : List Int} {W' : World} (h : GtI w W p A cap l AF AT AZ cF cT cZ lo hi F T Z) {lo' hi' : Nat} (hw : Within lo' hi' W W') (h1 : w.heap.size + 3 ≤ lo') (h2 : hi ≤ lo') : GtI w W' p A cap l AF AT AZ cF cT cZ lo hi F T Z :=
  ⟨h.gb.within hw (by omega), h.pb.within hw (by omega), h.rb.within hw (by omega), h.bars.within hw (by omega), h.src.within hw (by omega), ⟨hw.os.trans h.bel.os, hw.tape.trans h.bel.tape, hw.output.trans h.bel.output, Nat.le_trans h.bel.size hw.size, fun k hk => (hw.block k (Nat.lt_of_lt_of_le hk h.bel.size) (by omega)).trans (h.bel.block k hk)⟩⟩
/-- Three boxes are made at the start. -/
theorem GtI.start (w : World) (p : Int) (A : Option Addr) (cap : Nat) (l : List (Int × Int)) (AF AT AZ : Option Addr) (cF cT cZ lo hi : Nat) (F T Z : List Int) (hl : BarsAt w w.heap.size A l) (h : Peb3 w lo hi AF AT AZ F T Z) :
    GtI w (((w.alloc (.cells #[.int .i64 p, .slice A l.length cap] 35)).alloc (.cells #[.slice AF F.length cF, .slice AT T.length cT, .slice AZ Z.length cZ] 30)).alloc (.cells #[.slice none 0 0, .slice none 0 0, .slice none 0 0] 30)) p A cap l AF AT AZ cF cT cZ lo hi F T Z := by
  have b1 := new_below w (.cells #[.int .i64 p, .slice A l.length cap] 35)
  generalize hw1 : (w.alloc (.cells #[.int .i64 p, .slice A l.length cap] 35)) = w1 at *
  have s1 : w1.heap.size = w.heap.size + 1 := by rw [← hw1]; simp
  have n1 := box_new w p (.slice A l.length cap) 35
  rw [hw1] at n1
  have b2 := new_below w1 (.cells #[.slice AF F.length cF, .slice AT T.length cT, .slice AZ Z.length cZ] 30)
  have n2 := cel3_new w1 (.slice AF F.length cF) (.slice AT T.length cT) (.slice AZ Z.length cZ) 30
  generalize hw2 : (w1.alloc (.cells #[.slice AF F.length cF, .slice AT T.length cT, .slice AZ Z.length cZ] 30)) = w2 at *
  have s2 : w2.heap.size = w.heap.size + 1 + 1 := by rw [← hw2]; simp [s1]
  have b3 := new_below w2 (.cells #[.slice none 0 0, .slice none 0 0, .slice none 0 0] 30)
  have n3 := cel3_new w2 (.slice none 0 0) (.slice none 0 0) (.slice none 0 0) 30
  have b123 := below_on (below_on b1 b2 b1.size) b3 (by omega)
  rw [s1] at n2
  rw [s2] at n3
  exact ⟨(n1.kept b2).kept b3, n2.kept b3, n3, (bars_in hl).within (within_of b123) (.inr (Nat.zero_le _)), h.within (within_of b123) (.inr (Nat.zero_le _)), b123⟩
end Go.Proofs.Ytgmcibcjplncaaa
/- What spec.l4Tail answers: how many tails are a point. No condition. -/
namespace Go.Proofs.Ytgmcibcjplncaaa
open Go.RowKit

theorem count_take (T : List Int) (v : Int) (k : Nat) (h : k < T.length) : (T.take (k + 1)).count v = (T.take k).count v + if T.getD k 0 = v then 1 else 0 := by
  rw [take_getD T 0 k h, List.count_append, List.count_singleton]
  by_cases c : T.getD k 0 = v
  · rw [if_pos c, if_pos (by simpa using c)]
  · rw [if_neg c, if_neg (by simpa using c)]

set_option maxHeartbeats 1000000 in
set_option maxRecDepth 100000 in
theorem tail_c (AF AT AZ : Option Addr) (cF cT cZ lo hi : Nat) (F T Z : List Int) (v : Int) (w : World) (h : Peb3 w lo hi AF AT AZ F T Z) (hT : T.length ≤ 1048576) :
    Calls Try.prog 87 #[pebV AF F.length cF AT T.length cT AZ Z.length cZ, .int .i64 v] w fun e w' => e = .returned (.int .i64 (T.count v : Int)) ∧ Below w.heap.size w w' := by
  have hal := new_below w (.cells #[.slice AF F.length cF, .slice AT T.length cT, .slice AZ Z.length cZ] 30)
  have HB := Lib.hid hal
  have HC := Lib.hid (cel3_new w (.slice AF F.length cF) (.slice AT T.length cT) (.slice AZ Z.length cZ) 30)
  have HI := Lib.hid (h.t.within (within_of hal) (.inr (Nat.zero_le _)))
  clear hal h
  obtain ⟨_, c1, _, _⟩ := HC.out.cells
  go_enter Try.func87, Try.ntmps87
  go_wp2_with fail
  generalize (w.alloc (.cells #[.slice AF F.length cF, .slice AT T.length cT, .slice AZ Z.length cZ] 30)) = w1 at *
  go_loop [5, 6] (fun s i => ∃ k : Nat, k ≤ T.length ∧ i = .int .i64 k ∧ s = .int .i64 ((T.take k).count v : Int)) (fun _ i => T.length - (intOf i).toNat)
  case atStart => exact ⟨0, by omega, rfl, rfl⟩
  case round =>
    obtain ⟨k, hk, rfl, rfl⟩ := hrel
    by_cases hlt : k < T.length
    · have hi' : (k : Int) < (T.length : Int) := by omega
      obtain ⟨b, off, rfl, _, _, hcell⟩ := HI.out.2 (by omega)
      have hc := hcell k hlt
      have HS := Lib.hid (count_take T v k hlt)
      have hle : (T.take k).count v ≤ k := Nat.le_trans (List.count_le_length ..) (by simp; omega)
      obtain ⟨x, hx⟩ : ∃ x, T.getD k 0 = x := ⟨_, rfl⟩
      rw [hx] at hc HS
      clear hcell hx
      by_cases c : x = v
      · rw [if_pos c] at HS
        have hb : (x == v) = true := by simpa using c
        go_wp2_with fail
        go_round
        case rel => exact ⟨k + 1, by omega, by go_num, by rw [HS.out]; go_num⟩
        case measure => simp [intOf]; omega
      · rw [if_neg c] at HS
        have hb : (x == v) = false := by simpa using c
        go_wp2_with fail
        go_round
        case rel => exact ⟨k + 1, by omega, by go_num, by rw [HS.out]; rfl⟩
        case measure => simp [intOf]; omega
    · obtain rfl : k = T.length := by omega
      go_wp2_with fail
      go_ret
      exact ⟨rfl, HB.out⟩
end Go.Proofs.Ytgmcibcjplncaaa
/- What (Bar).hasEnd answers. No condition. -/
namespace Go.Proofs.Ytgmcibcjplncaaa
open Go.RowKit

theorem endB_eq (v x y : Int) : endB v (x, y) = ((x == v) || (y == v)) := by
  unfold endB
  simp only [Bool.decide_or]
  rfl

theorem hasEnd_c (v : Int) (x : Int × Int) (w : World) :
    Calls Try.prog 89 #[.agg #[.int .i64 x.1, .int .i64 x.2], .int .i64 v] w fun e w' => e = .returned (.bool (endB v x)) ∧ Below w.heap.size w w' := by
  obtain ⟨x, y⟩ := x
  have hh := endB_eq v x y
  cases e1 : (x == v) <;> cases e2 : (y == v)
  all_goals
    rw [e1, e2] at hh
    have HH := Lib.hid hh
    clear hh
    go_enter Try.func89, Try.ntmps89
    go_wp2
    go_ret
    exact ⟨by rw [HH.out]; rfl, (Below.refl _ _).alloc (Nat.le_refl _) _⟩
end Go.Proofs.Ytgmcibcjplncaaa
/- When a state is one of a graph, bar by bar. No program. No condition. -/
namespace Go.Proofs.Ytgmcibcjplncaaa
open Go.RowKit

/-- The bar at place i of those that were placed is in order. -/
def OkP (l : List (Int × Int)) (T Z : List Int) (i : Nat) : Prop :=
  (0 ≤ Z.getD i 0 ∧ Z.getD i 0 < (l.length : Int)) ∧ (0 < i → Z.getD (i - 1) 0 < Z.getD i 0) ∧ isEnd (l.getD (Z.getD i 0).toNat (0, 0)) (T.getD i 0)
theorem okP_snoc {l : List (Int × Int)} {T Z : List Int} {k : Nat} (h : ∀ j, j < k → OkP l T Z j) (hk : OkP l T Z k) : ∀ j, j < k + 1 → OkP l T Z j := fun j hj => by
  by_cases e : j = k
  · subst e; exact hk
  · exact h j (by omega)
theorem isPeb_bad {p k : Int} {l : List (Int × Int)} {F T Z : List Int} {i : Nat} (hi : i < Z.length) (h : ¬ OkP l T Z i) : isPebB p k l F T Z = false := isPebB_no fun hp => h (hp.2.2.2.2.1 i hi)
theorem isPeb_free {p k : Int} {l : List (Int × Int)} {F T Z : List Int} {v : Nat} (hv : v < F.length) (h : ¬ (0 ≤ F.getD v 0 ∧ F.getD v 0 + (T.count (v : Int) : Int) = k)) : isPebB p k l F T Z = false := isPebB_no fun hp => h (hp.2.2.2.2.2 v hv)
/-- As many bars were placed as there are, at most. -/
theorem okP_len {l : List (Int × Int)} {T Z : List Int} (h : ∀ j, j < Z.length → OkP l T Z j) : Z.length ≤ l.length := by
  have key : ∀ j, j < Z.length → (j : Int) ≤ Z.getD j 0 := by
    intro j
    induction j with
    | zero => intro hj; exact (h 0 hj).1.1
    | succ j ih =>
      intro hj
      have h1 := ih (by omega)
      have h2 := (h (j + 1) hj).2.1 (by omega)
      rw [show j + 1 - 1 = j by omega] at h2
      omega
  by_cases hz : Z.length = 0
  · omega
  · have h1 := key (Z.length - 1) (by omega)
    have h2 := (h (Z.length - 1) (by omega)).1.2
    omega
theorem endB_is (x : Int × Int) (v : Int) : endB v x = true ↔ isEnd x v := by
  unfold endB isEnd
  rw [decide_eq_true_iff]
  constructor
  · rintro (h | h)
    · exact .inl h.symm
    · exact .inr h.symm
  · rintro (h | h)
    · exact .inl h.symm
    · exact .inr h.symm
theorem wf_add {x : Int} {n : Nat} {k : Int} (hw : Wf x) (h0 : 0 ≤ x) (hn : n ≤ 24) (hk : 1 ≤ k ∧ k ≤ 3) : (IntKind.i64.wrap (x + (n : Int)) = k) ↔ x + (n : Int) = k := by
  unfold Wf at hw
  simp [Lit.wf, IntKind.min, IntKind.max, IntKind.signed, IntKind.bits] at hw
  constructor
  · intro h
    by_cases hx : x + (n : Int) ≤ 9223372036854775807
    · rwa [IntWalk.i64_in _ (by omega)] at h
    · exfalso
      rw [IntKind.wrap_i64] at h
      omega
  · intro h
    rw [IntWalk.i64_in _ (by omega)]
    exact h
/-- A graph and a state that are read: each in a box of its own, with the rows that they point to. -/
structure GP (w wr : World) (bx bp : Nat) (p : Int) (A : Option Addr) (cap : Nat) (l : List (Int × Int)) (AF AT AZ : Option Addr) (cF cT cZ lo hi : Nat) (F T Z : List Int) : Prop where
  box : Box wr bx p (.slice A l.length cap)
  st : Cel3 wr bp 30 (.slice AF F.length cF) (.slice AT T.length cT) (.slice AZ Z.length cZ)
  bars : BarsIn wr 0 w.heap.size A l
  rows : Peb3 wr lo hi AF AT AZ F T Z
  bel : Below w.heap.size w wr
theorem GP.below {w wr w' : World} {bx bp : Nat} {p : Int} {A : Option Addr} {cap : Nat} {l : List (Int × Int)} {AF AT AZ : Option Addr} {cF cT cZ lo hi : Nat} {F T Z : List Int} (h : GP w wr bx bp p A cap l AF AT AZ cF cT cZ lo hi F T Z) (hb : Below wr.heap.size wr w') : GP w w' bx bp p A cap l AF AT AZ cF cT cZ lo hi F T Z :=
  ⟨h.box.kept hb, h.st.kept hb, h.bars.within (within_of hb) (.inr (Nat.zero_le _)), h.rows.within (within_of hb) (.inr (Nat.zero_le _)), below_on h.bel hb h.bel.size⟩
theorem GP.drewN {w wr : World} {bx bp : Nat} {p : Int} {A : Option Addr} {cap : Nat} {l : List (Int × Int)} {AF AT AZ : Option Addr} {cF cT cZ lo hi : Nat} {F T Z : List Int} (h : GP w wr bx bp p A cap l AF AT AZ cF cT cZ lo hi F T Z) (n : Nat) : GP w (wr.drewN n) bx bp p A cap l AF AT AZ cF cT cZ lo hi F T Z := h.below (below_drewN _ _ _)
theorem row_at {W : World} {lo hi : Nat} {A : Option Addr} {zs : List Int} (h : IntsIn W lo hi A zs) (hz : 0 < zs.length) : ∃ b off, A = some ⟨b, off, none⟩ ∧ ∀ k, k < zs.length → W.cell? ⟨b, off + k, none⟩ = some (.int .i64 (zs.getD k 0)) := by
  obtain ⟨b, off, e, _, _, hc⟩ := h.2 hz
  exact ⟨b, off, e, hc⟩
end Go.Proofs.Ytgmcibcjplncaaa
/- What stands while a path is turned round in a copy of a state. No program's walk. No condition. -/
namespace Go.Proofs.Ytgmcibcjplncaaa
open Go.RowKit

/-- Where a point stands in a queue. -/
def posQ : List (Int × Nat) → Int → Nat
  | [], _ => 0
  | x :: r, t => if x.1 = t then 0 else posQ r t + 1
theorem posQ_in : ∀ (q1 r : List (Int × Nat)) (t : Int), t ∈ q1.map Prod.fst → posQ (q1 ++ r) t < q1.length := by
  intro q1 r t
  induction q1 with
  | nil => intro h; cases h
  | cons x q1 ih =>
    intro h
    rw [List.cons_append, posQ]
    by_cases c : x.1 = t
    · rw [if_pos c]; simp
    · rw [if_neg c]
      have : t ∈ q1.map Prod.fst := by
        rcases List.mem_cons.1 h with e | e
        · exact absurd e.symm c
        · exact e
      have := ih this
      simp only [List.length_cons]
      omega
theorem posQ_out : ∀ (q1 q2 : List (Int × Nat)) (t : Int) (i : Nat), t ∉ q1.map Prod.fst → posQ (q1 ++ (t, i) :: q2) t = q1.length := by
  intro q1 q2 t i
  induction q1 with
  | nil => intro _; simp [posQ]
  | cons x q1 ih =>
    intro h
    simp only [List.map_cons, List.mem_cons, not_or] at h
    rw [List.cons_append, posQ, if_neg (fun e => h.1 e.symm), ih h.2]
    rfl
theorem posQ_step {q1 q2 : List (Int × Nat)} {t t' : Int} {i : Nat} (h : t ∉ q1.map Prod.fst) (h' : t' ∈ q1.map Prod.fst) : posQ (q1 ++ (t, i) :: q2) t' < posQ (q1 ++ (t, i) :: q2) t := by
  rw [posQ_out q1 q2 t i h]
  exact posQ_in q1 _ t' h'
/-- The path from t on is still to be turned. -/
structure TurnI (P : Nat) (E : List (Int × Int)) (T0 : List Int) (a : Int) (q : List (Int × Nat)) (TF : List Int) (t : Int) (T : List Int) : Prop where
  ends : EndsQ P E T0
  len : T.length = E.length
  ex : ∃ q1 q2, q = q1 ++ q2 ∧ PathQ P E T0 a q1 ∧ t ∈ q1.map Prod.fst ∧ turnQ E a q1.reverse t T = TF ∧ ∀ x ∈ q1, x.1 ≠ a → T.getD x.2 0 = T0.getD x.2 0
theorem TurnI.done {P : Nat} {E : List (Int × Int)} {T0 : List Int} {a : Int} {q : List (Int × Nat)} {TF T : List Int} (h : TurnI P E T0 a q TF a T) : T = TF := by
  obtain ⟨q1, q2, _, _, _, e, _⟩ := h.ex
  rw [turnQ_a] at e
  exact e
/-- One bar of the path: its number, and where the path goes on. -/
theorem TurnI.next {P : Nat} {E : List (Int × Int)} {T0 : List Int} {a : Int} {q : List (Int × Nat)} {TF T : List Int} {t : Int} (h : TurnI P E T0 a q TF t T) (hn : t ≠ a) :
    ∃ i, (t, i) ∈ q ∧ i < E.length ∧ (0 ≤ t ∧ t < (P : Int)) ∧ T.getD i 0 = oth (E.getD i (0, 0)) t ∧ isEnd (E.getD i (0, 0)) t ∧ (0 ≤ oth (E.getD i (0, 0)) t ∧ oth (E.getD i (0, 0)) t < (P : Int)) ∧ TurnI P E T0 a q TF (oth (E.getD i (0, 0)) t) (T.set i t) ∧ posQ q (oth (E.getD i (0, 0)) t) < posQ q t := by
  obtain ⟨q1, q2, rfl, hp, ht, e, hT⟩ := h.ex
  obtain ⟨i, p1, p2, rfl, h1, h2, h3, h4, h5, h6, h7, h8⟩ := hp.at ht hn
  rw [turnQ_step E a t i p1 p2 T h1 hn] at e
  have hend : isEnd (E.getD i (0, 0)) t := by
    have := h.ends.tail i h3
    rw [h4] at this
    have := oth_end this
    rwa [oth_oth] at this
  have hb := h.ends.bar i h3
  refine ⟨i, by simp, h3, ⟨h6, h7⟩, (hT (t, i) (by simp) hn).trans h4, hend, ?_, ⟨h.ends, by rw [List.length_set]; exact h.len, p1, (t, i) :: p2 ++ q2, by simp, h8, h5, e, fun x hx hxa => ?_⟩, ?_⟩
  · unfold isEnd at hend
    unfold oth
    omega
  · rw [set_getD_ne _ _ _ _ _ (h8.other h2 h4 hx hxa)]
    exact hT x (List.mem_append_left _ hx) hxa
  · rw [List.append_assoc, List.cons_append]
    exact posQ_step h2 h5
theorem TurnI.start {P : Nat} {E : List (Int × Int)} {T0 : List Int} {a u : Int} {q r : List (Int × Nat)} (he : EndsQ P E T0) (hp : PathQ P E T0 a q) (hu : u ∈ q.map Prod.fst) : TurnI P E T0 a (q ++ r) (turnQ E a q.reverse u T0) u T0 :=
  ⟨he, he.len, q, r, rfl, hp, hu, rfl, fun _ _ _ => rfl⟩
end Go.Proofs.Ytgmcibcjplncaaa
/- What spec.l4Shift answers: a copy of the state where a pebble moved and a path was turned round. No condition. -/
namespace Go.Proofs.Ytgmcibcjplncaaa
open Go.RowKit

/-- What stands while the path is turned in the copy: what is read, the copy's box, the copy's rows. -/
structure ShL (w wr : World) (p : Int) (A : Option Addr) (cap : Nat) (l : List (Int × Int)) (AF AT AZ : Option Addr) (cF cT cZ lo hi : Nat) (F T Z : List Int) (bx gF dF gT dT : Nat) (BZ : Option Addr) (dZ : Nat) (z : Nat × Nat) (lf hf : Nat) (Af : Option Addr) (FR G T' : List Int) : Prop where
  g : GtI w wr p A cap l AF AT AZ cF cT cZ lo hi F T Z
  x : Cel3 wr bx 30 (.slice (some ⟨gF, 0, none⟩) F.length dF) (.slice (some ⟨gT, 0, none⟩) T.length dT) (.slice BZ Z.length dZ)
  s : St3 wr 0 gF dF gT dT BZ dZ z.1 z.2 G T' Z
  fr : IntsIn wr lf hf Af FR
  oz : OwnR wr z.1 z.2 BZ dZ Z
theorem ShL.below {w wr : World} {p : Int} {A : Option Addr} {cap : Nat} {l : List (Int × Int)} {AF AT AZ : Option Addr} {cF cT cZ lo hi : Nat} {F T Z : List Int} {bx gF dF gT dT : Nat} {BZ : Option Addr} {dZ : Nat} {z : Nat × Nat} {lf hf : Nat} {Af : Option Addr} {FR G T' : List Int} {w' : World} (h : ShL w wr p A cap l AF AT AZ cF cT cZ lo hi F T Z bx gF dF gT dT BZ dZ z lf hf Af FR G T') (hb : Below wr.heap.size wr w') : ShL w w' p A cap l AF AT AZ cF cT cZ lo hi F T Z bx gF dF gT dT BZ dZ z lf hf Af FR G T' :=
  ⟨h.g.below hb, h.x.kept hb, h.s.below hb, h.fr.within (within_of hb) (.inr (Nat.zero_le _)), h.oz.within (within_of hb) (.inr (Nat.zero_le _))⟩
theorem ShL.setT {w wr : World} {p : Int} {A : Option Addr} {cap : Nat} {l : List (Int × Int)} {AF AT AZ : Option Addr} {cF cT cZ lo hi : Nat} {F T Z : List Int} {bx gF dF gT dT : Nat} {BZ : Option Addr} {dZ : Nat} {z : Nat × Nat} {lf hf : Nat} {Af : Option Addr} {FR G T' : List Int} (h : ShL w wr p A cap l AF AT AZ cF cT cZ lo hi F T Z bx gF dF gT dT BZ dZ z lf hf Af FR G T') (h1 : w.heap.size + 3 ≤ gT) (h2 : hi ≤ gT) (h3 : hf ≤ gT) (h4 : gT ≠ bx) (h5 : gT < z.1 ∨ z.2 ≤ gT) (i : Nat) (v : Int) : ShL w (wr.setCell ⟨gT, i, none⟩ (.int .i64 v)) p A cap l AF AT AZ cF cT cZ lo hi F T Z bx gF dF gT dT BZ dZ z lf hf Af FR G (T'.set i v) := by
  have hw := within_set wr gT i (.int .i64 v)
  exact ⟨h.g.within hw h1 h2, h.x.within hw (by omega), h.s.setT i v, h.fr.within hw (by omega), h.oz.within hw (by omega)⟩

set_option maxHeartbeats 4000000 in
set_option maxRecDepth 100000 in
theorem shift_c (P : Nat) (l : List (Int × Int)) (A : Option Addr) (cap : Nat) (AF AT AZ : Option Addr) (cF cT cZ lo hi : Nat) (F T Z : List Int) (a u : Int) (q : List (Int × Nat)) (TF FR : List Int) (Af : Option Addr) (cf lf hf : Nat) (w : World) (hl : BarsAt w w.heap.size A l) (h : Peb3 w lo hi AF AT AZ F T Z) (hn : l.length ≤ 24) (hFP : F.length = P) (hP : 1 ≤ P ∧ P ≤ 8) (hTZ : T.length = Z.length) (hZ24 : Z.length ≤ 24)
    (hZ : ∀ i, i < Z.length → 0 ≤ Z.getD i 0 ∧ Z.getD i 0 < (l.length : Int)) (hq : TurnI P (plE l Z) T a q TF u T) (hfr : IntsIn w lf hf Af FR) (hFR : FR.length = P) (hfq : ∀ x ∈ q, x.1 ≠ a → FR.getD x.1.toNat 0 = (x.2 : Int)) (ha : 0 ≤ a ∧ a < (P : Int)) (hu : 0 ≤ u ∧ u < (P : Int)) (hua : u ≠ a) (hFu : 0 ≤ F.getD u.toNat 0 ∧ F.getD u.toNat 0 ≤ 3) (hFa : 0 ≤ F.getD a.toNat 0 ∧ F.getD a.toNat 0 ≤ 3) :
    Calls Try.prog 134 #[.agg #[.int .i64 (P : Int), .slice A l.length cap], pebV AF F.length cF AT T.length cT AZ Z.length cZ, .slice Af FR.length cf, .int .i64 a, .int .i64 u] w (PebR w (movF F a u) TF Z) := by
  obtain ⟨an, rfl⟩ : ∃ an : Nat, a = (an : Int) := ⟨a.toNat, by omega⟩
  obtain ⟨un, rfl⟩ : ∃ un : Nat, u = (un : Int) := ⟨u.toNat, by omega⟩
  rw [Int.toNat_natCast] at hFu hFa
  subst hFP
  have hT0 : 0 < T.length := by
    obtain ⟨i, _, hi, _⟩ := hq.next hua
    rw [plE_len] at hi
    omega
  have hT24 : T.length ≤ 24 := by omega
  have HTZ := Lib.hid hTZ
  have HFL := Lib.hid hFR
  clear hTZ hFR
  have hhi : hi ≤ w.heap.size := h.f.1
  have hhf : hf ≤ w.heap.size := hfr.1
  have HI0 := Lib.hid (GtI.start w (F.length : Int) A cap l AF AT AZ cF cT cZ lo hi F T Z hl h)
  have HFR0 := Lib.hid (hfr.within (within_of HI0.out.bel) (.inr (Nat.zero_le _)))
  have HQ := Lib.hid hq
  have HZ := Lib.hid hZ
  have HFQ := Lib.hid hfq
  have HE := Lib.hid (fun i hi => plE_get l Z i hi)
  have HEL := Lib.hid (plE_len l Z)
  generalize plE l Z = E at *
  obtain ⟨g0, g1, g2, _, _, _⟩ := HI0.out.pb.cells
  clear hl h hfr hq hZ hfq
  go_enter Try.func134, Try.ntmps134
  have hsz3 : (((w.alloc (.cells #[.int .i64 (F.length : Int), .slice A l.length cap] 35)).alloc (.cells #[.slice AF F.length cF, .slice AT T.length cT, .slice AZ Z.length cZ] 30)).alloc (.cells #[.slice none 0 0, .slice none 0 0, .slice none 0 0] 30)).heap.size = w.heap.size + 3 := by simp
  go_wp2_with (go_at_call 73; refine (copyPeb_c AF AT AZ cF cT cZ lo hi F T Z _ HI0.out.src (by omega) (by omega) (by omega)).mono ?_; rintro e w4 ⟨BF, dF, BT, dT, BZ, dZ, rfl, ho, hb⟩; have hb5 := new_below w4 (.cells #[.slice BF F.length dF, .slice BT T.length dT, .slice BZ Z.length dZ] 30); have HI5 := Lib.hid ((HI0.out.below hb).below hb5); have HX5 := Lib.hid (cel3_new w4 (.slice BF F.length dF) (.slice BT T.length dT) (.slice BZ Z.length dZ) 30); have HFR5 := Lib.hid ((HFR0.out.within (within_of hb) (.inr (Nat.zero_le _))).within (within_of hb5) (.inr (Nat.zero_le _))); obtain ⟨f, t, z, hof, y1, y2, y3⟩ := ho.ownF; have HO5 := Lib.hid (hof.below hb5); have hh4 := hof.hi; clear hof; have hlo := hb.size; rw [hsz3] at hlo y1 y2 y3; obtain ⟨x2, x3, x4, _, _, _⟩ := HX5.out.cells; clear ho hb hb5 g0 g1 g2)
  clear x2 x3 x4
  have HIS := Lib.hid hsz3
  clear hsz3
  generalize hw5 : (w4.alloc (.cells #[.slice BF F.length dF, .slice BT T.length dT, .slice BZ Z.length dZ] 30)) = w5 at *
  have hs5 : w4.heap.size < w5.heap.size := by rw [← hw5]; simp
  clear hw5
  generalize w4.heap.size = bx at *
  obtain ⟨gF, gT, rfl, rfl, bF, bT, hst⟩ := HO5.out.open_ (by omega) hT0
  have HOZ := Lib.hid HO5.out.2.2
  obtain ⟨hc1, hf1⟩ := hst.cellF un (by omega)
  obtain ⟨d, hd⟩ : ∃ d, d = F.getD un 0 := ⟨_, rfl⟩
  obtain ⟨e, he⟩ : ∃ e, e = F.getD an 0 := ⟨_, rfl⟩
  have hne : an ≠ un := by omega
  have hst1 := hst.setF un (d - 1)
  have HEE := Lib.hid he
  rw [← hd] at hc1 hFu
  rw [← he] at hFa
  have HMV := Lib.hid (show (F.set un (d - 1)).set an (e + 1) = movF F (an : Int) (un : Int) by unfold movF; rw [Int.toNat_natCast, Int.toNat_natCast, hd, he])
  clear hd he
  have hw1 := within_set w5 gF un (.int .i64 (d - 1))
  have hdr : Below (w5.setCell ⟨gF, un, none⟩ (.int .i64 (d - 1))).heap.size (w5.setCell ⟨gF, un, none⟩ (.int .i64 (d - 1))) (w5.setCell ⟨gF, un, none⟩ (.int .i64 (d - 1))).drew := (Below.refl _ _).drew
  obtain ⟨x0, x1, x2, _, _, _⟩ := HX5.out.cells
  have HI6 := Lib.hid ((HI5.out.within hw1 (by omega) (by omega)).below hdr)
  have HX6 := Lib.hid ((HX5.out.within hw1 (by omega)).kept hdr)
  have HST6 := Lib.hid (hst1.below hdr)
  have HFR6 := Lib.hid ((HFR5.out.within hw1 (by omega)).within (within_of hdr) (.inr (Nat.zero_le _)))
  have HOZ6 := Lib.hid ((HOZ.out.1.within hw1 (by have := HOZ.out.2; unfold Dis at this; omega)).within (within_of hdr) (.inr (Nat.zero_le _)))
  have HZR := Lib.hid HOZ.out.2
  have hs6 := Nat.le_trans hw1.size hdr.size
  clear hst hst1 hw1 hdr HOZ
  have huF : (un : Int) < (F.length : Int) := hu.2
  have haF : (an : Int) < (F.length : Int) := ha.2
  go_region
  go_wp2_with fail
  clear x0 x1 x2 hc1 hf1
  generalize (w5.setCell ⟨gF, un, none⟩ (.int .i64 (d - 1))).drew = w6 at *
  obtain ⟨x0, x1, x2, _, _, _⟩ := HX6.out.cells
  obtain ⟨hc2, hf2⟩ := HST6.out.cellF an (by rw [List.length_set]; omega)
  rw [set_getD_ne _ _ _ _ _ hne, ← HEE.out] at hc2
  have hw2 := within_set w6 gF an (.int .i64 (e + 1))
  have hdr2 : Below (w6.setCell ⟨gF, an, none⟩ (.int .i64 (e + 1))).heap.size (w6.setCell ⟨gF, an, none⟩ (.int .i64 (e + 1))) (w6.setCell ⟨gF, an, none⟩ (.int .i64 (e + 1))).drew := (Below.refl _ _).drew
  have hst7 := (HST6.out.setF an (e + 1)).below hdr2
  rw [HMV.out] at hst7
  have HS7 := Lib.hid (show ShL w (w6.setCell ⟨gF, an, none⟩ (.int .i64 (e + 1))).drew (F.length : Int) A cap l AF AT AZ cF cT cZ lo hi F T Z bx gF dF gT dT BZ dZ z lf hf Af FR (movF F (an : Int) (un : Int)) T from ⟨(HI6.out.within hw2 (by omega) (by omega)).below hdr2, (HX6.out.within hw2 (by omega)).kept hdr2, hst7, (HFR6.out.within hw2 (by omega)).within (within_of hdr2) (.inr (Nat.zero_le _)), (HOZ6.out.within hw2 (by have := HZR.out; unfold Dis at this; omega)).within (within_of hdr2) (.inr (Nat.zero_le _))⟩)
  have hs7 := Nat.le_trans hw2.size hdr2.size
  clear hst7 hw2 hdr2 HI6 HX6 HST6 HFR6 HOZ6 HMV HEE
  go_region
  go_wp2_with fail
  clear x0 x1 x2 hc2 hf2
  generalize (w6.setCell ⟨gF, an, none⟩ (.int .i64 (e + 1))).drew = w7 at *
  go_loopw [12] (fun v wr => ∃ (t : Int) (T' : List Int), v = .int .i64 t ∧ TurnI F.length E T (an : Int) q TF t T' ∧ w5.heap.size ≤ wr.heap.size ∧ ShL w wr (F.length : Int) A cap l AF AT AZ cF cT cZ lo hi F T Z bx gF dF gT dT BZ dZ z lf hf Af FR (movF F (an : Int) (un : Int)) T') (fun v _ => posQ q (intOf v))
  case atStart => exact ⟨un, T, rfl, HQ.out, by omega, HS7.out⟩
  case round =>
    obtain ⟨t, T', rfl, ht, hsz, hs⟩ := hrel
    have HS := Lib.hid hs
    obtain ⟨x0, x1, x2, _, _, _⟩ := hs.x.cells
    clear hs HS7
    by_cases c : t = (an : Int)
    · subst c
      have HTF := Lib.hid ht.done
      have hlen := ht.len
      clear ht
      have e1 : ((an : Int) != (an : Int)) = false := by simp
      have r3 := ret3 HS.out.g.rb (.slice (some ⟨gF, 0, none⟩) F.length dF) (.slice (some ⟨gT, 0, none⟩) T.length dT) (.slice BZ Z.length dZ)
      obtain ⟨_, _, _, f0, f1, f2⟩ := HS.out.g.rb.cells
      obtain ⟨s0, s1, s2, _⟩ := r3.1.cells
      have HW := Lib.hid r3.2
      clear r3
      go_wp2_with fail
      refine bodyPost_ret (v := pebV (some ⟨gF, 0, none⟩) F.length dF (some ⟨gT, 0, none⟩) T.length dT BZ Z.length dZ) ?_ rfl ?_
      · simp [results, Try.results134, go_sem, s0, s1, s2]
      · have hd := HZR.out
        unfold Dis at hd
        have ho := HS.out.s.ownF bF bT (by omega) (by omega) HS.out.oz hd.1 hd.2.1 hd.2.2
        have hw := HW.out.size
        have hTF : TF.length = T.length := by rw [← HTF.out, hlen, HEL.out, HTZ.out]
        rw [HTF.out] at ho
        exact ⟨_, _, _, _, _, _, by rw [movF_len, hTF], (ho.within HW.out (by omega) (by omega) (by omega)).own3R (by omega) (by omega) (by omega) (Nat.le_refl _), within_on HS.out.g.bel HW.out HS.out.g.bel.size (.inl (by omega))⟩
    · have e1 : (t != (an : Int)) = true := by simpa using c
      obtain ⟨i, hi1, hi2, hi3, hi4, hend, hor, hi5, hi6⟩ := ht.next c
      have HX := Lib.hid hi5
      have HM := Lib.hid hi6
      have hEi := HE.out i (by have := HEL.out; omega)
      have hbar := ht.ends.bar i hi2
      have hfi := HFQ.out (t, i) hi1 c
      have hiZ : i < Z.length := by have := HEL.out; omega
      have hlen := ht.len
      clear ht hi1 hi4 hi5 hi6 c
      obtain ⟨tn, rfl⟩ : ∃ tn : Nat, t = (tn : Int) := ⟨t.toNat, by omega⟩
      simp only [Int.toNat_natCast] at hfi
      obtain ⟨fb, fo, rfl, hfc⟩ := row_at HS.out.fr (by have := HFL.out; omega)
      have hfn := hfc tn (by have := HFL.out; omega)
      rw [hfi] at hfn
      obtain ⟨zb, zo, rfl, hzc⟩ := row_at HS.out.g.src.z (by omega)
      have hz := hzc i hiZ
      have hzr := HZ.out i hiZ
      obtain ⟨n, hnz⟩ : ∃ n : Nat, Z.getD i 0 = (n : Int) := ⟨(Z.getD i 0).toNat, by omega⟩
      rw [hnz] at hz hzr hEi
      rw [Int.toNat_natCast] at hEi
      obtain ⟨b, off, rfl, hbB, hbc⟩ := HS.out.g.bars.at (by omega)
      have hx1 := (hbc n (by omega)).1
      have hx2 := (hbc n (by omega)).2
      rw [← hEi] at hx1 hx2
      obtain ⟨v, hv⟩ : ∃ v, oth (E.getD i (0, 0)) (tn : Int) = v := ⟨_, rfl⟩
      obtain ⟨x, hxd⟩ : ∃ x, E.getD i (0, 0) = x := ⟨_, rfl⟩
      rw [hv] at HX HM hor
      rw [hxd] at hx1 hx2 hbar hend hv
      clear hEi hxd hzc hbc hfc hnz
      obtain ⟨x1', x2'⟩ := x
      simp only at hx1 hx2 hbar
      have HV := Lib.hid hv
      clear hv hend
      have htF : (tn : Int) < (FR.length : Int) := by have := HFL.out; omega
      have hiZi : (i : Int) < (Z.length : Int) := by omega
      have hnl : (n : Int) < (l.length : Int) := by omega
      have hiT : (i : Int) < (T.length : Int) := by have := HTZ.out; omega
      obtain ⟨_, gx0, gx1⟩ := HS.out.g.gb
      obtain ⟨p0, p1, p2, _, _, _⟩ := HS.out.g.pb.cells
      have HKK := Lib.hid (show (fun W' => W'.cell? ⟨w.heap.size, 1, none⟩ = some (.slice (some ⟨b, off, none⟩) l.length cap) ∧ W'.cell? ⟨w.heap.size + 1, 2, none⟩ = some (.slice (some ⟨zb, zo, none⟩) Z.length cZ) ∧ W'.cell? ⟨zb, zo + i, none⟩ = some (.int .i64 (n : Int)) ∧ W'.cell? ⟨b, off + n * 2, none⟩ = some (.int .i64 x1') ∧ W'.cell? ⟨b, off + n * 2 + 1, none⟩ = some (.int .i64 x2')) wr from ⟨gx1, p2, hz, hx1, hx2⟩)
      have HSD := Lib.hid (HS.out.below (Below.refl _ _).drew)
      go_wp2_with fail
      clear gx0 gx1 p0 p1 p2 x0 x1 x2
      go_region_held3 (fun W' => W'.cell? ⟨w.heap.size, 1, none⟩ = some (.slice (some ⟨b, off, none⟩) l.length cap) ∧ W'.cell? ⟨w.heap.size + 1, 2, none⟩ = some (.slice (some ⟨zb, zo, none⟩) Z.length cZ) ∧ W'.cell? ⟨zb, zo + i, none⟩ = some (.int .i64 (n : Int)) ∧ W'.cell? ⟨b, off + n * 2, none⟩ = some (.int .i64 x1') ∧ W'.cell? ⟨b, off + n * 2 + 1, none⟩ = some (.int .i64 x2'))
        (first | exact HKK.out | exact HK5.out | fail)
        (first | (go_at_call 133; refine (other_c (x1', x2') (tn : Int) _ (by omega) (by omega) (by omega)).mono ?_; rintro e w8 ⟨rfl, hb⟩; rw [HV.out]; have HS8 := Lib.hid (HSD.out.below hb); have hsz8 := hb.size; have HK5 := Lib.hid (show (fun W' => W'.cell? ⟨w.heap.size, 1, none⟩ = some (.slice (some ⟨b, off, none⟩) l.length cap) ∧ W'.cell? ⟨w.heap.size + 1, 2, none⟩ = some (.slice (some ⟨zb, zo, none⟩) Z.length cZ) ∧ W'.cell? ⟨zb, zo + i, none⟩ = some (.int .i64 (n : Int)) ∧ W'.cell? ⟨b, off + n * 2, none⟩ = some (.int .i64 x1') ∧ W'.cell? ⟨b, off + n * 2 + 1, none⟩ = some (.int .i64 x2')) w8 from ⟨HS8.out.g.gb.2.2, HS8.out.g.pb.cells.2.2.1, (hb.cell (p := ⟨zb, zo + i, none⟩) (World.block_lt_of_cell? _ _ HKK.out.2.2.1)).trans HKK.out.2.2.1, (hb.cell (p := ⟨b, off + n * 2, none⟩) (World.block_lt_of_cell? _ _ HKK.out.2.2.2.1)).trans HKK.out.2.2.2.1, (hb.cell (p := ⟨b, off + n * 2 + 1, none⟩) (World.block_lt_of_cell? _ _ HKK.out.2.2.2.2)).trans HKK.out.2.2.2.2⟩); clear hb))
      obtain ⟨y0, y1', y2', _, _, _⟩ := HS8.out.x.cells
      obtain ⟨hct, hft⟩ := HS8.out.s.cellT i (by omega)
      have hd := HZR.out
      unfold Dis at hd
      have HN := Lib.hid (HS8.out.setT (by omega) (by omega) (by omega) (by omega) (by omega) i (tn : Int))
      go_wp2_with fail
      go_roundw
      case rel => exact ⟨v, _, rfl, HX.out, by simpa using (by have : wr.drew.heap.size = wr.heap.size := rfl; omega), HN.out⟩
      case measure => exact HM.out
end Go.Proofs.Ytgmcibcjplncaaa
/- What impl.turnPath does: a path is turned round in the row of tails. No condition. -/
namespace Go.Proofs.Ytgmcibcjplncaaa
open Go.RowKit

set_option maxHeartbeats 2000000 in
set_option maxRecDepth 100000 in
theorem turnPath_c (P : Nat) (E : List (Int × Int)) (F T Z TF : List Int) (a u : Int) (q : List (Int × Nat)) (rb B gF cF gT cT cZ z1 z2 : Nat) (AZ : Option Addr) (w : World) (hst : St3 w B gF cF gT cT AZ cZ z1 z2 F T Z) (hn : TurnI P E T a q TF u T) (hP : P ≤ 8)
    (hrb : ∀ x ∈ q, x.1 ≠ a → w.cell? ⟨rb, x.1.toNat, none⟩ = some (.pointer (some ⟨gT, x.2, none⟩))) (hne : rb ≠ gT) (hlt : rb < w.heap.size) :
    Calls Try.prog 135 #[.pointer (some ⟨rb, 0, none⟩), .int .i64 a, .int .i64 u] w fun e w' => e = .returned (.tuple #[]) ∧ St3 w' B gF cF gT cT AZ cZ z1 z2 F TF Z ∧ Within gT (gT + 1) w w' := by
  have HST := Lib.hid hst
  have HN := Lib.hid hn
  have HRB := Lib.hid hrb
  clear hst hn hrb
  go_enter Try.func135, Try.ntmps135
  go_wp2_with fail
  go_loopw [6] (fun v wr => ∃ (t : Int) (T' : List Int), v = .int .i64 t ∧ TurnI P E T a q TF t T' ∧ St3 wr B gF cF gT cT AZ cZ z1 z2 F T' Z ∧ Within gT (gT + 1) w wr) (fun v _ => posQ q (intOf v))
  case atStart => exact ⟨u, T, rfl, HN.out, HST.out, Within.refl _ _ _⟩
  case round =>
    obtain ⟨t, T', rfl, ht, hs, hw⟩ := hrel
    have HW := Lib.hid hw
    have HS := Lib.hid hs
    clear hs hw
    by_cases c : t = a
    · subst c
      obtain rfl := ht.done
      clear ht
      have e1 : (t != t) = false := by simp
      go_wp2_with fail
      go_end0
      exact ⟨rfl, HS.out, HW.out⟩
    · have e1 : (t != a) = true := by simpa using c
      obtain ⟨i, hi1, hi2, hi3, hi4, _, _, hi5, hi6⟩ := ht.next c
      have HX := Lib.hid hi5
      have HM := Lib.hid hi6
      have hlen := ht.len
      obtain ⟨hc1, hf1⟩ := HS.out.cellT i (by omega)
      have hr := (World.cell?_of_block (a := ⟨rb, t.toNat, none⟩) (HW.out.block rb hlt (by omega))).trans (HRB.out (t, i) hi1 c)
      have HS2 := Lib.hid (HS.out.setT i t)
      have HW2 := Lib.hid (HW.out.trans (within_set wr gT i (.int .i64 t)))
      rw [hi4] at hc1
      obtain ⟨v, hv⟩ : ∃ v, oth (E.getD i (0, 0)) t = v := ⟨_, rfl⟩
      rw [hv] at hc1 HX HM
      clear hi1 hi4 hi5 hi6 ht c hv
      obtain ⟨n, rfl⟩ : ∃ n : Nat, t = (n : Int) := ⟨t.toNat, by omega⟩
      rw [Int.toNat_natCast] at hr
      have hn8 : (n : Int) < 8 := by omega
      have hn8' : n < 8 := by omega
      go_wp2_with fail
      go_roundw
      case rel => exact ⟨v, _, rfl, HX.out, HS2.out, HW2.out⟩
      case measure => exact HM.out
end Go.Proofs.Ytgmcibcjplncaaa
/- What IsRange answers, the specification's and the program's. No condition. -/
namespace Go.Proofs.Ytgmcibcjplncaaa
open Go.RowKit

set_option maxRecDepth 100000 in
theorem implRange (k c : Int) (w : World) :
    Calls Try.prog 82 #[.int .i64 k, .int .i64 c] w fun e w' => e = .returned (.bool (rangeB k c)) ∧ w = w' := by
  by_cases h1 : 1 ≤ k
  · by_cases h2 : k ≤ 3
    · by_cases h3 : 0 ≤ c
      · by_cases h4 : c ≤ 2 * k - 1
        all_goals
          have HR := Lib.hid (show rangeB k c = decide (c ≤ 2 * k - 1) by simp [rangeB, h1, h2, h3])
          rw [show decide (c ≤ 2 * k - 1) = _ from by first | exact decide_eq_true h4 | exact decide_eq_false h4] at HR
          go_enter Try.func82, Try.ntmps82
          go_wp2
          go_ret
          exact ⟨by rw [HR.out]; try simp [*], rfl⟩
      · have HR := Lib.hid (show rangeB k c = false by simp [rangeB, h3])
        go_enter Try.func82, Try.ntmps82
        go_wp2
        go_ret
        exact ⟨by rw [HR.out]; try simp [*], rfl⟩
    · have HR := Lib.hid (show rangeB k c = false by simp [rangeB, h2])
      go_enter Try.func82, Try.ntmps82
      go_wp2
      go_ret
      exact ⟨by rw [HR.out]; try simp [*], rfl⟩
  · have HR := Lib.hid (show rangeB k c = false by simp [rangeB, h1])
    go_enter Try.func82, Try.ntmps82
    go_wp2
    go_ret
    exact ⟨by rw [HR.out]; try simp [*], rfl⟩

set_option maxRecDepth 100000 in
theorem specRange (k c : Int) (w : World) :
    Calls Try.prog 81 #[.int .i64 k, .int .i64 c] w fun e w' => e = .returned (.bool (rangeB k c)) ∧ w = w' := by
  by_cases h1 : 1 ≤ k
  · by_cases h2 : k ≤ 3
    · by_cases h3 : 0 ≤ c
      · by_cases h4 : c < 2 * k
        all_goals
          have HR := Lib.hid (show rangeB k c = decide (c < 2 * k) by simp [rangeB, h1, h2, h3]; omega)
          rw [show decide (c < 2 * k) = _ from by first | exact decide_eq_true h4 | exact decide_eq_false h4] at HR
          go_enter Try.func81, Try.ntmps81
          go_wp2
          go_ret
          exact ⟨by rw [HR.out]; try simp [*], rfl⟩
      · have HR := Lib.hid (show rangeB k c = false by simp [rangeB, h3])
        go_enter Try.func81, Try.ntmps81
        go_wp2
        go_ret
        exact ⟨by rw [HR.out]; try simp [*], rfl⟩
    · have HR := Lib.hid (show rangeB k c = false by simp [rangeB, h2])
      go_enter Try.func81, Try.ntmps81
      go_wp2
      go_ret
      exact ⟨by rw [HR.out]; try simp [*], rfl⟩
  · have HR := Lib.hid (show rangeB k c = false by simp [rangeB, h1])
    go_enter Try.func81, Try.ntmps81
    go_wp2
    go_ret
    exact ⟨by rw [HR.out]; try simp [*], rfl⟩

end Go.Proofs.Ytgmcibcjplncaaa
/- What spec.NewPebbles answers. No condition. -/
namespace Go.Proofs.Ytgmcibcjplncaaa
open Go.RowKit

/-- An own row of no elements that is kept over steps of the world: what it is, and where. -/
structure Own0 (W : World) (base g : Nat) : Prop where
  row : W.ownsRow base 3 1 (.slice (some ⟨g, 0, none⟩) 0 0) 0 []
theorem Own0.within {W W' : World} {base g lo hi : Nat} (h : Own0 W base g) (hw : Within lo hi W W') (hd : g < lo ∨ hi ≤ g) : Own0 W' base g := by
  rcases h.row.2 with ⟨e, _⟩ | ⟨g', cap, cur, e, _, hh, _⟩
  · cases e
  · cases e
    exact ⟨own_block h.row (hw.block g (Array.getElem?_eq_some_iff.1 hh).1 hd)⟩
theorem Cel3.grown {W W' : World} {b : Nat} {T : TypeId} {v0 v1 v2 : Value} {g : Option Nat} (h : Cel3 W b T v0 v1 v2) (hg : W.grownBy W' g) (hne : some b ≠ g) : Cel3 W' b T v0 v1 v2 := (hg.block b h.lt (fun e => hne e)).trans h
/-- A state under the making: its free pebbles up to j. -/
structure NewS (w wr : World) (p k : Int) (gv : Value) (j : Nat) (v u1 u2 : Value) : Prop where
  row : wr.ownsRow w.heap.size 3 1 v j (intCells (List.replicate j k))
  at_ : ∀ a, v.ownBlock = some a → w.heap.size + 1 < a ∧ a ≠ w.heap.size + 1 + 1 + 1 + 1 + 1
  st : Cel3 wr (w.heap.size + 1 + 1 + 1 + 1 + 1) 30 v u1 u2
  ret : Cel3 wr (w.heap.size + 1) 30 (.slice none 0 0) (.slice none 0 0) (.slice none 0 0)
  box : Box wr w.heap.size p gv
  bel : Below w.heap.size w wr
theorem NewS.alloc {w wr : World} {p k : Int} {gv : Value} {j : Nat} {v u1 u2 : Value} (h : NewS w wr p k gv j v u1 u2) (o : Obj) : NewS w (wr.alloc o) p k gv j v u1 u2 :=
  ⟨h.row.alloc _, h.at_, h.st.kept (new_below wr o), h.ret.kept (new_below wr o), h.box.kept (new_below wr o), below_on h.bel (new_below wr o) h.bel.size⟩
theorem NewS.push {w wr w' : World} {p k : Int} {gv : Value} {j : Nat} {v v' u1 u2 : Value} (h : NewS w wr p k gv j v u1 u2) (ho : w'.ownsRow w.heap.size 3 1 v' (j + 1) (intCells (List.replicate j k) ++ [.int .i64 k])) (hg : wr.grownBy w' v.ownBlock)
    (hat : v'.ownBlock = v.ownBlock ∨ v'.ownBlock = some (wr.heap.size + 1)) : Cel3 w' (w.heap.size + 1 + 1 + 1 + 1 + 1) 30 v u1 u2 ∧ NewS w (w'.setCell ⟨w.heap.size + 1 + 1 + 1 + 1 + 1, 0, none⟩ v') p k gv (j + 1) v' u1 u2 := by
  obtain ⟨h1, h2, h3, h4, h5, h6⟩ := h
  have n5 : some (w.heap.size + 1 + 1 + 1 + 1 + 1) ≠ v.ownBlock := fun e => (h2 _ e.symm).2 rfl
  have c5 := h3.grown hg n5
  have l5 := h3.lt
  have hat' : ∀ a, v'.ownBlock = some a → w.heap.size + 1 < a ∧ a ≠ w.heap.size + 1 + 1 + 1 + 1 + 1 := fun a e => by
    rcases hat with hat | hat
    · exact h2 a (hat ▸ e)
    · rw [hat] at e
      cases e
      omega
  have hs := within_set w' (w.heap.size + 1 + 1 + 1 + 1 + 1) 0 v'
  refine ⟨c5, ?_, hat', c5.set0 v', ?_, ?_, ?_⟩
  · have hr : intCells (List.replicate (j + 1) k) = intCells (List.replicate j k) ++ [.int .i64 k] := by simp [intCells, List.replicate_succ']
    rw [hr]
    rcases ho.2 with ⟨e, e0⟩ | ⟨g, cap', cur, e, _, hh, _⟩
    · omega
    · subst e
      exact own_block ho (hs.block g (Array.getElem?_eq_some_iff.1 hh).1 (by have := (hat' g rfl).2; omega))
  · exact (h4.grown hg fun e => by have := (h2 _ e.symm).1; omega).within hs (by omega)
  · have hb := h5.1
    refine Box.within (W := w') ⟨Nat.lt_of_lt_of_le hb hg.size, ?_, ?_⟩ hs (by omega)
    · exact (World.cell?_of_block (hg.block w.heap.size hb fun e => by have := (h2 _ e.symm).1; omega)).trans h5.2.1
    · exact (World.cell?_of_block (a := ⟨w.heap.size, 1, none⟩) (hg.block w.heap.size hb fun e => by have := (h2 _ e.symm).1; omega)).trans h5.2.2
  · exact (h6.grown hg (Nat.le_trans h6.size (Nat.le_refl _)) fun g hgg => (h1.lt g hgg).1).setCell (p := ⟨w.heap.size + 1 + 1 + 1 + 1 + 1, 0, none⟩) (by simp only []; omega) _
theorem NewS.row2 {w wr : World} {p k : Int} {gv : Value} {j : Nat} {A : Option Addr} {c : Nat} {u1 u2 : Value} (h : NewS w wr p k gv j (.slice A j c) u1 u2) : OwnInts wr (w.heap.size + 1 + 1) wr.heap.size A c (List.replicate j k) := by
  refine ⟨Nat.le_refl _, ?_⟩
  rcases h.row.2 with ⟨_, e⟩ | ⟨g, cap, cur, e, h1, hh, h3⟩
  · subst e
    exact .inl rfl
  · cases e
    have := (h.at_ g rfl).1
    exact .inr ⟨g, rfl, by omega, (Array.getElem?_eq_some_iff.1 hh).1, by rw [List.length_replicate]; exact ⟨h.row.1, .inr ⟨g, c, cur, rfl, by omega, hh, h3⟩⟩⟩

set_option maxHeartbeats 4000000 in
set_option maxRecDepth 100000 in
theorem specNewP (p k : Int) (l : List (Int × Int)) (A : Option Addr) (cap : Nat) (w : World) (hl : BarsAt w w.heap.size A l) (hn : l.length ≤ 1048576) :
    Calls Try.prog 53 #[.agg #[.int .i64 p, .slice A l.length cap], .int .i64 k] w (PebOB w (newF p k l) [] [] (newB p k l)) := by
  have HISG : ∀ W : World, BarsAt W W.heap.size A l → Calls Try.prog 86 #[.agg #[.int .i64 p, .slice A l.length cap]] W fun e w' => e = .returned (.bool (isGB p l)) ∧ Below W.heap.size W w' := fun W h => specIsGraph' p l A cap W h hn
  by_cases hbad : isGB p l = false ∨ k < 1 ∨ 3 < k
  · have HR := Lib.hid (new_no hbad)
    rcases hg : isGB p l with _ | _
    · skip
      rw [hg] at HISG
      clear hbad
      have W0 := Lib.hid (Below.refl w.heap.size w)
      have HB_0 := Lib.hid (bars_in hl)
      clear hl
      have Z1 := Lib.hid (within_alloc w (.cells #[.int .i64 p, (.slice A l.length cap)] 35)).size
      have W1 := Lib.hid (within_on W0.out (within_alloc w (.cells #[.int .i64 p, (.slice A l.length cap)] 35)) W0.out.size (.inr (Nat.le_refl _)))
      have HB_1 := Lib.hid (HB_0.out.within (within_alloc w (.cells #[.int .i64 p, (.slice A l.length cap)] 35)) (by omega))
      have Y1 := Lib.hid (show (w.alloc (.cells #[.int .i64 p, (.slice A l.length cap)] 35)).heap.size = w.heap.size + 1 by simp)
      have hnew := box_new w p (.slice A l.length cap) 35
      have BX_1 := Lib.hid hnew
      clear hnew
      have Z2 := Lib.hid (within_alloc (w.alloc (.cells #[.int .i64 p, (.slice A l.length cap)] 35)) (.cells #[(.slice none 0 0), (.slice none 0 0), (.slice none 0 0)] 30)).size
      have W2 := Lib.hid (within_on W1.out (within_alloc (w.alloc (.cells #[.int .i64 p, (.slice A l.length cap)] 35)) (.cells #[(.slice none 0 0), (.slice none 0 0), (.slice none 0 0)] 30)) W1.out.size (.inr (Nat.le_refl _)))
      have HB_2 := Lib.hid (HB_1.out.within (within_alloc (w.alloc (.cells #[.int .i64 p, (.slice A l.length cap)] 35)) (.cells #[(.slice none 0 0), (.slice none 0 0), (.slice none 0 0)] 30)) (by omega))
      have BX_2 := Lib.hid (BX_1.out.within (within_alloc (w.alloc (.cells #[.int .i64 p, (.slice A l.length cap)] 35)) (.cells #[(.slice none 0 0), (.slice none 0 0), (.slice none 0 0)] 30)) (by omega))
      have Y2 := Lib.hid (show ((w.alloc (.cells #[.int .i64 p, (.slice A l.length cap)] 35)).alloc (.cells #[(.slice none 0 0), (.slice none 0 0), (.slice none 0 0)] 30)).heap.size = (w.alloc (.cells #[.int .i64 p, (.slice A l.length cap)] 35)).heap.size + 1 by simp)
      have hnew := cel3_new (w.alloc (.cells #[.int .i64 p, (.slice A l.length cap)] 35)) (.slice none 0 0) (.slice none 0 0) (.slice none 0 0) 30
      rw [show (w.alloc (.cells #[.int .i64 p, (.slice A l.length cap)] 35)).heap.size = w.heap.size + 1 by simp] at hnew
      have GR_2 := Lib.hid hnew
      clear hnew
      have Z3 := Lib.hid (within_alloc ((w.alloc (.cells #[.int .i64 p, (.slice A l.length cap)] 35)).alloc (.cells #[(.slice none 0 0), (.slice none 0 0), (.slice none 0 0)] 30)) (.cells #[] 3)).size
      have W3 := Lib.hid (within_on W2.out (within_alloc ((w.alloc (.cells #[.int .i64 p, (.slice A l.length cap)] 35)).alloc (.cells #[(.slice none 0 0), (.slice none 0 0), (.slice none 0 0)] 30)) (.cells #[] 3)) W2.out.size (.inr (Nat.le_refl _)))
      have HB_3 := Lib.hid (HB_2.out.within (within_alloc ((w.alloc (.cells #[.int .i64 p, (.slice A l.length cap)] 35)).alloc (.cells #[(.slice none 0 0), (.slice none 0 0), (.slice none 0 0)] 30)) (.cells #[] 3)) (by omega))
      have BX_3 := Lib.hid (BX_2.out.within (within_alloc ((w.alloc (.cells #[.int .i64 p, (.slice A l.length cap)] 35)).alloc (.cells #[(.slice none 0 0), (.slice none 0 0), (.slice none 0 0)] 30)) (.cells #[] 3)) (by omega))
      have GR_3 := Lib.hid (GR_2.out.within (within_alloc ((w.alloc (.cells #[.int .i64 p, (.slice A l.length cap)] 35)).alloc (.cells #[(.slice none 0 0), (.slice none 0 0), (.slice none 0 0)] 30)) (.cells #[] 3)) (by omega))
      have Y3 := Lib.hid (show (((w.alloc (.cells #[.int .i64 p, (.slice A l.length cap)] 35)).alloc (.cells #[(.slice none 0 0), (.slice none 0 0), (.slice none 0 0)] 30)).alloc (.cells #[] 3)).heap.size = ((w.alloc (.cells #[.int .i64 p, (.slice A l.length cap)] 35)).alloc (.cells #[(.slice none 0 0), (.slice none 0 0), (.slice none 0 0)] 30)).heap.size + 1 by simp)
      have Z4 := Lib.hid (within_alloc (((w.alloc (.cells #[.int .i64 p, (.slice A l.length cap)] 35)).alloc (.cells #[(.slice none 0 0), (.slice none 0 0), (.slice none 0 0)] 30)).alloc (.cells #[] 3)) (.cells #[] 3)).size
      have W4 := Lib.hid (within_on W3.out (within_alloc (((w.alloc (.cells #[.int .i64 p, (.slice A l.length cap)] 35)).alloc (.cells #[(.slice none 0 0), (.slice none 0 0), (.slice none 0 0)] 30)).alloc (.cells #[] 3)) (.cells #[] 3)) W3.out.size (.inr (Nat.le_refl _)))
      have HB_4 := Lib.hid (HB_3.out.within (within_alloc (((w.alloc (.cells #[.int .i64 p, (.slice A l.length cap)] 35)).alloc (.cells #[(.slice none 0 0), (.slice none 0 0), (.slice none 0 0)] 30)).alloc (.cells #[] 3)) (.cells #[] 3)) (by omega))
      have BX_4 := Lib.hid (BX_3.out.within (within_alloc (((w.alloc (.cells #[.int .i64 p, (.slice A l.length cap)] 35)).alloc (.cells #[(.slice none 0 0), (.slice none 0 0), (.slice none 0 0)] 30)).alloc (.cells #[] 3)) (.cells #[] 3)) (by omega))
      have GR_4 := Lib.hid (GR_3.out.within (within_alloc (((w.alloc (.cells #[.int .i64 p, (.slice A l.length cap)] 35)).alloc (.cells #[(.slice none 0 0), (.slice none 0 0), (.slice none 0 0)] 30)).alloc (.cells #[] 3)) (.cells #[] 3)) (by omega))
      have Y4 := Lib.hid (show ((((w.alloc (.cells #[.int .i64 p, (.slice A l.length cap)] 35)).alloc (.cells #[(.slice none 0 0), (.slice none 0 0), (.slice none 0 0)] 30)).alloc (.cells #[] 3)).alloc (.cells #[] 3)).heap.size = (((w.alloc (.cells #[.int .i64 p, (.slice A l.length cap)] 35)).alloc (.cells #[(.slice none 0 0), (.slice none 0 0), (.slice none 0 0)] 30)).alloc (.cells #[] 3)).heap.size + 1 by simp)
      have Z5 := Lib.hid (within_alloc ((((w.alloc (.cells #[.int .i64 p, (.slice A l.length cap)] 35)).alloc (.cells #[(.slice none 0 0), (.slice none 0 0), (.slice none 0 0)] 30)).alloc (.cells #[] 3)).alloc (.cells #[] 3)) (.cells #[] 3)).size
      have W5 := Lib.hid (within_on W4.out (within_alloc ((((w.alloc (.cells #[.int .i64 p, (.slice A l.length cap)] 35)).alloc (.cells #[(.slice none 0 0), (.slice none 0 0), (.slice none 0 0)] 30)).alloc (.cells #[] 3)).alloc (.cells #[] 3)) (.cells #[] 3)) W4.out.size (.inr (Nat.le_refl _)))
      have HB_5 := Lib.hid (HB_4.out.within (within_alloc ((((w.alloc (.cells #[.int .i64 p, (.slice A l.length cap)] 35)).alloc (.cells #[(.slice none 0 0), (.slice none 0 0), (.slice none 0 0)] 30)).alloc (.cells #[] 3)).alloc (.cells #[] 3)) (.cells #[] 3)) (by omega))
      have BX_5 := Lib.hid (BX_4.out.within (within_alloc ((((w.alloc (.cells #[.int .i64 p, (.slice A l.length cap)] 35)).alloc (.cells #[(.slice none 0 0), (.slice none 0 0), (.slice none 0 0)] 30)).alloc (.cells #[] 3)).alloc (.cells #[] 3)) (.cells #[] 3)) (by omega))
      have GR_5 := Lib.hid (GR_4.out.within (within_alloc ((((w.alloc (.cells #[.int .i64 p, (.slice A l.length cap)] 35)).alloc (.cells #[(.slice none 0 0), (.slice none 0 0), (.slice none 0 0)] 30)).alloc (.cells #[] 3)).alloc (.cells #[] 3)) (.cells #[] 3)) (by omega))
      have Y5 := Lib.hid (show (((((w.alloc (.cells #[.int .i64 p, (.slice A l.length cap)] 35)).alloc (.cells #[(.slice none 0 0), (.slice none 0 0), (.slice none 0 0)] 30)).alloc (.cells #[] 3)).alloc (.cells #[] 3)).alloc (.cells #[] 3)).heap.size = ((((w.alloc (.cells #[.int .i64 p, (.slice A l.length cap)] 35)).alloc (.cells #[(.slice none 0 0), (.slice none 0 0), (.slice none 0 0)] 30)).alloc (.cells #[] 3)).alloc (.cells #[] 3)).heap.size + 1 by simp)
      have Z6 := Lib.hid (within_alloc (((((w.alloc (.cells #[.int .i64 p, (.slice A l.length cap)] 35)).alloc (.cells #[(.slice none 0 0), (.slice none 0 0), (.slice none 0 0)] 30)).alloc (.cells #[] 3)).alloc (.cells #[] 3)).alloc (.cells #[] 3)) (.cells #[(.slice (some ⟨w.heap.size + 1 + 1, 0, none⟩) 0 0), (.slice (some ⟨w.heap.size + 1 + 1 + 1, 0, none⟩) 0 0), (.slice (some ⟨w.heap.size + 1 + 1 + 1 + 1, 0, none⟩) 0 0)] 30)).size
      have W6 := Lib.hid (within_on W5.out (within_alloc (((((w.alloc (.cells #[.int .i64 p, (.slice A l.length cap)] 35)).alloc (.cells #[(.slice none 0 0), (.slice none 0 0), (.slice none 0 0)] 30)).alloc (.cells #[] 3)).alloc (.cells #[] 3)).alloc (.cells #[] 3)) (.cells #[(.slice (some ⟨w.heap.size + 1 + 1, 0, none⟩) 0 0), (.slice (some ⟨w.heap.size + 1 + 1 + 1, 0, none⟩) 0 0), (.slice (some ⟨w.heap.size + 1 + 1 + 1 + 1, 0, none⟩) 0 0)] 30)) W5.out.size (.inr (Nat.le_refl _)))
      have HB_6 := Lib.hid (HB_5.out.within (within_alloc (((((w.alloc (.cells #[.int .i64 p, (.slice A l.length cap)] 35)).alloc (.cells #[(.slice none 0 0), (.slice none 0 0), (.slice none 0 0)] 30)).alloc (.cells #[] 3)).alloc (.cells #[] 3)).alloc (.cells #[] 3)) (.cells #[(.slice (some ⟨w.heap.size + 1 + 1, 0, none⟩) 0 0), (.slice (some ⟨w.heap.size + 1 + 1 + 1, 0, none⟩) 0 0), (.slice (some ⟨w.heap.size + 1 + 1 + 1 + 1, 0, none⟩) 0 0)] 30)) (by omega))
      have BX_6 := Lib.hid (BX_5.out.within (within_alloc (((((w.alloc (.cells #[.int .i64 p, (.slice A l.length cap)] 35)).alloc (.cells #[(.slice none 0 0), (.slice none 0 0), (.slice none 0 0)] 30)).alloc (.cells #[] 3)).alloc (.cells #[] 3)).alloc (.cells #[] 3)) (.cells #[(.slice (some ⟨w.heap.size + 1 + 1, 0, none⟩) 0 0), (.slice (some ⟨w.heap.size + 1 + 1 + 1, 0, none⟩) 0 0), (.slice (some ⟨w.heap.size + 1 + 1 + 1 + 1, 0, none⟩) 0 0)] 30)) (by omega))
      have GR_6 := Lib.hid (GR_5.out.within (within_alloc (((((w.alloc (.cells #[.int .i64 p, (.slice A l.length cap)] 35)).alloc (.cells #[(.slice none 0 0), (.slice none 0 0), (.slice none 0 0)] 30)).alloc (.cells #[] 3)).alloc (.cells #[] 3)).alloc (.cells #[] 3)) (.cells #[(.slice (some ⟨w.heap.size + 1 + 1, 0, none⟩) 0 0), (.slice (some ⟨w.heap.size + 1 + 1 + 1, 0, none⟩) 0 0), (.slice (some ⟨w.heap.size + 1 + 1 + 1 + 1, 0, none⟩) 0 0)] 30)) (by omega))
      have Y6 := Lib.hid (show ((((((w.alloc (.cells #[.int .i64 p, (.slice A l.length cap)] 35)).alloc (.cells #[(.slice none 0 0), (.slice none 0 0), (.slice none 0 0)] 30)).alloc (.cells #[] 3)).alloc (.cells #[] 3)).alloc (.cells #[] 3)).alloc (.cells #[(.slice (some ⟨w.heap.size + 1 + 1, 0, none⟩) 0 0), (.slice (some ⟨w.heap.size + 1 + 1 + 1, 0, none⟩) 0 0), (.slice (some ⟨w.heap.size + 1 + 1 + 1 + 1, 0, none⟩) 0 0)] 30)).heap.size = (((((w.alloc (.cells #[.int .i64 p, (.slice A l.length cap)] 35)).alloc (.cells #[(.slice none 0 0), (.slice none 0 0), (.slice none 0 0)] 30)).alloc (.cells #[] 3)).alloc (.cells #[] 3)).alloc (.cells #[] 3)).heap.size + 1 by simp)
      have hnew := cel3_new (((((w.alloc (.cells #[.int .i64 p, (.slice A l.length cap)] 35)).alloc (.cells #[(.slice none 0 0), (.slice none 0 0), (.slice none 0 0)] 30)).alloc (.cells #[] 3)).alloc (.cells #[] 3)).alloc (.cells #[] 3)) (.slice (some ⟨w.heap.size + 1 + 1, 0, none⟩) 0 0) (.slice (some ⟨w.heap.size + 1 + 1 + 1, 0, none⟩) 0 0) (.slice (some ⟨w.heap.size + 1 + 1 + 1 + 1, 0, none⟩) 0 0) 30
      rw [show (((((w.alloc (.cells #[.int .i64 p, (.slice A l.length cap)] 35)).alloc (.cells #[(.slice none 0 0), (.slice none 0 0), (.slice none 0 0)] 30)).alloc (.cells #[] 3)).alloc (.cells #[] 3)).alloc (.cells #[] 3)).heap.size = w.heap.size + 1 + 1 + 1 + 1 + 1 by simp] at hnew
      have GP_6 := Lib.hid hnew
      clear hnew
      go_enter Try.func53, Try.ntmps53
      obtain ⟨g0_0, g0_1, g0_2⟩ := BX_6.out
      go_wp2_with fail
      clear g0_0 g0_1 g0_2
      generalize ((((((w.alloc (.cells #[.int .i64 p, (.slice A l.length cap)] 35)).alloc (.cells #[(.slice none 0 0), (.slice none 0 0), (.slice none 0 0)] 30)).alloc (.cells #[] 3)).alloc (.cells #[] 3)).alloc (.cells #[] 3)).alloc (.cells #[(.slice (some ⟨w.heap.size + 1 + 1, 0, none⟩) 0 0), (.slice (some ⟨w.heap.size + 1 + 1 + 1, 0, none⟩) 0 0), (.slice (some ⟨w.heap.size + 1 + 1 + 1 + 1, 0, none⟩) 0 0)] 30)) = w6 at *
      generalize (((((w.alloc (.cells #[.int .i64 p, (.slice A l.length cap)] 35)).alloc (.cells #[(.slice none 0 0), (.slice none 0 0), (.slice none 0 0)] 30)).alloc (.cells #[] 3)).alloc (.cells #[] 3)).alloc (.cells #[] 3)) = w5 at *
      generalize ((((w.alloc (.cells #[.int .i64 p, (.slice A l.length cap)] 35)).alloc (.cells #[(.slice none 0 0), (.slice none 0 0), (.slice none 0 0)] 30)).alloc (.cells #[] 3)).alloc (.cells #[] 3)) = w4 at *
      generalize (((w.alloc (.cells #[.int .i64 p, (.slice A l.length cap)] 35)).alloc (.cells #[(.slice none 0 0), (.slice none 0 0), (.slice none 0 0)] 30)).alloc (.cells #[] 3)) = w3 at *
      generalize ((w.alloc (.cells #[.int .i64 p, (.slice A l.length cap)] 35)).alloc (.cells #[(.slice none 0 0), (.slice none 0 0), (.slice none 0 0)] 30)) = w2 at *
      generalize (w.alloc (.cells #[.int .i64 p, (.slice A l.length cap)] 35)) = w1 at *
      refine (HISG _ HB_6.out.at).mono ?_
      rintro e w7 ⟨rfl, hb⟩
      have Z7 := Lib.hid (within_of hb).size
      have W7 := Lib.hid (within_on W6.out (within_of hb) W6.out.size (.inr (Nat.le_refl _)))
      have HB_7 := Lib.hid (HB_6.out.within (within_of hb) (by omega))
      have BX_7 := Lib.hid (BX_6.out.within (within_of hb) (by omega))
      have GR_7 := Lib.hid (GR_6.out.within (within_of hb) (by omega))
      have GP_7 := Lib.hid (GP_6.out.within (within_of hb) (by omega))
      clear hb HISG
      obtain ⟨g1_0, g1_1, g1_2, g1_3, g1_4, g1_5⟩ := GR_7.out.cells
      have Z8 := Lib.hid ((ret3 GR_7.out (.slice none 0 0) (.slice none 0 0) (.slice none 0 0)).2).size
      have W8 := Lib.hid (within_on W7.out ((ret3 GR_7.out (.slice none 0 0) (.slice none 0 0) (.slice none 0 0)).2) W7.out.size (by have := Z1.out; have := Z2.out; have := Z3.out; have := Z4.out; have := Z5.out; have := Z6.out; have := Z7.out; have := Z8.out; have := Y1.out; have := Y2.out; have := Y3.out; have := Y4.out; have := Y5.out; have := Y6.out; omega))
      have HB_8 := Lib.hid (HB_7.out.within ((ret3 GR_7.out (.slice none 0 0) (.slice none 0 0) (.slice none 0 0)).2) (by have := Z1.out; have := Z2.out; have := Z3.out; have := Z4.out; have := Z5.out; have := Z6.out; have := Z7.out; have := Z8.out; have := Y1.out; have := Y2.out; have := Y3.out; have := Y4.out; have := Y5.out; have := Y6.out; omega))
      have BX_8 := Lib.hid (BX_7.out.within ((ret3 GR_7.out (.slice none 0 0) (.slice none 0 0) (.slice none 0 0)).2) (by have := Z1.out; have := Z2.out; have := Z3.out; have := Z4.out; have := Z5.out; have := Z6.out; have := Z7.out; have := Z8.out; have := Y1.out; have := Y2.out; have := Y3.out; have := Y4.out; have := Y5.out; have := Y6.out; omega))
      have GR_8 := Lib.hid ((ret3 GR_7.out (.slice none 0 0) (.slice none 0 0) (.slice none 0 0)).1)
      have GP_8 := Lib.hid (GP_7.out.within ((ret3 GR_7.out (.slice none 0 0) (.slice none 0 0) (.slice none 0 0)).2) (by have := Z1.out; have := Z2.out; have := Z3.out; have := Z4.out; have := Z5.out; have := Z6.out; have := Z7.out; have := Z8.out; have := Y1.out; have := Y2.out; have := Y3.out; have := Y4.out; have := Y5.out; have := Y6.out; omega))
      obtain ⟨g2_0, g2_1, g2_2, g2_3, g2_4, g2_5⟩ := GR_8.out.cells
      go_wp2_with fail
      generalize (((w7.setCell ⟨w.heap.size + 1, 0, none⟩ (.slice none 0 0)).setCell ⟨w.heap.size + 1, 1, none⟩ (.slice none 0 0)).setCell ⟨w.heap.size + 1, 2, none⟩ (.slice none 0 0)) = w8 at *
      refine bodyPost_ret (v := .tuple #[pebV none 0 0 none 0 0 none 0 0, .bool false]) ?_ rfl ?_
      · simp [results, Try.results53, go_sem, g2_0, g2_1, g2_2]
      · rw [HR.out.1, HR.out.2]
        exact ⟨none, 0, none, 0, none, 0, rfl, own3_nil _ _ W8.out.size _ _ _ _ _ _, W8.out⟩
    · skip
      rw [hg] at HISG
      have hk : k < 1 ∨ 3 < k := by simp only [hg] at hbad; simp at hbad; omega
      clear hbad
      have W0 := Lib.hid (Below.refl w.heap.size w)
      have HB_0 := Lib.hid (bars_in hl)
      clear hl
      have Z1 := Lib.hid (within_alloc w (.cells #[.int .i64 p, (.slice A l.length cap)] 35)).size
      have W1 := Lib.hid (within_on W0.out (within_alloc w (.cells #[.int .i64 p, (.slice A l.length cap)] 35)) W0.out.size (.inr (Nat.le_refl _)))
      have HB_1 := Lib.hid (HB_0.out.within (within_alloc w (.cells #[.int .i64 p, (.slice A l.length cap)] 35)) (by omega))
      have Y1 := Lib.hid (show (w.alloc (.cells #[.int .i64 p, (.slice A l.length cap)] 35)).heap.size = w.heap.size + 1 by simp)
      have hnew := box_new w p (.slice A l.length cap) 35
      have BX_1 := Lib.hid hnew
      clear hnew
      have Z2 := Lib.hid (within_alloc (w.alloc (.cells #[.int .i64 p, (.slice A l.length cap)] 35)) (.cells #[(.slice none 0 0), (.slice none 0 0), (.slice none 0 0)] 30)).size
      have W2 := Lib.hid (within_on W1.out (within_alloc (w.alloc (.cells #[.int .i64 p, (.slice A l.length cap)] 35)) (.cells #[(.slice none 0 0), (.slice none 0 0), (.slice none 0 0)] 30)) W1.out.size (.inr (Nat.le_refl _)))
      have HB_2 := Lib.hid (HB_1.out.within (within_alloc (w.alloc (.cells #[.int .i64 p, (.slice A l.length cap)] 35)) (.cells #[(.slice none 0 0), (.slice none 0 0), (.slice none 0 0)] 30)) (by omega))
      have BX_2 := Lib.hid (BX_1.out.within (within_alloc (w.alloc (.cells #[.int .i64 p, (.slice A l.length cap)] 35)) (.cells #[(.slice none 0 0), (.slice none 0 0), (.slice none 0 0)] 30)) (by omega))
      have Y2 := Lib.hid (show ((w.alloc (.cells #[.int .i64 p, (.slice A l.length cap)] 35)).alloc (.cells #[(.slice none 0 0), (.slice none 0 0), (.slice none 0 0)] 30)).heap.size = (w.alloc (.cells #[.int .i64 p, (.slice A l.length cap)] 35)).heap.size + 1 by simp)
      have hnew := cel3_new (w.alloc (.cells #[.int .i64 p, (.slice A l.length cap)] 35)) (.slice none 0 0) (.slice none 0 0) (.slice none 0 0) 30
      rw [show (w.alloc (.cells #[.int .i64 p, (.slice A l.length cap)] 35)).heap.size = w.heap.size + 1 by simp] at hnew
      have GR_2 := Lib.hid hnew
      clear hnew
      have Z3 := Lib.hid (within_alloc ((w.alloc (.cells #[.int .i64 p, (.slice A l.length cap)] 35)).alloc (.cells #[(.slice none 0 0), (.slice none 0 0), (.slice none 0 0)] 30)) (.cells #[] 3)).size
      have W3 := Lib.hid (within_on W2.out (within_alloc ((w.alloc (.cells #[.int .i64 p, (.slice A l.length cap)] 35)).alloc (.cells #[(.slice none 0 0), (.slice none 0 0), (.slice none 0 0)] 30)) (.cells #[] 3)) W2.out.size (.inr (Nat.le_refl _)))
      have HB_3 := Lib.hid (HB_2.out.within (within_alloc ((w.alloc (.cells #[.int .i64 p, (.slice A l.length cap)] 35)).alloc (.cells #[(.slice none 0 0), (.slice none 0 0), (.slice none 0 0)] 30)) (.cells #[] 3)) (by omega))
      have BX_3 := Lib.hid (BX_2.out.within (within_alloc ((w.alloc (.cells #[.int .i64 p, (.slice A l.length cap)] 35)).alloc (.cells #[(.slice none 0 0), (.slice none 0 0), (.slice none 0 0)] 30)) (.cells #[] 3)) (by omega))
      have GR_3 := Lib.hid (GR_2.out.within (within_alloc ((w.alloc (.cells #[.int .i64 p, (.slice A l.length cap)] 35)).alloc (.cells #[(.slice none 0 0), (.slice none 0 0), (.slice none 0 0)] 30)) (.cells #[] 3)) (by omega))
      have Y3 := Lib.hid (show (((w.alloc (.cells #[.int .i64 p, (.slice A l.length cap)] 35)).alloc (.cells #[(.slice none 0 0), (.slice none 0 0), (.slice none 0 0)] 30)).alloc (.cells #[] 3)).heap.size = ((w.alloc (.cells #[.int .i64 p, (.slice A l.length cap)] 35)).alloc (.cells #[(.slice none 0 0), (.slice none 0 0), (.slice none 0 0)] 30)).heap.size + 1 by simp)
      have Z4 := Lib.hid (within_alloc (((w.alloc (.cells #[.int .i64 p, (.slice A l.length cap)] 35)).alloc (.cells #[(.slice none 0 0), (.slice none 0 0), (.slice none 0 0)] 30)).alloc (.cells #[] 3)) (.cells #[] 3)).size
      have W4 := Lib.hid (within_on W3.out (within_alloc (((w.alloc (.cells #[.int .i64 p, (.slice A l.length cap)] 35)).alloc (.cells #[(.slice none 0 0), (.slice none 0 0), (.slice none 0 0)] 30)).alloc (.cells #[] 3)) (.cells #[] 3)) W3.out.size (.inr (Nat.le_refl _)))
      have HB_4 := Lib.hid (HB_3.out.within (within_alloc (((w.alloc (.cells #[.int .i64 p, (.slice A l.length cap)] 35)).alloc (.cells #[(.slice none 0 0), (.slice none 0 0), (.slice none 0 0)] 30)).alloc (.cells #[] 3)) (.cells #[] 3)) (by omega))
      have BX_4 := Lib.hid (BX_3.out.within (within_alloc (((w.alloc (.cells #[.int .i64 p, (.slice A l.length cap)] 35)).alloc (.cells #[(.slice none 0 0), (.slice none 0 0), (.slice none 0 0)] 30)).alloc (.cells #[] 3)) (.cells #[] 3)) (by omega))
      have GR_4 := Lib.hid (GR_3.out.within (within_alloc (((w.alloc (.cells #[.int .i64 p, (.slice A l.length cap)] 35)).alloc (.cells #[(.slice none 0 0), (.slice none 0 0), (.slice none 0 0)] 30)).alloc (.cells #[] 3)) (.cells #[] 3)) (by omega))
      have Y4 := Lib.hid (show ((((w.alloc (.cells #[.int .i64 p, (.slice A l.length cap)] 35)).alloc (.cells #[(.slice none 0 0), (.slice none 0 0), (.slice none 0 0)] 30)).alloc (.cells #[] 3)).alloc (.cells #[] 3)).heap.size = (((w.alloc (.cells #[.int .i64 p, (.slice A l.length cap)] 35)).alloc (.cells #[(.slice none 0 0), (.slice none 0 0), (.slice none 0 0)] 30)).alloc (.cells #[] 3)).heap.size + 1 by simp)
      have Z5 := Lib.hid (within_alloc ((((w.alloc (.cells #[.int .i64 p, (.slice A l.length cap)] 35)).alloc (.cells #[(.slice none 0 0), (.slice none 0 0), (.slice none 0 0)] 30)).alloc (.cells #[] 3)).alloc (.cells #[] 3)) (.cells #[] 3)).size
      have W5 := Lib.hid (within_on W4.out (within_alloc ((((w.alloc (.cells #[.int .i64 p, (.slice A l.length cap)] 35)).alloc (.cells #[(.slice none 0 0), (.slice none 0 0), (.slice none 0 0)] 30)).alloc (.cells #[] 3)).alloc (.cells #[] 3)) (.cells #[] 3)) W4.out.size (.inr (Nat.le_refl _)))
      have HB_5 := Lib.hid (HB_4.out.within (within_alloc ((((w.alloc (.cells #[.int .i64 p, (.slice A l.length cap)] 35)).alloc (.cells #[(.slice none 0 0), (.slice none 0 0), (.slice none 0 0)] 30)).alloc (.cells #[] 3)).alloc (.cells #[] 3)) (.cells #[] 3)) (by omega))
      have BX_5 := Lib.hid (BX_4.out.within (within_alloc ((((w.alloc (.cells #[.int .i64 p, (.slice A l.length cap)] 35)).alloc (.cells #[(.slice none 0 0), (.slice none 0 0), (.slice none 0 0)] 30)).alloc (.cells #[] 3)).alloc (.cells #[] 3)) (.cells #[] 3)) (by omega))
      have GR_5 := Lib.hid (GR_4.out.within (within_alloc ((((w.alloc (.cells #[.int .i64 p, (.slice A l.length cap)] 35)).alloc (.cells #[(.slice none 0 0), (.slice none 0 0), (.slice none 0 0)] 30)).alloc (.cells #[] 3)).alloc (.cells #[] 3)) (.cells #[] 3)) (by omega))
      have Y5 := Lib.hid (show (((((w.alloc (.cells #[.int .i64 p, (.slice A l.length cap)] 35)).alloc (.cells #[(.slice none 0 0), (.slice none 0 0), (.slice none 0 0)] 30)).alloc (.cells #[] 3)).alloc (.cells #[] 3)).alloc (.cells #[] 3)).heap.size = ((((w.alloc (.cells #[.int .i64 p, (.slice A l.length cap)] 35)).alloc (.cells #[(.slice none 0 0), (.slice none 0 0), (.slice none 0 0)] 30)).alloc (.cells #[] 3)).alloc (.cells #[] 3)).heap.size + 1 by simp)
      have Z6 := Lib.hid (within_alloc (((((w.alloc (.cells #[.int .i64 p, (.slice A l.length cap)] 35)).alloc (.cells #[(.slice none 0 0), (.slice none 0 0), (.slice none 0 0)] 30)).alloc (.cells #[] 3)).alloc (.cells #[] 3)).alloc (.cells #[] 3)) (.cells #[(.slice (some ⟨w.heap.size + 1 + 1, 0, none⟩) 0 0), (.slice (some ⟨w.heap.size + 1 + 1 + 1, 0, none⟩) 0 0), (.slice (some ⟨w.heap.size + 1 + 1 + 1 + 1, 0, none⟩) 0 0)] 30)).size
      have W6 := Lib.hid (within_on W5.out (within_alloc (((((w.alloc (.cells #[.int .i64 p, (.slice A l.length cap)] 35)).alloc (.cells #[(.slice none 0 0), (.slice none 0 0), (.slice none 0 0)] 30)).alloc (.cells #[] 3)).alloc (.cells #[] 3)).alloc (.cells #[] 3)) (.cells #[(.slice (some ⟨w.heap.size + 1 + 1, 0, none⟩) 0 0), (.slice (some ⟨w.heap.size + 1 + 1 + 1, 0, none⟩) 0 0), (.slice (some ⟨w.heap.size + 1 + 1 + 1 + 1, 0, none⟩) 0 0)] 30)) W5.out.size (.inr (Nat.le_refl _)))
      have HB_6 := Lib.hid (HB_5.out.within (within_alloc (((((w.alloc (.cells #[.int .i64 p, (.slice A l.length cap)] 35)).alloc (.cells #[(.slice none 0 0), (.slice none 0 0), (.slice none 0 0)] 30)).alloc (.cells #[] 3)).alloc (.cells #[] 3)).alloc (.cells #[] 3)) (.cells #[(.slice (some ⟨w.heap.size + 1 + 1, 0, none⟩) 0 0), (.slice (some ⟨w.heap.size + 1 + 1 + 1, 0, none⟩) 0 0), (.slice (some ⟨w.heap.size + 1 + 1 + 1 + 1, 0, none⟩) 0 0)] 30)) (by omega))
      have BX_6 := Lib.hid (BX_5.out.within (within_alloc (((((w.alloc (.cells #[.int .i64 p, (.slice A l.length cap)] 35)).alloc (.cells #[(.slice none 0 0), (.slice none 0 0), (.slice none 0 0)] 30)).alloc (.cells #[] 3)).alloc (.cells #[] 3)).alloc (.cells #[] 3)) (.cells #[(.slice (some ⟨w.heap.size + 1 + 1, 0, none⟩) 0 0), (.slice (some ⟨w.heap.size + 1 + 1 + 1, 0, none⟩) 0 0), (.slice (some ⟨w.heap.size + 1 + 1 + 1 + 1, 0, none⟩) 0 0)] 30)) (by omega))
      have GR_6 := Lib.hid (GR_5.out.within (within_alloc (((((w.alloc (.cells #[.int .i64 p, (.slice A l.length cap)] 35)).alloc (.cells #[(.slice none 0 0), (.slice none 0 0), (.slice none 0 0)] 30)).alloc (.cells #[] 3)).alloc (.cells #[] 3)).alloc (.cells #[] 3)) (.cells #[(.slice (some ⟨w.heap.size + 1 + 1, 0, none⟩) 0 0), (.slice (some ⟨w.heap.size + 1 + 1 + 1, 0, none⟩) 0 0), (.slice (some ⟨w.heap.size + 1 + 1 + 1 + 1, 0, none⟩) 0 0)] 30)) (by omega))
      have Y6 := Lib.hid (show ((((((w.alloc (.cells #[.int .i64 p, (.slice A l.length cap)] 35)).alloc (.cells #[(.slice none 0 0), (.slice none 0 0), (.slice none 0 0)] 30)).alloc (.cells #[] 3)).alloc (.cells #[] 3)).alloc (.cells #[] 3)).alloc (.cells #[(.slice (some ⟨w.heap.size + 1 + 1, 0, none⟩) 0 0), (.slice (some ⟨w.heap.size + 1 + 1 + 1, 0, none⟩) 0 0), (.slice (some ⟨w.heap.size + 1 + 1 + 1 + 1, 0, none⟩) 0 0)] 30)).heap.size = (((((w.alloc (.cells #[.int .i64 p, (.slice A l.length cap)] 35)).alloc (.cells #[(.slice none 0 0), (.slice none 0 0), (.slice none 0 0)] 30)).alloc (.cells #[] 3)).alloc (.cells #[] 3)).alloc (.cells #[] 3)).heap.size + 1 by simp)
      have hnew := cel3_new (((((w.alloc (.cells #[.int .i64 p, (.slice A l.length cap)] 35)).alloc (.cells #[(.slice none 0 0), (.slice none 0 0), (.slice none 0 0)] 30)).alloc (.cells #[] 3)).alloc (.cells #[] 3)).alloc (.cells #[] 3)) (.slice (some ⟨w.heap.size + 1 + 1, 0, none⟩) 0 0) (.slice (some ⟨w.heap.size + 1 + 1 + 1, 0, none⟩) 0 0) (.slice (some ⟨w.heap.size + 1 + 1 + 1 + 1, 0, none⟩) 0 0) 30
      rw [show (((((w.alloc (.cells #[.int .i64 p, (.slice A l.length cap)] 35)).alloc (.cells #[(.slice none 0 0), (.slice none 0 0), (.slice none 0 0)] 30)).alloc (.cells #[] 3)).alloc (.cells #[] 3)).alloc (.cells #[] 3)).heap.size = w.heap.size + 1 + 1 + 1 + 1 + 1 by simp] at hnew
      have GP_6 := Lib.hid hnew
      clear hnew
      go_enter Try.func53, Try.ntmps53
      obtain ⟨g0_0, g0_1, g0_2⟩ := BX_6.out
      go_wp2_with fail
      clear g0_0 g0_1 g0_2
      generalize ((((((w.alloc (.cells #[.int .i64 p, (.slice A l.length cap)] 35)).alloc (.cells #[(.slice none 0 0), (.slice none 0 0), (.slice none 0 0)] 30)).alloc (.cells #[] 3)).alloc (.cells #[] 3)).alloc (.cells #[] 3)).alloc (.cells #[(.slice (some ⟨w.heap.size + 1 + 1, 0, none⟩) 0 0), (.slice (some ⟨w.heap.size + 1 + 1 + 1, 0, none⟩) 0 0), (.slice (some ⟨w.heap.size + 1 + 1 + 1 + 1, 0, none⟩) 0 0)] 30)) = w6 at *
      generalize (((((w.alloc (.cells #[.int .i64 p, (.slice A l.length cap)] 35)).alloc (.cells #[(.slice none 0 0), (.slice none 0 0), (.slice none 0 0)] 30)).alloc (.cells #[] 3)).alloc (.cells #[] 3)).alloc (.cells #[] 3)) = w5 at *
      generalize ((((w.alloc (.cells #[.int .i64 p, (.slice A l.length cap)] 35)).alloc (.cells #[(.slice none 0 0), (.slice none 0 0), (.slice none 0 0)] 30)).alloc (.cells #[] 3)).alloc (.cells #[] 3)) = w4 at *
      generalize (((w.alloc (.cells #[.int .i64 p, (.slice A l.length cap)] 35)).alloc (.cells #[(.slice none 0 0), (.slice none 0 0), (.slice none 0 0)] 30)).alloc (.cells #[] 3)) = w3 at *
      generalize ((w.alloc (.cells #[.int .i64 p, (.slice A l.length cap)] 35)).alloc (.cells #[(.slice none 0 0), (.slice none 0 0), (.slice none 0 0)] 30)) = w2 at *
      generalize (w.alloc (.cells #[.int .i64 p, (.slice A l.length cap)] 35)) = w1 at *
      refine (HISG _ HB_6.out.at).mono ?_
      rintro e w7 ⟨rfl, hb⟩
      have Z7 := Lib.hid (within_of hb).size
      have W7 := Lib.hid (within_on W6.out (within_of hb) W6.out.size (.inr (Nat.le_refl _)))
      have HB_7 := Lib.hid (HB_6.out.within (within_of hb) (by omega))
      have BX_7 := Lib.hid (BX_6.out.within (within_of hb) (by omega))
      have GR_7 := Lib.hid (GR_6.out.within (within_of hb) (by omega))
      have GP_7 := Lib.hid (GP_6.out.within (within_of hb) (by omega))
      clear hb HISG
      go_wp2_with fail
      refine (l1In_no k 1 3 _ hk).mono ?_
      rintro e w9 ⟨rfl, rfl⟩
      obtain ⟨g1_0, g1_1, g1_2, g1_3, g1_4, g1_5⟩ := GR_7.out.cells
      have Z8 := Lib.hid ((ret3 GR_7.out (.slice none 0 0) (.slice none 0 0) (.slice none 0 0)).2).size
      have W8 := Lib.hid (within_on W7.out ((ret3 GR_7.out (.slice none 0 0) (.slice none 0 0) (.slice none 0 0)).2) W7.out.size (by have := Z1.out; have := Z2.out; have := Z3.out; have := Z4.out; have := Z5.out; have := Z6.out; have := Z7.out; have := Z8.out; have := Y1.out; have := Y2.out; have := Y3.out; have := Y4.out; have := Y5.out; have := Y6.out; omega))
      have HB_8 := Lib.hid (HB_7.out.within ((ret3 GR_7.out (.slice none 0 0) (.slice none 0 0) (.slice none 0 0)).2) (by have := Z1.out; have := Z2.out; have := Z3.out; have := Z4.out; have := Z5.out; have := Z6.out; have := Z7.out; have := Z8.out; have := Y1.out; have := Y2.out; have := Y3.out; have := Y4.out; have := Y5.out; have := Y6.out; omega))
      have BX_8 := Lib.hid (BX_7.out.within ((ret3 GR_7.out (.slice none 0 0) (.slice none 0 0) (.slice none 0 0)).2) (by have := Z1.out; have := Z2.out; have := Z3.out; have := Z4.out; have := Z5.out; have := Z6.out; have := Z7.out; have := Z8.out; have := Y1.out; have := Y2.out; have := Y3.out; have := Y4.out; have := Y5.out; have := Y6.out; omega))
      have GR_8 := Lib.hid ((ret3 GR_7.out (.slice none 0 0) (.slice none 0 0) (.slice none 0 0)).1)
      have GP_8 := Lib.hid (GP_7.out.within ((ret3 GR_7.out (.slice none 0 0) (.slice none 0 0) (.slice none 0 0)).2) (by have := Z1.out; have := Z2.out; have := Z3.out; have := Z4.out; have := Z5.out; have := Z6.out; have := Z7.out; have := Z8.out; have := Y1.out; have := Y2.out; have := Y3.out; have := Y4.out; have := Y5.out; have := Y6.out; omega))
      obtain ⟨g2_0, g2_1, g2_2, g2_3, g2_4, g2_5⟩ := GR_8.out.cells
      go_wp2_with fail
      generalize (((w7.setCell ⟨w.heap.size + 1, 0, none⟩ (.slice none 0 0)).setCell ⟨w.heap.size + 1, 1, none⟩ (.slice none 0 0)).setCell ⟨w.heap.size + 1, 2, none⟩ (.slice none 0 0)) = w8 at *
      refine bodyPost_ret (v := .tuple #[pebV none 0 0 none 0 0 none 0 0, .bool false]) ?_ rfl ?_
      · simp [results, Try.results53, go_sem, g2_0, g2_1, g2_2]
      · rw [HR.out.1, HR.out.2]
        exact ⟨none, 0, none, 0, none, 0, rfl, own3_nil _ _ W8.out.size _ _ _ _ _ _, W8.out⟩
  · skip
    have hg : isGB p l = true := by
      cases h : isGB p l with
      | true => rfl
      | false => exact absurd (.inl h) hbad
    have hG : IsG p l := Classical.byContradiction fun g => by rw [isGB_no g] at hg; cases hg
    obtain ⟨P, rfl⟩ : ∃ P : Nat, p = (P : Int) := ⟨p.toNat, by have := hG.1; omega⟩
    have hP : 1 ≤ P ∧ P ≤ 8 := by have := hG.1; omega
    have hk1 : ¬ k < 1 := by omega
    have hk2 : ¬ 3 < k := by omega
    have HR := Lib.hid (new_yes (l := l) hg (by omega : 1 ≤ k) (by omega))
    rw [hg] at HISG
    clear hbad hG hg
    have W0 := Lib.hid (Below.refl w.heap.size w)
    have HB_0 := Lib.hid (bars_in hl)
    clear hl
    have Z1 := Lib.hid (within_alloc w (.cells #[.int .i64 (P : Int), (.slice A l.length cap)] 35)).size
    have W1 := Lib.hid (within_on W0.out (within_alloc w (.cells #[.int .i64 (P : Int), (.slice A l.length cap)] 35)) W0.out.size (.inr (Nat.le_refl _)))
    have HB_1 := Lib.hid (HB_0.out.within (within_alloc w (.cells #[.int .i64 (P : Int), (.slice A l.length cap)] 35)) (by omega))
    have Y1 := Lib.hid (show (w.alloc (.cells #[.int .i64 (P : Int), (.slice A l.length cap)] 35)).heap.size = w.heap.size + 1 by simp)
    have hnew := box_new w (P : Int) (.slice A l.length cap) 35
    have BX_1 := Lib.hid hnew
    clear hnew
    have Z2 := Lib.hid (within_alloc (w.alloc (.cells #[.int .i64 (P : Int), (.slice A l.length cap)] 35)) (.cells #[(.slice none 0 0), (.slice none 0 0), (.slice none 0 0)] 30)).size
    have W2 := Lib.hid (within_on W1.out (within_alloc (w.alloc (.cells #[.int .i64 (P : Int), (.slice A l.length cap)] 35)) (.cells #[(.slice none 0 0), (.slice none 0 0), (.slice none 0 0)] 30)) W1.out.size (.inr (Nat.le_refl _)))
    have HB_2 := Lib.hid (HB_1.out.within (within_alloc (w.alloc (.cells #[.int .i64 (P : Int), (.slice A l.length cap)] 35)) (.cells #[(.slice none 0 0), (.slice none 0 0), (.slice none 0 0)] 30)) (by omega))
    have BX_2 := Lib.hid (BX_1.out.within (within_alloc (w.alloc (.cells #[.int .i64 (P : Int), (.slice A l.length cap)] 35)) (.cells #[(.slice none 0 0), (.slice none 0 0), (.slice none 0 0)] 30)) (by omega))
    have Y2 := Lib.hid (show ((w.alloc (.cells #[.int .i64 (P : Int), (.slice A l.length cap)] 35)).alloc (.cells #[(.slice none 0 0), (.slice none 0 0), (.slice none 0 0)] 30)).heap.size = (w.alloc (.cells #[.int .i64 (P : Int), (.slice A l.length cap)] 35)).heap.size + 1 by simp)
    have hnew := cel3_new (w.alloc (.cells #[.int .i64 (P : Int), (.slice A l.length cap)] 35)) (.slice none 0 0) (.slice none 0 0) (.slice none 0 0) 30
    rw [show (w.alloc (.cells #[.int .i64 (P : Int), (.slice A l.length cap)] 35)).heap.size = w.heap.size + 1 by simp] at hnew
    have GR_2 := Lib.hid hnew
    clear hnew
    have Z3 := Lib.hid (within_alloc ((w.alloc (.cells #[.int .i64 (P : Int), (.slice A l.length cap)] 35)).alloc (.cells #[(.slice none 0 0), (.slice none 0 0), (.slice none 0 0)] 30)) (.cells #[] 3)).size
    have W3 := Lib.hid (within_on W2.out (within_alloc ((w.alloc (.cells #[.int .i64 (P : Int), (.slice A l.length cap)] 35)).alloc (.cells #[(.slice none 0 0), (.slice none 0 0), (.slice none 0 0)] 30)) (.cells #[] 3)) W2.out.size (.inr (Nat.le_refl _)))
    have HB_3 := Lib.hid (HB_2.out.within (within_alloc ((w.alloc (.cells #[.int .i64 (P : Int), (.slice A l.length cap)] 35)).alloc (.cells #[(.slice none 0 0), (.slice none 0 0), (.slice none 0 0)] 30)) (.cells #[] 3)) (by omega))
    have BX_3 := Lib.hid (BX_2.out.within (within_alloc ((w.alloc (.cells #[.int .i64 (P : Int), (.slice A l.length cap)] 35)).alloc (.cells #[(.slice none 0 0), (.slice none 0 0), (.slice none 0 0)] 30)) (.cells #[] 3)) (by omega))
    have GR_3 := Lib.hid (GR_2.out.within (within_alloc ((w.alloc (.cells #[.int .i64 (P : Int), (.slice A l.length cap)] 35)).alloc (.cells #[(.slice none 0 0), (.slice none 0 0), (.slice none 0 0)] 30)) (.cells #[] 3)) (by omega))
    have Y3 := Lib.hid (show (((w.alloc (.cells #[.int .i64 (P : Int), (.slice A l.length cap)] 35)).alloc (.cells #[(.slice none 0 0), (.slice none 0 0), (.slice none 0 0)] 30)).alloc (.cells #[] 3)).heap.size = ((w.alloc (.cells #[.int .i64 (P : Int), (.slice A l.length cap)] 35)).alloc (.cells #[(.slice none 0 0), (.slice none 0 0), (.slice none 0 0)] 30)).heap.size + 1 by simp)
    have hown := World.ownsRow_made (base := w.heap.size) (e := 3) (size := 1) ((w.alloc (.cells #[.int .i64 (P : Int), (.slice A l.length cap)] 35)).alloc (.cells #[(.slice none 0 0), (.slice none 0 0), (.slice none 0 0)] 30)) #[] 0 (by simp; omega) (by unfold maxLen; omega) (by simp)
    rw [show ((w.alloc (.cells #[.int .i64 (P : Int), (.slice A l.length cap)] 35)).alloc (.cells #[(.slice none 0 0), (.slice none 0 0), (.slice none 0 0)] 30)).heap.size = w.heap.size + 1 + 1 by simp] at hown
    have OF_3 := Lib.hid (Own0.mk hown)
    clear hown
    have Z4 := Lib.hid (within_alloc (((w.alloc (.cells #[.int .i64 (P : Int), (.slice A l.length cap)] 35)).alloc (.cells #[(.slice none 0 0), (.slice none 0 0), (.slice none 0 0)] 30)).alloc (.cells #[] 3)) (.cells #[] 3)).size
    have W4 := Lib.hid (within_on W3.out (within_alloc (((w.alloc (.cells #[.int .i64 (P : Int), (.slice A l.length cap)] 35)).alloc (.cells #[(.slice none 0 0), (.slice none 0 0), (.slice none 0 0)] 30)).alloc (.cells #[] 3)) (.cells #[] 3)) W3.out.size (.inr (Nat.le_refl _)))
    have HB_4 := Lib.hid (HB_3.out.within (within_alloc (((w.alloc (.cells #[.int .i64 (P : Int), (.slice A l.length cap)] 35)).alloc (.cells #[(.slice none 0 0), (.slice none 0 0), (.slice none 0 0)] 30)).alloc (.cells #[] 3)) (.cells #[] 3)) (by omega))
    have BX_4 := Lib.hid (BX_3.out.within (within_alloc (((w.alloc (.cells #[.int .i64 (P : Int), (.slice A l.length cap)] 35)).alloc (.cells #[(.slice none 0 0), (.slice none 0 0), (.slice none 0 0)] 30)).alloc (.cells #[] 3)) (.cells #[] 3)) (by omega))
    have GR_4 := Lib.hid (GR_3.out.within (within_alloc (((w.alloc (.cells #[.int .i64 (P : Int), (.slice A l.length cap)] 35)).alloc (.cells #[(.slice none 0 0), (.slice none 0 0), (.slice none 0 0)] 30)).alloc (.cells #[] 3)) (.cells #[] 3)) (by omega))
    have OF_4 := Lib.hid (OF_3.out.within (within_alloc (((w.alloc (.cells #[.int .i64 (P : Int), (.slice A l.length cap)] 35)).alloc (.cells #[(.slice none 0 0), (.slice none 0 0), (.slice none 0 0)] 30)).alloc (.cells #[] 3)) (.cells #[] 3)) (by omega))
    have Y4 := Lib.hid (show ((((w.alloc (.cells #[.int .i64 (P : Int), (.slice A l.length cap)] 35)).alloc (.cells #[(.slice none 0 0), (.slice none 0 0), (.slice none 0 0)] 30)).alloc (.cells #[] 3)).alloc (.cells #[] 3)).heap.size = (((w.alloc (.cells #[.int .i64 (P : Int), (.slice A l.length cap)] 35)).alloc (.cells #[(.slice none 0 0), (.slice none 0 0), (.slice none 0 0)] 30)).alloc (.cells #[] 3)).heap.size + 1 by simp)
    have Z5 := Lib.hid (within_alloc ((((w.alloc (.cells #[.int .i64 (P : Int), (.slice A l.length cap)] 35)).alloc (.cells #[(.slice none 0 0), (.slice none 0 0), (.slice none 0 0)] 30)).alloc (.cells #[] 3)).alloc (.cells #[] 3)) (.cells #[] 3)).size
    have W5 := Lib.hid (within_on W4.out (within_alloc ((((w.alloc (.cells #[.int .i64 (P : Int), (.slice A l.length cap)] 35)).alloc (.cells #[(.slice none 0 0), (.slice none 0 0), (.slice none 0 0)] 30)).alloc (.cells #[] 3)).alloc (.cells #[] 3)) (.cells #[] 3)) W4.out.size (.inr (Nat.le_refl _)))
    have HB_5 := Lib.hid (HB_4.out.within (within_alloc ((((w.alloc (.cells #[.int .i64 (P : Int), (.slice A l.length cap)] 35)).alloc (.cells #[(.slice none 0 0), (.slice none 0 0), (.slice none 0 0)] 30)).alloc (.cells #[] 3)).alloc (.cells #[] 3)) (.cells #[] 3)) (by omega))
    have BX_5 := Lib.hid (BX_4.out.within (within_alloc ((((w.alloc (.cells #[.int .i64 (P : Int), (.slice A l.length cap)] 35)).alloc (.cells #[(.slice none 0 0), (.slice none 0 0), (.slice none 0 0)] 30)).alloc (.cells #[] 3)).alloc (.cells #[] 3)) (.cells #[] 3)) (by omega))
    have GR_5 := Lib.hid (GR_4.out.within (within_alloc ((((w.alloc (.cells #[.int .i64 (P : Int), (.slice A l.length cap)] 35)).alloc (.cells #[(.slice none 0 0), (.slice none 0 0), (.slice none 0 0)] 30)).alloc (.cells #[] 3)).alloc (.cells #[] 3)) (.cells #[] 3)) (by omega))
    have OF_5 := Lib.hid (OF_4.out.within (within_alloc ((((w.alloc (.cells #[.int .i64 (P : Int), (.slice A l.length cap)] 35)).alloc (.cells #[(.slice none 0 0), (.slice none 0 0), (.slice none 0 0)] 30)).alloc (.cells #[] 3)).alloc (.cells #[] 3)) (.cells #[] 3)) (by omega))
    have Y5 := Lib.hid (show (((((w.alloc (.cells #[.int .i64 (P : Int), (.slice A l.length cap)] 35)).alloc (.cells #[(.slice none 0 0), (.slice none 0 0), (.slice none 0 0)] 30)).alloc (.cells #[] 3)).alloc (.cells #[] 3)).alloc (.cells #[] 3)).heap.size = ((((w.alloc (.cells #[.int .i64 (P : Int), (.slice A l.length cap)] 35)).alloc (.cells #[(.slice none 0 0), (.slice none 0 0), (.slice none 0 0)] 30)).alloc (.cells #[] 3)).alloc (.cells #[] 3)).heap.size + 1 by simp)
    have Z6 := Lib.hid (within_alloc (((((w.alloc (.cells #[.int .i64 (P : Int), (.slice A l.length cap)] 35)).alloc (.cells #[(.slice none 0 0), (.slice none 0 0), (.slice none 0 0)] 30)).alloc (.cells #[] 3)).alloc (.cells #[] 3)).alloc (.cells #[] 3)) (.cells #[(.slice (some ⟨w.heap.size + 1 + 1, 0, none⟩) 0 0), (.slice (some ⟨w.heap.size + 1 + 1 + 1, 0, none⟩) 0 0), (.slice (some ⟨w.heap.size + 1 + 1 + 1 + 1, 0, none⟩) 0 0)] 30)).size
    have W6 := Lib.hid (within_on W5.out (within_alloc (((((w.alloc (.cells #[.int .i64 (P : Int), (.slice A l.length cap)] 35)).alloc (.cells #[(.slice none 0 0), (.slice none 0 0), (.slice none 0 0)] 30)).alloc (.cells #[] 3)).alloc (.cells #[] 3)).alloc (.cells #[] 3)) (.cells #[(.slice (some ⟨w.heap.size + 1 + 1, 0, none⟩) 0 0), (.slice (some ⟨w.heap.size + 1 + 1 + 1, 0, none⟩) 0 0), (.slice (some ⟨w.heap.size + 1 + 1 + 1 + 1, 0, none⟩) 0 0)] 30)) W5.out.size (.inr (Nat.le_refl _)))
    have HB_6 := Lib.hid (HB_5.out.within (within_alloc (((((w.alloc (.cells #[.int .i64 (P : Int), (.slice A l.length cap)] 35)).alloc (.cells #[(.slice none 0 0), (.slice none 0 0), (.slice none 0 0)] 30)).alloc (.cells #[] 3)).alloc (.cells #[] 3)).alloc (.cells #[] 3)) (.cells #[(.slice (some ⟨w.heap.size + 1 + 1, 0, none⟩) 0 0), (.slice (some ⟨w.heap.size + 1 + 1 + 1, 0, none⟩) 0 0), (.slice (some ⟨w.heap.size + 1 + 1 + 1 + 1, 0, none⟩) 0 0)] 30)) (by omega))
    have BX_6 := Lib.hid (BX_5.out.within (within_alloc (((((w.alloc (.cells #[.int .i64 (P : Int), (.slice A l.length cap)] 35)).alloc (.cells #[(.slice none 0 0), (.slice none 0 0), (.slice none 0 0)] 30)).alloc (.cells #[] 3)).alloc (.cells #[] 3)).alloc (.cells #[] 3)) (.cells #[(.slice (some ⟨w.heap.size + 1 + 1, 0, none⟩) 0 0), (.slice (some ⟨w.heap.size + 1 + 1 + 1, 0, none⟩) 0 0), (.slice (some ⟨w.heap.size + 1 + 1 + 1 + 1, 0, none⟩) 0 0)] 30)) (by omega))
    have GR_6 := Lib.hid (GR_5.out.within (within_alloc (((((w.alloc (.cells #[.int .i64 (P : Int), (.slice A l.length cap)] 35)).alloc (.cells #[(.slice none 0 0), (.slice none 0 0), (.slice none 0 0)] 30)).alloc (.cells #[] 3)).alloc (.cells #[] 3)).alloc (.cells #[] 3)) (.cells #[(.slice (some ⟨w.heap.size + 1 + 1, 0, none⟩) 0 0), (.slice (some ⟨w.heap.size + 1 + 1 + 1, 0, none⟩) 0 0), (.slice (some ⟨w.heap.size + 1 + 1 + 1 + 1, 0, none⟩) 0 0)] 30)) (by omega))
    have OF_6 := Lib.hid (OF_5.out.within (within_alloc (((((w.alloc (.cells #[.int .i64 (P : Int), (.slice A l.length cap)] 35)).alloc (.cells #[(.slice none 0 0), (.slice none 0 0), (.slice none 0 0)] 30)).alloc (.cells #[] 3)).alloc (.cells #[] 3)).alloc (.cells #[] 3)) (.cells #[(.slice (some ⟨w.heap.size + 1 + 1, 0, none⟩) 0 0), (.slice (some ⟨w.heap.size + 1 + 1 + 1, 0, none⟩) 0 0), (.slice (some ⟨w.heap.size + 1 + 1 + 1 + 1, 0, none⟩) 0 0)] 30)) (by omega))
    have Y6 := Lib.hid (show ((((((w.alloc (.cells #[.int .i64 (P : Int), (.slice A l.length cap)] 35)).alloc (.cells #[(.slice none 0 0), (.slice none 0 0), (.slice none 0 0)] 30)).alloc (.cells #[] 3)).alloc (.cells #[] 3)).alloc (.cells #[] 3)).alloc (.cells #[(.slice (some ⟨w.heap.size + 1 + 1, 0, none⟩) 0 0), (.slice (some ⟨w.heap.size + 1 + 1 + 1, 0, none⟩) 0 0), (.slice (some ⟨w.heap.size + 1 + 1 + 1 + 1, 0, none⟩) 0 0)] 30)).heap.size = (((((w.alloc (.cells #[.int .i64 (P : Int), (.slice A l.length cap)] 35)).alloc (.cells #[(.slice none 0 0), (.slice none 0 0), (.slice none 0 0)] 30)).alloc (.cells #[] 3)).alloc (.cells #[] 3)).alloc (.cells #[] 3)).heap.size + 1 by simp)
    have hnew := cel3_new (((((w.alloc (.cells #[.int .i64 (P : Int), (.slice A l.length cap)] 35)).alloc (.cells #[(.slice none 0 0), (.slice none 0 0), (.slice none 0 0)] 30)).alloc (.cells #[] 3)).alloc (.cells #[] 3)).alloc (.cells #[] 3)) (.slice (some ⟨w.heap.size + 1 + 1, 0, none⟩) 0 0) (.slice (some ⟨w.heap.size + 1 + 1 + 1, 0, none⟩) 0 0) (.slice (some ⟨w.heap.size + 1 + 1 + 1 + 1, 0, none⟩) 0 0) 30
    rw [show (((((w.alloc (.cells #[.int .i64 (P : Int), (.slice A l.length cap)] 35)).alloc (.cells #[(.slice none 0 0), (.slice none 0 0), (.slice none 0 0)] 30)).alloc (.cells #[] 3)).alloc (.cells #[] 3)).alloc (.cells #[] 3)).heap.size = w.heap.size + 1 + 1 + 1 + 1 + 1 by simp] at hnew
    have GP_6 := Lib.hid hnew
    clear hnew
    go_enter Try.func53, Try.ntmps53
    obtain ⟨g0_0, g0_1, g0_2⟩ := BX_6.out
    go_wp2_with fail
    clear g0_0 g0_1 g0_2
    generalize ((((((w.alloc (.cells #[.int .i64 (P : Int), (.slice A l.length cap)] 35)).alloc (.cells #[(.slice none 0 0), (.slice none 0 0), (.slice none 0 0)] 30)).alloc (.cells #[] 3)).alloc (.cells #[] 3)).alloc (.cells #[] 3)).alloc (.cells #[(.slice (some ⟨w.heap.size + 1 + 1, 0, none⟩) 0 0), (.slice (some ⟨w.heap.size + 1 + 1 + 1, 0, none⟩) 0 0), (.slice (some ⟨w.heap.size + 1 + 1 + 1 + 1, 0, none⟩) 0 0)] 30)) = w6 at *
    generalize (((((w.alloc (.cells #[.int .i64 (P : Int), (.slice A l.length cap)] 35)).alloc (.cells #[(.slice none 0 0), (.slice none 0 0), (.slice none 0 0)] 30)).alloc (.cells #[] 3)).alloc (.cells #[] 3)).alloc (.cells #[] 3)) = w5 at *
    generalize ((((w.alloc (.cells #[.int .i64 (P : Int), (.slice A l.length cap)] 35)).alloc (.cells #[(.slice none 0 0), (.slice none 0 0), (.slice none 0 0)] 30)).alloc (.cells #[] 3)).alloc (.cells #[] 3)) = w4 at *
    generalize (((w.alloc (.cells #[.int .i64 (P : Int), (.slice A l.length cap)] 35)).alloc (.cells #[(.slice none 0 0), (.slice none 0 0), (.slice none 0 0)] 30)).alloc (.cells #[] 3)) = w3 at *
    generalize ((w.alloc (.cells #[.int .i64 (P : Int), (.slice A l.length cap)] 35)).alloc (.cells #[(.slice none 0 0), (.slice none 0 0), (.slice none 0 0)] 30)) = w2 at *
    generalize (w.alloc (.cells #[.int .i64 (P : Int), (.slice A l.length cap)] 35)) = w1 at *
    refine (HISG _ HB_6.out.at).mono ?_
    rintro e w7 ⟨rfl, hb⟩
    have Z7 := Lib.hid (within_of hb).size
    have W7 := Lib.hid (within_on W6.out (within_of hb) W6.out.size (.inr (Nat.le_refl _)))
    have HB_7 := Lib.hid (HB_6.out.within (within_of hb) (by omega))
    have BX_7 := Lib.hid (BX_6.out.within (within_of hb) (by omega))
    have GR_7 := Lib.hid (GR_6.out.within (within_of hb) (by omega))
    have OF_7 := Lib.hid (OF_6.out.within (within_of hb) (by omega))
    have GP_7 := Lib.hid (GP_6.out.within (within_of hb) (by omega))
    clear hb HISG
    go_wp2_with fail
    refine (l1In_yes k 1 3 _ (by omega) (by omega)).mono ?_
    rintro e w9 ⟨rfl, rfl⟩
    have HN := Lib.hid (show NewS w w7 (P : Int) k (.slice A l.length cap) 0 (.slice (some ⟨w.heap.size + 1 + 1, 0, none⟩) 0 0) (.slice (some ⟨w.heap.size + 1 + 1 + 1, 0, none⟩) 0 0) (.slice (some ⟨w.heap.size + 1 + 1 + 1 + 1, 0, none⟩) 0 0) from ⟨OF_7.out.row, fun a e => by simp [Value.ownBlock] at e; omega, GP_7.out, GR_7.out, BX_7.out, W7.out⟩)
    go_wp2_with fail
    go_loopw [7] (fun i wr => ∃ j : Nat, j ≤ P ∧ i = .int .i64 j ∧ ∃ v, NewS w wr (P : Int) k (.slice A l.length cap) j v (.slice (some ⟨w.heap.size + 1 + 1 + 1, 0, none⟩) 0 0) (.slice (some ⟨w.heap.size + 1 + 1 + 1 + 1, 0, none⟩) 0 0)) (fun i _ => P - (intOf i).toNat)
    case atStart => exact ⟨0, Nat.zero_le _, rfl, _, HN.out⟩
    case round =>
      obtain ⟨j, hj, rfl, v, hst⟩ := hrel
      have HS := Lib.hid hst
      obtain ⟨A', c', rfl⟩ := own_shape hst.row
      have hbs := hst.bel.size
      obtain ⟨_, g1, g2⟩ := hst.box
      obtain ⟨c0, c1, c2, f0, f1, f2⟩ := hst.st.cells
      clear hst
      by_cases hlt : j < P
      · have hji : (j : Int) < (P : Int) := by omega
        obtain ⟨k0, k1, k2, e0, e1, e2⟩ := (HS.out.alloc (.cells #[.int .i64 k] 3)).st.cells
        go_wp2_with (at_builtin; refine wpList_at _ rfl _ _ 25 rfl w.heap.size 3 (.int .i64 0) 1 8 Try.underlying25 infoInt rfl (by decide) _ _ _ rfl HS.out.row #[.int .i64 k] 1 rfl (by simp [Value.oneCell']) _ _ rfl (by omega) (by unfold maxLen; omega) hbs ?_; intro v' w' ho hg hat _; obtain ⟨A2, c2', rfl⟩ := own_shape ho; obtain ⟨q5, hN⟩ := HS.out.push ho hg hat; obtain ⟨d0, d1, d2, h0, h1, h2⟩ := q5.cells; have HN2 := Lib.hid hN; clear ho hg hat q5 hN)
        go_roundw
        case rel => exact ⟨j + 1, by omega, by go_num, _, HN2.out⟩
        case measure => simp [intOf]; omega
      · obtain rfl : j = P := by omega
        have rt := HS.out.ret
        obtain ⟨r0, r1, r2, q0, q1, q2⟩ := rt.cells
        have h3 := ret3 rt (.slice A' j c') (.slice (some ⟨w.heap.size + 1 + 1 + 1, 0, none⟩) 0 0) (.slice (some ⟨w.heap.size + 1 + 1 + 1 + 1, 0, none⟩) 0 0)
        obtain ⟨s0, s1, s2, _⟩ := h3.1.cells
        have HW := Lib.hid h3.2
        clear h3 rt
        go_wp2_with fail
        refine bodyPost_ret (v := .tuple #[pebV A' j c' (some ⟨w.heap.size + 1 + 1 + 1, 0, none⟩) 0 0 (some ⟨w.heap.size + 1 + 1 + 1 + 1, 0, none⟩) 0 0, .bool true]) ?_ rfl ?_
        · simp [results, Try.results53, go_sem, s0, s1, s2]
        · have hro := HS.out.row2.within HW.out (by omega)
          have hz := HW.out.size
          rw [HR.out.1, HR.out.2]
          refine ⟨A', c', some ⟨w.heap.size + 1 + 1 + 1, 0, none⟩, 0, some ⟨w.heap.size + 1 + 1 + 1 + 1, 0, none⟩, 0, by rw [List.length_replicate]; rfl, ?_, within_on HS.out.bel HW.out hbs (by omega)⟩
          exact own3_f hro (by omega) hz (by omega)
end Go.Proofs.Ytgmcibcjplncaaa
/- What stands while a pebble is looked for in a state of the call's own. No program's walk. No condition. -/
namespace Go.Proofs.Ytgmcibcjplncaaa
open Go.RowKit

/-- The pointers to the tails that led to the points of a queue. -/
def arrV (gT : Nat) (a : Int) (q : List (Int × Nat)) (v : Int) : Value :=
  match q.find? (fun x => decide (x.1 = v) && decide (x.1 ≠ a)) with
  | some x => .pointer (some ⟨gT, x.2, none⟩)
  | none => .pointer none
def arrL (gT : Nat) (a : Int) (q : List (Int × Nat)) : List Value := (List.range 8).map fun (v : Nat) => arrV gT a q (v : Int)
theorem arrL_len (gT : Nat) (a : Int) (q : List (Int × Nat)) : (arrL gT a q).length = 8 := by simp [arrL]
theorem arrL_get (gT : Nat) (a : Int) (q : List (Int × Nat)) (v : Nat) (h : v < 8) : (arrL gT a q)[v]? = some (arrV gT a q (v : Int)) := by simp [arrL, h]
theorem arrV_none {gT : Nat} {a : Int} {q : List (Int × Nat)} {v : Int} (h : v ∉ q.map Prod.fst ∨ v = a) : arrV gT a q v = .pointer none := by
  unfold arrV
  rw [List.find?_eq_none.2]
  intro x hx
  rcases h with h | h
  · have : x.1 ≠ v := fun e => h (e ▸ List.mem_map_of_mem hx)
    simp [this]
  · subst h
    by_cases e : x.1 = v <;> simp [e]
theorem arrV_some {gT : Nat} {a : Int} {q : List (Int × Nat)} {v : Int} (h : v ∈ q.map Prod.fst) (ha : v ≠ a) : ∃ g j, arrV gT a q v = .pointer (some ⟨g, j, none⟩) := by
  unfold arrV
  obtain ⟨x, hx, e⟩ := List.mem_map.1 h
  cases hf : q.find? (fun x => decide (x.1 = v) && decide (x.1 ≠ a)) with
  | some y => exact ⟨gT, y.2, rfl⟩
  | none =>
    have := List.find?_eq_none.1 hf x hx
    simp [e, ha] at this
theorem arrV_at {P : Nat} {E : List (Int × Int)} {T : List Int} {gT : Nat} {a : Int} {q : List (Int × Nat)} (hp : PathQ P E T a q) {x : Int × Nat} (hx : x ∈ q) (ha : x.1 ≠ a) : arrV gT a q x.1 = .pointer (some ⟨gT, x.2, none⟩) := by
  obtain ⟨q1, q2, rfl⟩ := List.append_of_mem hx
  have hne : q1 ≠ [] := by
    rintro rfl
    obtain ⟨s, e⟩ := hp.1
    cases e
    exact ha rfl
  have h1 := (hp.2 q1 x q2 rfl hne).1
  unfold arrV
  rw [List.find?_append, List.find?_eq_none.2 fun y hy => by
    have : y.1 ≠ x.1 := fun e => h1 (e ▸ List.mem_map_of_mem hy)
    simp [this]]
  simp [ha]
theorem arrL_set (gT : Nat) (a : Int) (q : List (Int × Nat)) (o j : Nat) (h8 : o < 8) (ho : (o : Int) ∉ q.map Prod.fst) (ha : (o : Int) ≠ a) : (arrL gT a q).set o (.pointer (some ⟨gT, j, none⟩)) = arrL gT a (q ++ [((o : Int), j)]) := by
  apply List.ext_getElem?
  intro v
  by_cases hv : v < 8
  · rw [List.getElem?_set, arrL_get _ _ _ v hv, arrL_get _ _ _ v hv, arrL_len]
    by_cases e : o = v
    · subst e
      rw [if_pos rfl, if_pos h8]
      congr 1
      unfold arrV
      rw [List.find?_append, List.find?_eq_none.2 fun y hy => by
        have : y.1 ≠ (o : Int) := fun e => ho (e ▸ List.mem_map_of_mem hy)
        simp [this]]
      simp [ha]
    · rw [if_neg e]
      congr 1
      unfold arrV
      rw [List.find?_append]
      have hne : ¬ (o : Int) = (v : Int) := by omega
      simp [hne]
  · rw [List.getElem?_eq_none (by rw [List.length_set, arrL_len]; omega), List.getElem?_eq_none (by rw [arrL_len]; omega)]

/-- Where the search stands: the state, the graph's box, the pointers, the queue. -/
structure PullI (w wr : World) (pb : Nat) (f t z : Nat × Nat) (p : Int) (A : Option Addr) (cap : Nat) (l : List (Int × Int)) (AF : Option Addr) (cF : Nat) (AT : Option Addr) (cT : Nat) (AZ : Option Addr) (cZ : Nat) (F T Z : List Int) (a : Int) (gT : Nat) (qa qr : List (Int × Nat)) (qv : Value) : Prop where
  st : Cel3 wr pb 30 (.slice AF F.length cF) (.slice AT T.length cT) (.slice AZ Z.length cZ)
  own : OwnF wr f t z AF cF AT cT AZ cZ F T Z
  box : Box wr w.heap.size p (.slice A l.length cap)
  bars : BarsIn wr 0 w.heap.size A l
  arr : wr.heap[w.heap.size + 1]? = some (.cells (arrL gT a qa).toArray 139 (0, 0))
  row : wr.ownsRow (w.heap.size + 1 + 1) 3 1 qv qr.length (intCells (qr.map Prod.fst))
  bel : Below w.heap.size w wr
  low : pb < w.heap.size ∧ f.2 ≤ w.heap.size ∧ t.2 ≤ w.heap.size ∧ z.2 ≤ w.heap.size
theorem PullI.below {w wr w' : World} {pb : Nat} {f t z : Nat × Nat} {p : Int} {A : Option Addr} {cap : Nat} {l : List (Int × Int)} {AF : Option Addr} {cF : Nat} {AT : Option Addr} {cT : Nat} {AZ : Option Addr} {cZ : Nat} {F T Z : List Int} {a : Int} {gT : Nat} {qa qr : List (Int × Nat)} {qv : Value}
    (h : PullI w wr pb f t z p A cap l AF cF AT cT AZ cZ F T Z a gT qa qr qv) (hb : Below wr.heap.size wr w') : PullI w w' pb f t z p A cap l AF cF AT cT AZ cZ F T Z a gT qa qr qv :=
  ⟨h.st.kept hb, h.own.below hb, h.box.kept hb, h.bars.within (within_of hb) (.inr (Nat.zero_le _)), (hb.block _ (Array.getElem?_eq_some_iff.1 h.arr).1).trans h.arr, own_below h.row hb, below_on h.bel hb h.bel.size, h.low⟩
theorem PullI.reach {w wr : World} {pb : Nat} {f t z : Nat × Nat} {p : Int} {A : Option Addr} {cap : Nat} {l : List (Int × Int)} {AF : Option Addr} {cF : Nat} {AT : Option Addr} {cT : Nat} {AZ : Option Addr} {cZ : Nat} {F T Z : List Int} {a : Int} {gT : Nat} {qa qr : List (Int × Nat)} {qv : Value}
    (h : PullI w wr pb f t z p A cap l AF cF AT cT AZ cZ F T Z a gT qa qr qv) (o j : Nat) (h8 : o < 8) (ho : (o : Int) ∉ qa.map Prod.fst) (ha : (o : Int) ≠ a) : PullI w (wr.setCell ⟨w.heap.size + 1, o, none⟩ (.pointer (some ⟨gT, j, none⟩))) pb f t z p A cap l AF cF AT cT AZ cZ F T Z a gT (qa ++ [((o : Int), j)]) qr qv := by
  have hw := within_set wr (w.heap.size + 1) o (.pointer (some ⟨gT, j, none⟩))
  obtain ⟨l1, l2, l3, l4⟩ := h.low
  refine ⟨h.st.within hw (by omega), h.own.within hw (by omega) (by omega) (by omega), h.box.within hw (by omega), h.bars.within hw (by omega), ?_, ?_, h.bel.setCell (p := ⟨w.heap.size + 1, o, none⟩) (by simp only []; omega) _, h.low⟩
  · have := heap_setCell_same wr (w.heap.size + 1) o _ _ (.pointer (some ⟨gT, j, none⟩)) h.arr
    rw [← arrL_set gT a qa o j h8 ho ha]
    simpa using this
  · rcases h.row.2 with ⟨e, e0⟩ | ⟨g, c, cur, e, hg, hh, _⟩
    · exact ⟨h.row.1, .inl ⟨e, e0⟩⟩
    · subst e
      exact own_block h.row (hw.block g (Array.getElem?_eq_some_iff.1 hh).1 (by omega))
theorem PullI.push {w wr w' : World} {pb : Nat} {f t z : Nat × Nat} {p : Int} {A : Option Addr} {cap : Nat} {l : List (Int × Int)} {AF : Option Addr} {cF : Nat} {AT : Option Addr} {cT : Nat} {AZ : Option Addr} {cZ : Nat} {F T Z : List Int} {a : Int} {gT : Nat} {qa qr : List (Int × Nat)} {qv qv' : Value}
    (h : PullI w wr pb f t z p A cap l AF cF AT cT AZ cZ F T Z a gT qa qr qv) (x : Int × Nat) (ho : w'.ownsRow (w.heap.size + 1 + 1) 3 1 qv' (qr.length + 1) (intCells (qr.map Prod.fst) ++ [.int .i64 x.1])) (hg : wr.grownBy w' qv.ownBlock) : PullI w w' pb f t z p A cap l AF cF AT cT AZ cZ F T Z a gT qa (qr ++ [x]) qv' := by
  obtain ⟨l1, l2, l3, l4⟩ := h.low
  have hs := h.bel.size
  have hra := (Array.getElem?_eq_some_iff.1 h.arr).1
  have hw : Within (w.heap.size + 1 + 1) wr.heap.size wr w' := ⟨hg.os, hg.tape, hg.output, hg.size, fun k hk hd => hg.block k hk fun e => by
    have := (h.row.lt k e.symm).1
    omega⟩
  have hbx := h.box.1
  refine ⟨h.st.within hw (by omega), h.own.within hw (by omega) (by omega) (by omega), h.box.within hw (by omega), h.bars.within hw (by omega), (hw.block _ hra (by omega)).trans h.arr, ?_, h.bel.grown hg (by omega) fun g e => by have := (h.row.lt g e).1; omega, h.low⟩
  rw [List.length_append, List.map_append, show intCells (qr.map Prod.fst ++ [x].map Prod.fst) = intCells (qr.map Prod.fst) ++ [.int .i64 x.1] by simp [intCells]]
  exact ho
theorem GoodQ.range {P : Nat} {E : List (Int × Int)} {T : List Int} {a : Int} {q : List (Int × Nat)} (h : GoodQ P E T a q) (ha : 0 ≤ a ∧ a < (P : Int)) (k : Nat) (hk : k < q.length) : 0 ≤ (q.getD k (0, 0)).1 ∧ (q.getD k (0, 0)).1 < (P : Int) := by
  have hm := getD_mem_fst q k hk
  by_cases e : (q.getD k (0, 0)).1 = a
  · rw [e]; exact ha
  · obtain ⟨_, _, _, _, _, _, _, _, _, h6, h7, _⟩ := h.path.at hm e
    exact ⟨h6, h7⟩
theorem Own3.fst {W : World} {lo hi : Nat} {AF AT AZ : Option Addr} {cF cT cZ : Nat} {F T Z : List Int} (h : Own3 W lo hi AF cF AT cT AZ cZ F T Z) (hF : 0 < F.length) : ∃ gF, AF = some ⟨gF, 0, none⟩ ∧ lo ≤ gF ∧ gF < hi := by
  obtain ⟨⟨f1, f2⟩, _, _, o1, _, _, _, _, _, b1, _, _, _⟩ := h
  simp only at o1 b1
  rcases o1.2 with e | ⟨gF, rfl, g1, g2, _⟩
  · subst e; simp at hF
  · exact ⟨gF, rfl, by omega, by omega⟩
theorem turn_prefix {E : List (Int × Int)} {a : Int} {q0 r : List (Int × Nat)} {x : Int × Nat} (T : List Int) (h : x.1 ∉ r.map Prod.fst) : turnQ E a (q0 ++ x :: r).reverse x.1 T = turnQ E a (q0 ++ [x]).reverse x.1 T := by
  rw [show (q0 ++ x :: r).reverse = r.reverse ++ (q0 ++ [x]).reverse by simp, turnQ_skip _ _ _ _ _ _ (by simpa using h)]
theorem take_snoc_getD (q : List (Int × Nat)) (k : Nat) (hk : k < q.length) : q.take (k + 1) = q.take k ++ [q.getD k (0, 0)] := take_getD q (0, 0) k hk
theorem map_fst_getD (q : List (Int × Nat)) (k : Nat) (h : k < q.length) : (q.map Prod.fst).getD k 0 = (q.getD k (0, 0)).1 := by
  simp [List.getD, List.getElem?_eq_getElem h]
/-- A point was looked at: none of those so far gives a pebble. -/
theorem no_step {E : List (Int × Int)} {T F : List Int} {a b : Int} {k : Nat} (hk : k < (bfs E T a k).length) (h : ∀ y ∈ (bfs E T a k).take k, givesB F a b y = false) (hx : givesB F a b ((bfs E T a k).getD k (0, 0)) = false) : ∀ y ∈ (bfs E T a (k + 1)).take (k + 1), givesB F a b y = false := by
  obtain ⟨r, e⟩ := bfs_pre1 E T a k
  rw [e, List.take_append_of_le_length (by omega), take_snoc_getD _ _ hk]
  intro y hy
  rcases List.mem_append.1 hy with hy | hy
  · exact h y hy
  · have : y = (bfs E T a k).getD k (0, 0) := by simpa using hy
    rw [this]; exact hx
/-- What a search for a pebble answers, and what it makes of the state. -/
def PullP (w : World) (f t z : Nat × Nat) (AF : Option Addr) (cF : Nat) (AT : Option Addr) (cT : Nat) (AZ : Option Addr) (cZ : Nat) (E : List (Int × Int)) (F T Z : List Int) (a b : Int) (e : Ending) (w' : World) : Prop :=
  Within2 f t w w' ∧ ((e = .returned (.bool false) ∧ findM E a b (F, T) = none ∧ OwnF w' f t z AF cF AT cT AZ cZ F T Z) ∨ ∃ s', e = .returned (.bool true) ∧ findM E a b (F, T) = some s' ∧ OwnF w' f t z AF cF AT cT AZ cZ s'.1 s'.2 Z)
end Go.Proofs.Ytgmcibcjplncaaa
/- What stands while the specification looks for a pebble. No program's walk. No condition. -/
namespace Go.Proofs.Ytgmcibcjplncaaa
open Go.RowKit

/-- What was seen: a row of bools. -/
def seenC (n : Nat) (q : List (Int × Nat)) : List Value := (List.range n).map fun (u : Nat) => Value.bool (decide ((u : Int) ∈ q.map Prod.fst))
theorem seenC_len (n : Nat) (q : List (Int × Nat)) : (seenC n q).length = n := by simp [seenC]
theorem seenC_get (n : Nat) (q : List (Int × Nat)) (u : Nat) (h : u < n) : (seenC n q)[u]? = some (.bool (decide ((u : Int) ∈ q.map Prod.fst))) := by simp [seenC, h]
theorem seenC_set (n : Nat) (q : List (Int × Nat)) (o j : Nat) : (seenC n q).set o (.bool true) = seenC n (q ++ [((o : Int), j)]) := by
  apply List.ext_getElem?
  intro i
  by_cases hi : i < n
  · rw [List.getElem?_set, seenC_get _ _ _ hi, seenC_get _ _ _ hi]
    simp only [seenC_len]
    by_cases h : o = i
    · subst h; simp [hi]
    · have h' : ¬ (i : Int) = (o : Int) := by omega
      simp [h, h']
  · rw [List.getElem?_eq_none (by simp [seenC_len]; omega), List.getElem?_eq_none (by simp [seenC_len]; omega)]
theorem seenC_one (n : Nat) (a : Nat) : (List.replicate n (Value.bool false)).set a (.bool true) = seenC n [((a : Int), 0)] := by
  have e : List.replicate n (Value.bool false) = seenC n [] := by
    apply List.ext_getElem?
    intro i
    by_cases hi : i < n
    · rw [seenC_get _ _ _ hi]; simp [hi]
    · rw [List.getElem?_eq_none (by simp; omega), List.getElem?_eq_none (by simp [seenC_len]; omega)]
  rw [e, seenC_set n [] a 0, List.nil_append]
/-- Where the search stands: what is read, how each point was reached, what was seen, the queue. -/
structure FindI (w wr : World) (p : Int) (A : Option Addr) (cap : Nat) (l : List (Int × Int)) (AF AT AZ : Option Addr) (cF cT cZ lo hi : Nat) (F T Z : List Int) (gf gs : Nat) (FR : List Int) (a : Int) (qa qr : List (Int × Nat)) (qv : Value) : Prop where
  g : GtI w wr p A cap l AF AT AZ cF cT cZ lo hi F T Z
  fr : wr.ownsRow gf 3 1 (.slice (some ⟨gf, 0, none⟩) F.length F.length) F.length (intCells FR)
  sn : wr.ownsRow gs 4 1 (.slice (some ⟨gs, 0, none⟩) F.length F.length) F.length (seenC F.length qa)
  qu : wr.ownsRow (w.heap.size + 3) 3 1 qv qr.length (intCells (qr.map Prod.fst))
  qn : ∀ g, qv.ownBlock = some g → g ≠ gf ∧ g ≠ gs
  ne : gf ≠ gs
  lf : w.heap.size + 3 ≤ gf
  ls : w.heap.size + 3 ≤ gs
  lh : hi ≤ w.heap.size
  frl : FR.length = F.length
  fro : ∀ x ∈ qa, x.1 ≠ a → FR.getD x.1.toNat 0 = (x.2 : Int)
theorem FindI.below {w wr w' : World} {p : Int} {A : Option Addr} {cap : Nat} {l : List (Int × Int)} {AF AT AZ : Option Addr} {cF cT cZ lo hi : Nat} {F T Z : List Int} {gf gs : Nat} {FR : List Int} {a : Int} {qa qr : List (Int × Nat)} {qv : Value}
    (h : FindI w wr p A cap l AF AT AZ cF cT cZ lo hi F T Z gf gs FR a qa qr qv) (hb : Below wr.heap.size wr w') : FindI w w' p A cap l AF AT AZ cF cT cZ lo hi F T Z gf gs FR a qa qr qv :=
  ⟨h.g.below hb, own_below h.fr hb, own_below h.sn hb, own_below h.qu hb, h.qn, h.ne, h.lf, h.ls, h.lh, h.frl, h.fro⟩
/-- A point is seen for the first time, along bar j. -/
theorem FindI.see {w wr : World} {p : Int} {A : Option Addr} {cap : Nat} {l : List (Int × Int)} {AF AT AZ : Option Addr} {cF cT cZ lo hi : Nat} {F T Z : List Int} {gf gs : Nat} {FR : List Int} {a : Int} {qa qr : List (Int × Nat)} {qv : Value}
    (h : FindI w wr p A cap l AF AT AZ cF cT cZ lo hi F T Z gf gs FR a qa qr qv) (o j : Nat) (ho : o < F.length) (hn : (o : Int) ∉ qa.map Prod.fst) (hq : ∀ x ∈ qa, x.1 ≠ a → 0 ≤ x.1) : FindI w ((wr.setCell ⟨gs, o, none⟩ (.bool true)).setCell ⟨gf, o, none⟩ (.int .i64 (j : Int))) p A cap l AF AT AZ cF cT cZ lo hi F T Z gf gs (FR.set o (j : Int)) a (qa ++ [((o : Int), j)]) qr qv := by
  have h1 := within_set wr gs o (.bool true)
  have h2 := within_set (wr.setCell ⟨gs, o, none⟩ (.bool true)) gf o (.int .i64 (j : Int))
  have e := h.ne
  have e1 := h.lf
  have e2 := h.ls
  have e3 := h.lh
  have s1 := (h.sn.stored o (.bool true)).1
  rw [seenC_set _ _ _ j] at s1
  have s2 := ((own_block h.fr (h1.block gf (h.fr.lt gf rfl).2 (by omega))).stored o (.int .i64 (j : Int))).1
  rw [intCells_set] at s2
  refine ⟨(h.g.within h1 (by omega) (by omega)).within h2 (by omega) (by omega), s2, own_block s1 (h2.block gs (s1.lt gs rfl).2 (by omega)), ?_, h.qn, h.ne, h.lf, h.ls, h.lh, by rw [List.length_set]; exact h.frl, fun x hx hxa => ?_⟩
  · rcases h.qu.2 with ⟨c, c0⟩ | ⟨g, c, cur, c1, hg, hh, _⟩
    · exact ⟨h.qu.1, .inl ⟨c, c0⟩⟩
    · subst c1
      have hne := h.qn g rfl
      have hl := (Array.getElem?_eq_some_iff.1 hh).1
      exact own_block (own_block h.qu (h1.block g hl (by omega))) (h2.block g (Nat.lt_of_lt_of_le hl h1.size) (by omega))
  · rcases List.mem_append.1 hx with hx | hx
    · have hxo : x.1 ≠ (o : Int) := fun c => hn (c ▸ List.mem_map_of_mem hx)
      have h0 := hq x hx hxa
      rw [set_getD_ne _ _ _ _ _ (by omega)]
      exact h.fro x hx hxa
    · obtain rfl : x = ((o : Int), j) := by simpa using hx
      simp only [Int.toNat_natCast]
      exact set_getD_eq _ _ _ _ (by rw [h.frl]; exact ho)
/-- The point is put behind the queue. -/
theorem FindI.push {w wr w' : World} {p : Int} {A : Option Addr} {cap : Nat} {l : List (Int × Int)} {AF AT AZ : Option Addr} {cF cT cZ lo hi : Nat} {F T Z : List Int} {gf gs : Nat} {FR : List Int} {a : Int} {qa qr : List (Int × Nat)} {qv qv' : Value}
    (h : FindI w wr p A cap l AF AT AZ cF cT cZ lo hi F T Z gf gs FR a qa qr qv) (x : Int × Nat) (ho : w'.ownsRow (w.heap.size + 3) 3 1 qv' (qr.length + 1) (intCells (qr.map Prod.fst) ++ [.int .i64 x.1])) (hg : wr.grownBy w' qv.ownBlock) (hat : qv'.ownBlock = qv.ownBlock ∨ qv'.ownBlock = some (wr.heap.size + 1)) : FindI w w' p A cap l AF AT AZ cF cT cZ lo hi F T Z gf gs FR a qa (qr ++ [x]) qv' := by
  have e1 := h.lf
  have e2 := h.ls
  have e3 := h.lh
  have l1 := (h.fr.lt gf rfl).2
  have l2 := (h.sn.lt gs rfl).2
  have hw : Within (w.heap.size + 3) wr.heap.size wr w' := ⟨hg.os, hg.tape, hg.output, hg.size, fun k hk hd => hg.block k hk fun e => by
    have := (h.qu.lt k e.symm).1
    omega⟩
  refine ⟨h.g.within hw (by omega) (by omega), own_block h.fr (hg.block gf l1 fun c => (h.qn gf c.symm).1 rfl), own_block h.sn (hg.block gs l2 fun c => (h.qn gs c.symm).2 rfl), ?_, fun g c => ?_, h.ne, h.lf, h.ls, h.lh, h.frl, h.fro⟩
  · rw [List.length_append, List.map_append, show intCells (qr.map Prod.fst ++ [x].map Prod.fst) = intCells (qr.map Prod.fst) ++ [.int .i64 x.1] by simp [intCells]]
    exact ho
  · rcases hat with hat | hat
    · exact h.qn g (hat ▸ c)
    · rw [hat] at c
      cases c
      omega
/-- What the specification's search answers. -/
def FindP (w : World) (pv : Value) (E : List (Int × Int)) (F T Z : List Int) (a b : Int) (e : Ending) (w' : World) : Prop :=
  Below w.heap.size w w' ∧ ((e = .returned (.tuple #[pv, .bool false]) ∧ findM E a b (F, T) = none) ∨ ∃ s' AF cF AT cT AZ cZ, e = .returned (.tuple #[pebV AF s'.1.length cF AT s'.2.length cT AZ Z.length cZ, .bool true]) ∧ findM E a b (F, T) = some s' ∧ Own3R w' w.heap.size w'.heap.size AF cF AT cT AZ cZ s'.1 s'.2 Z)
end Go.Proofs.Ytgmcibcjplncaaa
