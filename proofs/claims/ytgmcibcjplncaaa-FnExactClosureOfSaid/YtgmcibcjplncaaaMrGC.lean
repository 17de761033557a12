/- Several texts in one, in the order in which they build on each other: what stands on the way to the law; each names its own matter. No condition. -/
import Derived.Test.YtgmcibcjplncaaaMrGB
import Derived.Test.YtgmcibcjplncaaaRunM
import Derived.Test.YtgmcibcjplncaaaRng
import Derived.Test.YtgmcibcjplncaaaRankM
import Derived.Test.YtgmcibcjplncaaaIntsO
import Derived.Test.YtgmcibcjplncaaaIsGraphI
import Derived.Test.YtgmcibcjplncaaaOnly
import Derived.Test.YtgmcibcjplncaaaRkM
import Derived.Test.YtgmcibcjplncaaaPlaM
import Derived.Test.YtgmcibcjplncaaaCirM
import Derived.Test.YtgmcibcjplncaaaIntArg
import Derived.Test.YtgmcibcjplncaaaState
import Derived.Deep.RegionHeld3
/- What impl.RunPebbles answers. No condition. -/
namespace Go.Proofs.Ytgmcibcjplncaaa
open Go.RowKit

/-- What stands in the program's run of the game: the graph's box, the result's box, the state's box with its rows' ranges. -/
structure RunI (w W : World) (P : Nat) (A : Option Addr) (cap : Nat) (l : List (Int × Int)) (pb : Nat) (f t z : Nat × Nat) (AF AT AZ : Option Addr) (cF cT cZ : Nat) (R : List Int × List Int × List Int) : Prop where
  gb : Box W w.heap.size (P : Int) (.slice A l.length cap)
  rb : Cel3 W (w.heap.size + 1) 30 (.slice none 0 0) (.slice none 0 0) (.slice none 0 0)
  st : Cel3 W pb 30 (.slice AF R.1.length cF) (.slice AT R.2.1.length cT) (.slice AZ R.2.2.length cZ)
  own : OwnF W f t z AF cF AT cT AZ cZ R.1 R.2.1 R.2.2
  bars : BarsIn W 0 w.heap.size A l
  bel : Below w.heap.size w W
  lo : w.heap.size + 2 ≤ pb ∧ w.heap.size + 2 ≤ f.1 ∧ w.heap.size + 2 ≤ t.1 ∧ w.heap.size + 2 ≤ z.1
  hp : (pb < f.1 ∨ f.2 ≤ pb) ∧ (pb < t.1 ∨ t.2 ≤ pb) ∧ (pb < z.1 ∨ z.2 ≤ pb)
  hs : t.1 ≤ W.heap.size ∧ z.1 ≤ W.heap.size
theorem RunI.mk0 {w W : World} {P : Nat} {k c : Int} {A : Option Addr} {cap : Nat} {l : List (Int × Int)} {pb a b : Nat} {AF : Option Addr} {cF : Nat} (g : Box W w.heap.size (P : Int) (.slice A l.length cap)) (r : Cel3 W (w.heap.size + 1) 30 (.slice none 0 0) (.slice none 0 0) (.slice none 0 0))
    (h : Cel3 W pb 30 (.slice AF (runN P k c l 0).1.length cF) (.slice none 0 0) (.slice none 0 0)) (ho : OwnR W a b AF cF (runN P k c l 0).1) (hb : BarsIn W 0 w.heap.size A l) (hw : Below w.heap.size w W) (h1 : w.heap.size + 2 ≤ pb) (h2 : w.heap.size + 2 ≤ a) (h3 : b ≤ pb) (h4 : pb < W.heap.size) :
    RunI w W P A cap l pb (a, b) (W.heap.size, W.heap.size) (W.heap.size, W.heap.size) AF none none cF 0 0 (runN P k c l 0) :=
  ⟨g, r, h, ⟨ho, ⟨Nat.le_refl _, .inl ⟨rfl, rfl, rfl⟩⟩, ⟨Nat.le_refl _, .inl ⟨rfl, rfl, rfl⟩⟩, .inl (by show b ≤ W.heap.size; omega), .inl (by show b ≤ W.heap.size; omega), .inl (Nat.le_refl _)⟩, hb, hw,
    ⟨h1, h2, by show _ ≤ W.heap.size; omega, by show _ ≤ W.heap.size; omega⟩, ⟨.inr h3, .inl h4, .inl h4⟩, ⟨Nat.le_refl _, Nat.le_refl _⟩⟩
theorem runN_zero {P : Nat} {k c : Int} {l : List (Int × Int)} (h : newB (P : Int) k l = true) : (runN P k c l 0).1 ≠ [] := by
  have h1 := (newB_is h).1.1
  intro e
  have h2 : (runN P k c l 0).1.length = P := by simp [runN]
  rw [e] at h2
  simp at h2
  omega
theorem own_new {W : World} {a b : Nat} {A : Option Addr} {cap : Nat} {zs : List Int} (h : OwnInts W a b A cap zs) (hz : zs ≠ []) : OwnR W a b A cap zs :=
  ⟨h.1, by
    rcases h.2 with e | r
    · exact absurd e hz
    · exact .inr r⟩
/-- The program's next bar. -/
theorem RunI.call {w W : World} {P : Nat} {k c : Int} {A : Option Addr} {cap : Nat} {l : List (Int × Int)} {pb : Nat} {f t z : Nat × Nat} {AF AT AZ : Option Addr} {cF cT cZ : Nat} {n : Nat} (h : RunI w W P A cap l pb f t z AF AT AZ cF cT cZ (runN P k c l n)) (hk : newB (P : Int) k l = true) (hr : rangeB k c = true) (hn : n < l.length) :
    Calls Try.prog 83 #[.pointer (some ⟨pb, 0, none⟩), .agg #[.int .i64 (P : Int), .slice A l.length cap], .int .i64 c, .int .i64 (n : Int)] W (fun e W' => ∃ (b : Bool) (f' t' z' : Nat × Nat) (BF BT BZ : Option Addr) (dF dT dZ : Nat), e = .returned (.bool b) ∧ RunI w W' P A cap l pb f' t' z' BF BT BZ dF dT dZ (runN P k c l (n + 1))) := by
  obtain ⟨h1, h2, h3, h4, h5, h6, h7, h8, h9⟩ := h
  have hlt := h3.lt
  have hs := runN_step hk hr hn
  have hrr := rangeB_is hr
  have hs0 := h6.size
  refine (place_c P k l A cap pb (w.heap.size + 2) f t z AF AT AZ cF cT cZ _ _ _ c n W (runN_at hk hr (Nat.le_of_lt hn)) (by omega) hn (h5.widen (Nat.le_refl _) (by omega) (by omega)) h3 h4 (by omega) h8.1 h8.2.1 h8.2.2 h9.1 h9.2).mono ?_
  rintro e W' ⟨hb, ⟨rfl, hp, ho, hc⟩ | ⟨s, AT', cT', AZ', cZ', t', z', rfl, hp, ho, hc, ht, hz⟩⟩
  · have hw := within_low hb
    have e1 : runN P k c l (n + 1) = runN P k c l n := by rw [hs.2, hp]; rfl
    have hsz := hb.size
    rw [e1]
    exact ⟨false, f, t, z, AF, AT, AZ, cF, cT, cZ, rfl, h1.within hw (by omega), h2.within hw (by omega), hc, ho, h5.within hw (by omega), within_on h6 hw h6.size (.inl (by omega)), h7, h8, by omega, by omega⟩
  · have hw := within_low hb
    have e1 : runN P k c l (n + 1) = s := by rw [hs.2, hp]; rfl
    have hsz := hb.size
    rw [e1]
    refine ⟨true, f, t', z', AF, AT', AZ', cF, cT', cZ', rfl, h1.within hw (by omega), h2.within hw (by omega), hc, ho, h5.within hw (by omega), within_on h6 hw h6.size (.inl (by omega)), ⟨h7.1, h7.2.1, ?_, ?_⟩, ⟨h8.1, ?_, ?_⟩, ?_, ?_⟩
    · rcases ht with e | e
      · rw [e]; exact h7.2.2.1
      · omega
    · rcases hz with e | e
      · rw [e]; exact h7.2.2.2
      · omega
    · rcases ht with e | e
      · rw [e]; exact h8.2.1
      · omega
    · rcases hz with e | e
      · rw [e]; exact h8.2.2
      · omega
    · rcases ht with e | e
      · rw [e]; omega
      · omega
    · rcases hz with e | e
      · rw [e]; omega
      · omega

set_option maxHeartbeats 4000000 in
set_option maxRecDepth 100000 in
theorem implRunP (p k c : Int) (l : List (Int × Int)) (A : Option Addr) (cap : Nat) (w : World) (hl : BarsAt w w.heap.size A l) (hn : l.length ≤ 1048576) :
    Calls Try.prog 31 #[.agg #[.int .i64 p, .slice A l.length cap], .int .i64 k, .int .i64 c] w (PebOB w (runV p k c l).1 (runV p k c l).2.1 (runV p k c l).2.2 (runB p k c l)) := by
  by_cases hb1 : newB p k l = true
  case neg =>
    have hb1' : newB p k l = false := by simpa using hb1
    have HR := Lib.hid (runV_no (c := c) (.inl hb1'))
    clear hb1
    rename newB p k l = false => hb1
    have HNW : ∀ W : World, BarsAt W W.heap.size A l → Calls Try.prog 52 #[.agg #[.int .i64 p, .slice A l.length cap], .int .i64 k] W (NewOB W (newF p k l) false) := fun W h => by have hc := implNewN p k l A cap W h hn; rw [hb1] at hc; exact hc
    clear hb1
    have W0 := Lib.hid (Below.refl w.heap.size w)
    have HB_0 := Lib.hid (bars_in hl)
    clear hl
    have Z1 := Lib.hid (within_alloc w (.cells #[.int .i64 p, (.slice A l.length cap)] 35)).size
    have W1 := Lib.hid (within_on W0.out (within_alloc w (.cells #[.int .i64 p, (.slice A l.length cap)] 35)) W0.out.size (.inr (Nat.le_refl _)))
    have HB_1 := Lib.hid (HB_0.out.within (within_alloc w (.cells #[.int .i64 p, (.slice A l.length cap)] 35)) (by omega))
    have Y1 := Lib.hid (show (w.alloc (.cells #[.int .i64 p, (.slice A l.length cap)] 35)).heap.size = w.heap.size + 1 by simp)
    have hnew := box_new w p (.slice A l.length cap) 35
    have BX_1 := Lib.hid hnew
    clear hnew
    have Z2 := Lib.hid (within_alloc (w.alloc (.cells #[.int .i64 p, (.slice A l.length cap)] 35)) (.cells #[(.slice none 0 0), (.slice none 0 0), (.slice none 0 0)] 30)).size
    have W2 := Lib.hid (within_on W1.out (within_alloc (w.alloc (.cells #[.int .i64 p, (.slice A l.length cap)] 35)) (.cells #[(.slice none 0 0), (.slice none 0 0), (.slice none 0 0)] 30)) W1.out.size (.inr (Nat.le_refl _)))
    have HB_2 := Lib.hid (HB_1.out.within (within_alloc (w.alloc (.cells #[.int .i64 p, (.slice A l.length cap)] 35)) (.cells #[(.slice none 0 0), (.slice none 0 0), (.slice none 0 0)] 30)) (by omega))
    have BX_2 := Lib.hid (BX_1.out.within (within_alloc (w.alloc (.cells #[.int .i64 p, (.slice A l.length cap)] 35)) (.cells #[(.slice none 0 0), (.slice none 0 0), (.slice none 0 0)] 30)) (by omega))
    have Y2 := Lib.hid (show ((w.alloc (.cells #[.int .i64 p, (.slice A l.length cap)] 35)).alloc (.cells #[(.slice none 0 0), (.slice none 0 0), (.slice none 0 0)] 30)).heap.size = (w.alloc (.cells #[.int .i64 p, (.slice A l.length cap)] 35)).heap.size + 1 by simp)
    have hnew := cel3_new (w.alloc (.cells #[.int .i64 p, (.slice A l.length cap)] 35)) (.slice none 0 0) (.slice none 0 0) (.slice none 0 0) 30
    rw [show (w.alloc (.cells #[.int .i64 p, (.slice A l.length cap)] 35)).heap.size = w.heap.size + 1 by simp] at hnew
    have GR_2 := Lib.hid hnew
    clear hnew
    go_enter Try.func31, Try.ntmps31
    obtain ⟨g0_0, g0_1, g0_2⟩ := BX_2.out
    go_wp2_with fail
    clear g0_0 g0_1 g0_2
    generalize ((w.alloc (.cells #[.int .i64 p, (.slice A l.length cap)] 35)).alloc (.cells #[(.slice none 0 0), (.slice none 0 0), (.slice none 0 0)] 30)) = w2 at *
    generalize (w.alloc (.cells #[.int .i64 p, (.slice A l.length cap)] 35)) = w1 at *
    refine (HNW _ HB_2.out.at).mono ?_
    rintro e w3 ⟨AF, cF, a, b, rfl, ho, ha1, hb1, hb⟩
    have Z3 := Lib.hid (within_of hb).size
    have W3 := Lib.hid (within_on W2.out (within_of hb) W2.out.size (.inr (Nat.le_refl _)))
    have HB_3 := Lib.hid (HB_2.out.within (within_of hb) (by omega))
    have BX_3 := Lib.hid (BX_2.out.within (within_of hb) (by omega))
    have GR_3 := Lib.hid (GR_2.out.within (within_of hb) (by omega))
    clear hb ho HNW ha1 hb1
    have Z4 := Lib.hid (within_alloc w3 (.cells #[(.slice AF (newF p k l).length cF), (.slice none 0 0), (.slice none 0 0)] 30)).size
    have W4 := Lib.hid (within_on W3.out (within_alloc w3 (.cells #[(.slice AF (newF p k l).length cF), (.slice none 0 0), (.slice none 0 0)] 30)) W3.out.size (.inr (Nat.le_refl _)))
    have HB_4 := Lib.hid (HB_3.out.within (within_alloc w3 (.cells #[(.slice AF (newF p k l).length cF), (.slice none 0 0), (.slice none 0 0)] 30)) (by omega))
    have BX_4 := Lib.hid (BX_3.out.within (within_alloc w3 (.cells #[(.slice AF (newF p k l).length cF), (.slice none 0 0), (.slice none 0 0)] 30)) (by omega))
    have GR_4 := Lib.hid (GR_3.out.within (within_alloc w3 (.cells #[(.slice AF (newF p k l).length cF), (.slice none 0 0), (.slice none 0 0)] 30)) (by omega))
    have Y4 := Lib.hid (show (w3.alloc (.cells #[(.slice AF (newF p k l).length cF), (.slice none 0 0), (.slice none 0 0)] 30)).heap.size = w3.heap.size + 1 by simp)
    have hnew := cel3_new w3 (.slice AF (newF p k l).length cF) (.slice none 0 0) (.slice none 0 0) 30
    have BP_4 := Lib.hid hnew
    clear hnew
    obtain ⟨g1_0, g1_1, g1_2, g1_3, g1_4, g1_5⟩ := GR_4.out.cells
    have Z5 := Lib.hid ((ret3 GR_4.out (.slice none 0 0) (.slice none 0 0) (.slice none 0 0)).2).size
    have W5 := Lib.hid (within_on W4.out ((ret3 GR_4.out (.slice none 0 0) (.slice none 0 0) (.slice none 0 0)).2) W4.out.size (by have := Z1.out; have := Z2.out; have := Z3.out; have := Z4.out; have := Z5.out; have := Y1.out; have := Y2.out; have := Y4.out; omega))
    have HB_5 := Lib.hid (HB_4.out.within ((ret3 GR_4.out (.slice none 0 0) (.slice none 0 0) (.slice none 0 0)).2) (by have := Z1.out; have := Z2.out; have := Z3.out; have := Z4.out; have := Z5.out; have := Y1.out; have := Y2.out; have := Y4.out; omega))
    have BX_5 := Lib.hid (BX_4.out.within ((ret3 GR_4.out (.slice none 0 0) (.slice none 0 0) (.slice none 0 0)).2) (by have := Z1.out; have := Z2.out; have := Z3.out; have := Z4.out; have := Z5.out; have := Y1.out; have := Y2.out; have := Y4.out; omega))
    have GR_5 := Lib.hid ((ret3 GR_4.out (.slice none 0 0) (.slice none 0 0) (.slice none 0 0)).1)
    have BP_5 := Lib.hid (BP_4.out.within ((ret3 GR_4.out (.slice none 0 0) (.slice none 0 0) (.slice none 0 0)).2) (by have := Z1.out; have := Z2.out; have := Z3.out; have := Z4.out; have := Z5.out; have := Y1.out; have := Y2.out; have := Y4.out; omega))
    obtain ⟨g2_0, g2_1, g2_2, g2_3, g2_4, g2_5⟩ := GR_5.out.cells
    go_wp2_with fail
    generalize ((((w3.alloc (.cells #[(.slice AF (newF p k l).length cF), (.slice none 0 0), (.slice none 0 0)] 30)).setCell ⟨w.heap.size + 1, 0, none⟩ (.slice none 0 0)).setCell ⟨w.heap.size + 1, 1, none⟩ (.slice none 0 0)).setCell ⟨w.heap.size + 1, 2, none⟩ (.slice none 0 0)) = w5 at *
    generalize (w3.alloc (.cells #[(.slice AF (newF p k l).length cF), (.slice none 0 0), (.slice none 0 0)] 30)) = w4 at *
    refine bodyPost_ret (v := .tuple #[pebV none 0 0 none 0 0 none 0 0, .bool false]) ?_ rfl ?_
    · simp [results, Try.results31, go_sem, g2_0, g2_1, g2_2]
    · rw [HR.out.1, HR.out.2]
      exact ⟨none, 0, none, 0, none, 0, rfl, own3_nil _ _ W5.out.size _ _ _ _ _ _, W5.out⟩
  by_cases hb2 : rangeB k c = true
  case neg =>
    have hb2' : rangeB k c = false := by simpa using hb2
    have HR := Lib.hid (runV_no (p := p) (l := l) (.inr hb2'))
    have HRG := Lib.hid hb2'
    clear hb2 hb2'
    have HNW : ∀ W : World, BarsAt W W.heap.size A l → Calls Try.prog 52 #[.agg #[.int .i64 p, .slice A l.length cap], .int .i64 k] W (NewOB W (newF p k l) true) := fun W h => by have hc := implNewN p k l A cap W h hn; rw [hb1] at hc; exact hc
    clear hb1
    have W0 := Lib.hid (Below.refl w.heap.size w)
    have HB_0 := Lib.hid (bars_in hl)
    clear hl
    have Z1 := Lib.hid (within_alloc w (.cells #[.int .i64 p, (.slice A l.length cap)] 35)).size
    have W1 := Lib.hid (within_on W0.out (within_alloc w (.cells #[.int .i64 p, (.slice A l.length cap)] 35)) W0.out.size (.inr (Nat.le_refl _)))
    have HB_1 := Lib.hid (HB_0.out.within (within_alloc w (.cells #[.int .i64 p, (.slice A l.length cap)] 35)) (by omega))
    have Y1 := Lib.hid (show (w.alloc (.cells #[.int .i64 p, (.slice A l.length cap)] 35)).heap.size = w.heap.size + 1 by simp)
    have hnew := box_new w p (.slice A l.length cap) 35
    have BX_1 := Lib.hid hnew
    clear hnew
    have Z2 := Lib.hid (within_alloc (w.alloc (.cells #[.int .i64 p, (.slice A l.length cap)] 35)) (.cells #[(.slice none 0 0), (.slice none 0 0), (.slice none 0 0)] 30)).size
    have W2 := Lib.hid (within_on W1.out (within_alloc (w.alloc (.cells #[.int .i64 p, (.slice A l.length cap)] 35)) (.cells #[(.slice none 0 0), (.slice none 0 0), (.slice none 0 0)] 30)) W1.out.size (.inr (Nat.le_refl _)))
    have HB_2 := Lib.hid (HB_1.out.within (within_alloc (w.alloc (.cells #[.int .i64 p, (.slice A l.length cap)] 35)) (.cells #[(.slice none 0 0), (.slice none 0 0), (.slice none 0 0)] 30)) (by omega))
    have BX_2 := Lib.hid (BX_1.out.within (within_alloc (w.alloc (.cells #[.int .i64 p, (.slice A l.length cap)] 35)) (.cells #[(.slice none 0 0), (.slice none 0 0), (.slice none 0 0)] 30)) (by omega))
    have Y2 := Lib.hid (show ((w.alloc (.cells #[.int .i64 p, (.slice A l.length cap)] 35)).alloc (.cells #[(.slice none 0 0), (.slice none 0 0), (.slice none 0 0)] 30)).heap.size = (w.alloc (.cells #[.int .i64 p, (.slice A l.length cap)] 35)).heap.size + 1 by simp)
    have hnew := cel3_new (w.alloc (.cells #[.int .i64 p, (.slice A l.length cap)] 35)) (.slice none 0 0) (.slice none 0 0) (.slice none 0 0) 30
    rw [show (w.alloc (.cells #[.int .i64 p, (.slice A l.length cap)] 35)).heap.size = w.heap.size + 1 by simp] at hnew
    have GR_2 := Lib.hid hnew
    clear hnew
    go_enter Try.func31, Try.ntmps31
    obtain ⟨g0_0, g0_1, g0_2⟩ := BX_2.out
    go_wp2_with fail
    clear g0_0 g0_1 g0_2
    generalize ((w.alloc (.cells #[.int .i64 p, (.slice A l.length cap)] 35)).alloc (.cells #[(.slice none 0 0), (.slice none 0 0), (.slice none 0 0)] 30)) = w2 at *
    generalize (w.alloc (.cells #[.int .i64 p, (.slice A l.length cap)] 35)) = w1 at *
    refine (HNW _ HB_2.out.at).mono ?_
    rintro e w3 ⟨AF, cF, a, b, rfl, ho, ha1, hb1, hb⟩
    have Z3 := Lib.hid (within_of hb).size
    have W3 := Lib.hid (within_on W2.out (within_of hb) W2.out.size (.inr (Nat.le_refl _)))
    have HB_3 := Lib.hid (HB_2.out.within (within_of hb) (by omega))
    have BX_3 := Lib.hid (BX_2.out.within (within_of hb) (by omega))
    have GR_3 := Lib.hid (GR_2.out.within (within_of hb) (by omega))
    clear hb ho HNW ha1 hb1
    have Z4 := Lib.hid (within_alloc w3 (.cells #[(.slice AF (newF p k l).length cF), (.slice none 0 0), (.slice none 0 0)] 30)).size
    have W4 := Lib.hid (within_on W3.out (within_alloc w3 (.cells #[(.slice AF (newF p k l).length cF), (.slice none 0 0), (.slice none 0 0)] 30)) W3.out.size (.inr (Nat.le_refl _)))
    have HB_4 := Lib.hid (HB_3.out.within (within_alloc w3 (.cells #[(.slice AF (newF p k l).length cF), (.slice none 0 0), (.slice none 0 0)] 30)) (by omega))
    have BX_4 := Lib.hid (BX_3.out.within (within_alloc w3 (.cells #[(.slice AF (newF p k l).length cF), (.slice none 0 0), (.slice none 0 0)] 30)) (by omega))
    have GR_4 := Lib.hid (GR_3.out.within (within_alloc w3 (.cells #[(.slice AF (newF p k l).length cF), (.slice none 0 0), (.slice none 0 0)] 30)) (by omega))
    have Y4 := Lib.hid (show (w3.alloc (.cells #[(.slice AF (newF p k l).length cF), (.slice none 0 0), (.slice none 0 0)] 30)).heap.size = w3.heap.size + 1 by simp)
    have hnew := cel3_new w3 (.slice AF (newF p k l).length cF) (.slice none 0 0) (.slice none 0 0) 30
    have BP_4 := Lib.hid hnew
    clear hnew
    obtain ⟨g1_0, g1_1, g1_2⟩ := BX_4.out
    go_wp2_with fail
    clear g1_0 g1_1 g1_2
    generalize (w3.alloc (.cells #[(.slice AF (newF p k l).length cF), (.slice none 0 0), (.slice none 0 0)] 30)) = w4 at *
    refine (implRange k c _).mono ?_
    rintro e w9 ⟨rfl, rfl⟩
    rw [HRG.out]
    obtain ⟨g2_0, g2_1, g2_2, g2_3, g2_4, g2_5⟩ := GR_4.out.cells
    have Z5 := Lib.hid ((ret3 GR_4.out (.slice none 0 0) (.slice none 0 0) (.slice none 0 0)).2).size
    have W5 := Lib.hid (within_on W4.out ((ret3 GR_4.out (.slice none 0 0) (.slice none 0 0) (.slice none 0 0)).2) W4.out.size (by have := Z1.out; have := Z2.out; have := Z3.out; have := Z4.out; have := Z5.out; have := Y1.out; have := Y2.out; have := Y4.out; omega))
    have HB_5 := Lib.hid (HB_4.out.within ((ret3 GR_4.out (.slice none 0 0) (.slice none 0 0) (.slice none 0 0)).2) (by have := Z1.out; have := Z2.out; have := Z3.out; have := Z4.out; have := Z5.out; have := Y1.out; have := Y2.out; have := Y4.out; omega))
    have BX_5 := Lib.hid (BX_4.out.within ((ret3 GR_4.out (.slice none 0 0) (.slice none 0 0) (.slice none 0 0)).2) (by have := Z1.out; have := Z2.out; have := Z3.out; have := Z4.out; have := Z5.out; have := Y1.out; have := Y2.out; have := Y4.out; omega))
    have GR_5 := Lib.hid ((ret3 GR_4.out (.slice none 0 0) (.slice none 0 0) (.slice none 0 0)).1)
    have BP_5 := Lib.hid (BP_4.out.within ((ret3 GR_4.out (.slice none 0 0) (.slice none 0 0) (.slice none 0 0)).2) (by have := Z1.out; have := Z2.out; have := Z3.out; have := Z4.out; have := Z5.out; have := Y1.out; have := Y2.out; have := Y4.out; omega))
    obtain ⟨g3_0, g3_1, g3_2, g3_3, g3_4, g3_5⟩ := GR_5.out.cells
    go_wp2_with fail
    generalize (((w4.setCell ⟨w.heap.size + 1, 0, none⟩ (.slice none 0 0)).setCell ⟨w.heap.size + 1, 1, none⟩ (.slice none 0 0)).setCell ⟨w.heap.size + 1, 2, none⟩ (.slice none 0 0)) = w5 at *
    refine bodyPost_ret (v := .tuple #[pebV none 0 0 none 0 0 none 0 0, .bool false]) ?_ rfl ?_
    · simp [results, Try.results31, go_sem, g3_0, g3_1, g3_2]
    · rw [HR.out.1, HR.out.2]
      exact ⟨none, 0, none, 0, none, 0, rfl, own3_nil _ _ W5.out.size _ _ _ _ _ _, W5.out⟩
  obtain ⟨P, rfl⟩ : ∃ P : Nat, p = (P : Int) := ⟨p.toNat, by have := (newB_is hb1).1.1; omega⟩
  have HP := Lib.hid (And.intro hb1 hb2)
  have HRG := Lib.hid hb2
  have HR := Lib.hid (runV_yes hb1 hb2)
  have hnf : newF (P : Int) k l = (runN P k c l 0).1 := by unfold newF; rw [if_pos hb1, Int.toNat_natCast]; rfl
  have HNW : ∀ W : World, BarsAt W W.heap.size A l → Calls Try.prog 52 #[.agg #[.int .i64 (P : Int), .slice A l.length cap], .int .i64 k] W (NewOB W (runN P k c l 0).1 true) := fun W h => by have hc := implNewN (P : Int) k l A cap W h hn; rw [hb1, hnf] at hc; exact hc
  clear hb1 hb2 hnf
  have W0 := Lib.hid (Below.refl w.heap.size w)
  have HB_0 := Lib.hid (bars_in hl)
  clear hl
  have Z1 := Lib.hid (within_alloc w (.cells #[.int .i64 (P : Int), (.slice A l.length cap)] 35)).size
  have W1 := Lib.hid (within_on W0.out (within_alloc w (.cells #[.int .i64 (P : Int), (.slice A l.length cap)] 35)) W0.out.size (.inr (Nat.le_refl _)))
  have HB_1 := Lib.hid (HB_0.out.within (within_alloc w (.cells #[.int .i64 (P : Int), (.slice A l.length cap)] 35)) (by omega))
  have Y1 := Lib.hid (show (w.alloc (.cells #[.int .i64 (P : Int), (.slice A l.length cap)] 35)).heap.size = w.heap.size + 1 by simp)
  have hnew := box_new w (P : Int) (.slice A l.length cap) 35
  have BX_1 := Lib.hid hnew
  clear hnew
  have Z2 := Lib.hid (within_alloc (w.alloc (.cells #[.int .i64 (P : Int), (.slice A l.length cap)] 35)) (.cells #[(.slice none 0 0), (.slice none 0 0), (.slice none 0 0)] 30)).size
  have W2 := Lib.hid (within_on W1.out (within_alloc (w.alloc (.cells #[.int .i64 (P : Int), (.slice A l.length cap)] 35)) (.cells #[(.slice none 0 0), (.slice none 0 0), (.slice none 0 0)] 30)) W1.out.size (.inr (Nat.le_refl _)))
  have HB_2 := Lib.hid (HB_1.out.within (within_alloc (w.alloc (.cells #[.int .i64 (P : Int), (.slice A l.length cap)] 35)) (.cells #[(.slice none 0 0), (.slice none 0 0), (.slice none 0 0)] 30)) (by omega))
  have BX_2 := Lib.hid (BX_1.out.within (within_alloc (w.alloc (.cells #[.int .i64 (P : Int), (.slice A l.length cap)] 35)) (.cells #[(.slice none 0 0), (.slice none 0 0), (.slice none 0 0)] 30)) (by omega))
  have Y2 := Lib.hid (show ((w.alloc (.cells #[.int .i64 (P : Int), (.slice A l.length cap)] 35)).alloc (.cells #[(.slice none 0 0), (.slice none 0 0), (.slice none 0 0)] 30)).heap.size = (w.alloc (.cells #[.int .i64 (P : Int), (.slice A l.length cap)] 35)).heap.size + 1 by simp)
  have hnew := cel3_new (w.alloc (.cells #[.int .i64 (P : Int), (.slice A l.length cap)] 35)) (.slice none 0 0) (.slice none 0 0) (.slice none 0 0) 30
  rw [show (w.alloc (.cells #[.int .i64 (P : Int), (.slice A l.length cap)] 35)).heap.size = w.heap.size + 1 by simp] at hnew
  have GR_2 := Lib.hid hnew
  clear hnew
  go_enter Try.func31, Try.ntmps31
  obtain ⟨g0_0, g0_1, g0_2⟩ := BX_2.out
  go_wp2_with fail
  clear g0_0 g0_1 g0_2
  generalize ((w.alloc (.cells #[.int .i64 (P : Int), (.slice A l.length cap)] 35)).alloc (.cells #[(.slice none 0 0), (.slice none 0 0), (.slice none 0 0)] 30)) = w2 at *
  generalize (w.alloc (.cells #[.int .i64 (P : Int), (.slice A l.length cap)] 35)) = w1 at *
  refine (HNW _ HB_2.out.at).mono ?_
  rintro e w3 ⟨AF, cF, a, b, rfl, ho, ha1, hb1, hb⟩
  have Z3 := Lib.hid (within_of hb).size
  have W3 := Lib.hid (within_on W2.out (within_of hb) W2.out.size (.inr (Nat.le_refl _)))
  have HB_3 := Lib.hid (HB_2.out.within (within_of hb) (by omega))
  have BX_3 := Lib.hid (BX_2.out.within (within_of hb) (by omega))
  have GR_3 := Lib.hid (GR_2.out.within (within_of hb) (by omega))
  have OP_3 := Lib.hid (own_new ho (runN_zero HP.out.1))
  clear hb HNW
  have HAB := Lib.hid (And.intro ha1 hb1)
  clear ho ha1 hb1
  have Z4 := Lib.hid (within_alloc w3 (.cells #[(.slice AF (runN P k c l 0).1.length cF), (.slice none 0 0), (.slice none 0 0)] 30)).size
  have W4 := Lib.hid (within_on W3.out (within_alloc w3 (.cells #[(.slice AF (runN P k c l 0).1.length cF), (.slice none 0 0), (.slice none 0 0)] 30)) W3.out.size (.inr (Nat.le_refl _)))
  have HB_4 := Lib.hid (HB_3.out.within (within_alloc w3 (.cells #[(.slice AF (runN P k c l 0).1.length cF), (.slice none 0 0), (.slice none 0 0)] 30)) (by omega))
  have BX_4 := Lib.hid (BX_3.out.within (within_alloc w3 (.cells #[(.slice AF (runN P k c l 0).1.length cF), (.slice none 0 0), (.slice none 0 0)] 30)) (by omega))
  have GR_4 := Lib.hid (GR_3.out.within (within_alloc w3 (.cells #[(.slice AF (runN P k c l 0).1.length cF), (.slice none 0 0), (.slice none 0 0)] 30)) (by omega))
  have OP_4 := Lib.hid (OP_3.out.within (within_alloc w3 (.cells #[(.slice AF (runN P k c l 0).1.length cF), (.slice none 0 0), (.slice none 0 0)] 30)) (by omega))
  have Y4 := Lib.hid (show (w3.alloc (.cells #[(.slice AF (runN P k c l 0).1.length cF), (.slice none 0 0), (.slice none 0 0)] 30)).heap.size = w3.heap.size + 1 by simp)
  have hnew := cel3_new w3 (.slice AF (runN P k c l 0).1.length cF) (.slice none 0 0) (.slice none 0 0) 30
  have BP_4 := Lib.hid hnew
  clear hnew
  obtain ⟨g1_0, g1_1, g1_2⟩ := BX_4.out
  go_wp2_with fail
  clear g1_0 g1_1 g1_2
  generalize (w3.alloc (.cells #[(.slice AF (runN P k c l 0).1.length cF), (.slice none 0 0), (.slice none 0 0)] 30)) = w4 at *
  refine (implRange k c _).mono ?_
  rintro e w9 ⟨rfl, rfl⟩
  rw [HRG.out]
  have HN := Lib.hid (show RunI w w4 P A cap l w3.heap.size (a, b) (w4.heap.size, w4.heap.size) (w4.heap.size, w4.heap.size) AF none none cF 0 0 (runN P k c l 0) from RunI.mk0 BX_4.out GR_4.out BP_4.out OP_4.out HB_4.out W4.out (by have := HAB.out; have := Z1.out; have := Z2.out; have := Z3.out; have := Z4.out; have := Y1.out; have := Y2.out; have := Y4.out; omega) (by have := HAB.out; have := Z1.out; have := Z2.out; have := Z3.out; have := Z4.out; have := Y1.out; have := Y2.out; have := Y4.out; omega) (by have := HAB.out; have := Z1.out; have := Z2.out; have := Z3.out; have := Z4.out; have := Y1.out; have := Y2.out; have := Y4.out; omega) (by have := HAB.out; have := Z1.out; have := Z2.out; have := Z3.out; have := Z4.out; have := Y1.out; have := Y2.out; have := Y4.out; omega))
  obtain ⟨g2_0, g2_1, g2_2⟩ := BX_4.out
  go_wp2_with fail
  clear g2_0 g2_1 g2_2
  go_loopw [29] (fun i wr => ∃ j : Nat, j ≤ l.length ∧ i = .int .i64 j ∧ ∃ f t z AF AT AZ cF cT cZ, RunI w wr P A cap l w3.heap.size f t z AF AT AZ cF cT cZ (runN P k c l j)) (fun i _ => l.length - (intOf i).toNat)
  case atStart => exact ⟨0, Nat.zero_le _, rfl, _, _, _, _, _, _, _, _, _, HN.out⟩
  case round =>
    obtain ⟨j, hj, rfl, f, t, z, AF, AT, AZ, cF, cT, cZ, hst⟩ := hrel
    have HS := Lib.hid hst
    obtain ⟨_, g1, g2⟩ := hst.gb
    obtain ⟨c0, c1, c2, f0, f1, f2⟩ := hst.st.cells
    clear hst
    by_cases hlt : j < l.length
    · have hji : (j : Int) < (l.length : Int) := by omega
      go_wp2_with (go_at_call 83; refine (HS.out.call HP.out.1 HP.out.2 hlt).mono ?_; rintro e w5 ⟨r, f2, t2, z2, BF, BT, BZ, dF, dT, dZ, rfl, hs5⟩; have HS2 := Lib.hid hs5; clear hs5)
      go_roundw
      case rel => exact ⟨j + 1, by omega, by go_num, _, _, _, _, _, _, _, _, _, HS2.out⟩
      case measure => simp [intOf]; omega
    · obtain rfl : j = l.length := by omega
      obtain ⟨r0, r1, r2, q0, q1, q2⟩ := HS.out.rb.cells
      have h3 := ret3 HS.out.rb (.slice AF (runN P k c l l.length).1.length cF) (.slice AT (runN P k c l l.length).2.1.length cT) (.slice AZ (runN P k c l l.length).2.2.length cZ)
      obtain ⟨s0, s1, s2, _⟩ := h3.1.cells
      have HW := Lib.hid h3.2
      clear h3
      go_wp2_with fail
      refine bodyPost_ret (v := .tuple #[pebV AF (runN P k c l l.length).1.length cF AT (runN P k c l l.length).2.1.length cT AZ (runN P k c l l.length).2.2.length cZ, .bool true]) ?_ rfl ?_
      · simp [results, Try.results31, go_sem, s0, s1, s2]
      · have hlo := HS.out.lo
        have hz := HW.out.size
        have hhi := HS.out.own.hi
        have hbs := HS.out.bel.size
        rw [HR.out.1, HR.out.2]
        have hown := HS.out.own.own3 (lo := w.heap.size + 2) ⟨hlo.2.1, hhi.1⟩ ⟨hlo.2.2.1, hhi.2.1⟩ ⟨hlo.2.2.2, hhi.2.2⟩ (Nat.le_refl _)
        exact ⟨AF, cF, AT, cT, AZ, cZ, rfl, (hown.within HW.out (.inr (Nat.le_refl _))).widen (by omega) hz (Nat.le_refl _), within_on HS.out.bel HW.out hbs (.inl (by omega))⟩
end Go.Proofs.Ytgmcibcjplncaaa
/- What impl.RankOf answers. No condition. -/
namespace Go.Proofs.Ytgmcibcjplncaaa
open Go.RowKit

set_option maxHeartbeats 2000000 in
set_option maxRecDepth 100000 in
theorem implRank (p k c : Int) (l : List (Int × Int)) (A : Option Addr) (cap : Nat) (w : World) (hl : BarsAt w w.heap.size A l) (hn : l.length ≤ 1048576) :
    Calls Try.prog 56 #[.agg #[.int .i64 p, .slice A l.length cap], .int .i64 k, .int .i64 c] w fun e w' => e = .returned (.int .i64 (rankV p k c l)) ∧ Below w.heap.size w w' := by
  obtain ⟨rv, hrv⟩ : ∃ rv, rankV p k c l = rv := ⟨_, rfl⟩
  rw [hrv]
  unfold rankV at hrv
  cases hb : runB p k c l with
  | false =>
    have HRV := Lib.hid (show rv = -1 from by rw [← hrv, hb]; rfl)
    clear hrv
    have HNW : ∀ W : World, BarsAt W W.heap.size A l → Calls Try.prog 31 #[.agg #[.int .i64 p, .slice A l.length cap], .int .i64 k, .int .i64 c] W (PebOB W (runV p k c l).1 (runV p k c l).2.1 (runV p k c l).2.2 false) := fun W h => by have hc := implRunP p k c l A cap W h hn; rw [hb] at hc; exact hc
    clear hb
    have W0 := Lib.hid (Below.refl w.heap.size w)
    have HB_0 := Lib.hid (bars_in hl)
    clear hl
    have Z1 := Lib.hid (within_alloc w (.cells #[.int .i64 p, (.slice A l.length cap)] 35)).size
    have W1 := Lib.hid (within_on W0.out (within_alloc w (.cells #[.int .i64 p, (.slice A l.length cap)] 35)) W0.out.size (.inr (Nat.le_refl _)))
    have HB_1 := Lib.hid (HB_0.out.within (within_alloc w (.cells #[.int .i64 p, (.slice A l.length cap)] 35)) (by omega))
    have Y1 := Lib.hid (show (w.alloc (.cells #[.int .i64 p, (.slice A l.length cap)] 35)).heap.size = w.heap.size + 1 by simp)
    have hnew := box_new w p (.slice A l.length cap) 35
    have BX_1 := Lib.hid hnew
    clear hnew
    go_enter Try.func56, Try.ntmps56
    obtain ⟨g0_0, g0_1, g0_2⟩ := BX_1.out
    go_wp2_with fail
    clear g0_0 g0_1 g0_2
    generalize (w.alloc (.cells #[.int .i64 p, (.slice A l.length cap)] 35)) = w1 at *
    refine (HNW _ HB_1.out.at).mono ?_
    rintro e w2 ⟨AF, cF, AT, cT, AZ, cZ, rfl, ho, hb⟩
    have Z2 := Lib.hid (within_of hb).size
    have W2 := Lib.hid (within_on W1.out (within_of hb) W1.out.size (.inr (Nat.le_refl _)))
    have HB_2 := Lib.hid (HB_1.out.within (within_of hb) (by omega))
    have BX_2 := Lib.hid (BX_1.out.within (within_of hb) (by omega))
    have OP_2 := Lib.hid (ho)
    clear ho hb
    have Z3 := Lib.hid (within_alloc w2 (.cells #[(.slice AF (runV p k c l).1.length cF), (.slice AT (runV p k c l).2.1.length cT), (.slice AZ (runV p k c l).2.2.length cZ)] 30)).size
    have W3 := Lib.hid (within_on W2.out (within_alloc w2 (.cells #[(.slice AF (runV p k c l).1.length cF), (.slice AT (runV p k c l).2.1.length cT), (.slice AZ (runV p k c l).2.2.length cZ)] 30)) W2.out.size (.inr (Nat.le_refl _)))
    have HB_3 := Lib.hid (HB_2.out.within (within_alloc w2 (.cells #[(.slice AF (runV p k c l).1.length cF), (.slice AT (runV p k c l).2.1.length cT), (.slice AZ (runV p k c l).2.2.length cZ)] 30)) (by omega))
    have BX_3 := Lib.hid (BX_2.out.within (within_alloc w2 (.cells #[(.slice AF (runV p k c l).1.length cF), (.slice AT (runV p k c l).2.1.length cT), (.slice AZ (runV p k c l).2.2.length cZ)] 30)) (by omega))
    have OP_3 := Lib.hid (OP_2.out.within (within_alloc w2 (.cells #[(.slice AF (runV p k c l).1.length cF), (.slice AT (runV p k c l).2.1.length cT), (.slice AZ (runV p k c l).2.2.length cZ)] 30)) (by omega))
    have Y3 := Lib.hid (show (w2.alloc (.cells #[(.slice AF (runV p k c l).1.length cF), (.slice AT (runV p k c l).2.1.length cT), (.slice AZ (runV p k c l).2.2.length cZ)] 30)).heap.size = w2.heap.size + 1 by simp)
    have hnew := cel3_new w2 (.slice AF (runV p k c l).1.length cF) (.slice AT (runV p k c l).2.1.length cT) (.slice AZ (runV p k c l).2.2.length cZ) 30
    have BP_3 := Lib.hid hnew
    clear hnew
    obtain ⟨g1_0, g1_1, g1_2, g1_3, g1_4, g1_5⟩ := BP_3.out.cells
    go_wp2_with fail
    clear g1_0 g1_1 g1_2 g1_3 g1_4 g1_5
    generalize (w2.alloc (.cells #[(.slice AF (runV p k c l).1.length cF), (.slice AT (runV p k c l).2.1.length cT), (.slice AZ (runV p k c l).2.2.length cZ)] 30)) = w3 at *
    go_ret
    exact ⟨by rw [HRV.out]; rfl, W3.out⟩
  | true =>
    have HRV := Lib.hid (show rv = (((runV p k c l).2.2.length : Nat) : Int) from by rw [← hrv, hb]; rfl)
    clear hrv
    have HNW : ∀ W : World, BarsAt W W.heap.size A l → Calls Try.prog 31 #[.agg #[.int .i64 p, .slice A l.length cap], .int .i64 k, .int .i64 c] W (PebOB W (runV p k c l).1 (runV p k c l).2.1 (runV p k c l).2.2 true) := fun W h => by have hc := implRunP p k c l A cap W h hn; rw [hb] at hc; exact hc
    clear hb
    have W0 := Lib.hid (Below.refl w.heap.size w)
    have HB_0 := Lib.hid (bars_in hl)
    clear hl
    have Z1 := Lib.hid (within_alloc w (.cells #[.int .i64 p, (.slice A l.length cap)] 35)).size
    have W1 := Lib.hid (within_on W0.out (within_alloc w (.cells #[.int .i64 p, (.slice A l.length cap)] 35)) W0.out.size (.inr (Nat.le_refl _)))
    have HB_1 := Lib.hid (HB_0.out.within (within_alloc w (.cells #[.int .i64 p, (.slice A l.length cap)] 35)) (by omega))
    have Y1 := Lib.hid (show (w.alloc (.cells #[.int .i64 p, (.slice A l.length cap)] 35)).heap.size = w.heap.size + 1 by simp)
    have hnew := box_new w p (.slice A l.length cap) 35
    have BX_1 := Lib.hid hnew
    clear hnew
    go_enter Try.func56, Try.ntmps56
    obtain ⟨g0_0, g0_1, g0_2⟩ := BX_1.out
    go_wp2_with fail
    clear g0_0 g0_1 g0_2
    generalize (w.alloc (.cells #[.int .i64 p, (.slice A l.length cap)] 35)) = w1 at *
    refine (HNW _ HB_1.out.at).mono ?_
    rintro e w2 ⟨AF, cF, AT, cT, AZ, cZ, rfl, ho, hb⟩
    have Z2 := Lib.hid (within_of hb).size
    have W2 := Lib.hid (within_on W1.out (within_of hb) W1.out.size (.inr (Nat.le_refl _)))
    have HB_2 := Lib.hid (HB_1.out.within (within_of hb) (by omega))
    have BX_2 := Lib.hid (BX_1.out.within (within_of hb) (by omega))
    have OP_2 := Lib.hid (ho)
    clear ho hb
    have Z3 := Lib.hid (within_alloc w2 (.cells #[(.slice AF (runV p k c l).1.length cF), (.slice AT (runV p k c l).2.1.length cT), (.slice AZ (runV p k c l).2.2.length cZ)] 30)).size
    have W3 := Lib.hid (within_on W2.out (within_alloc w2 (.cells #[(.slice AF (runV p k c l).1.length cF), (.slice AT (runV p k c l).2.1.length cT), (.slice AZ (runV p k c l).2.2.length cZ)] 30)) W2.out.size (.inr (Nat.le_refl _)))
    have HB_3 := Lib.hid (HB_2.out.within (within_alloc w2 (.cells #[(.slice AF (runV p k c l).1.length cF), (.slice AT (runV p k c l).2.1.length cT), (.slice AZ (runV p k c l).2.2.length cZ)] 30)) (by omega))
    have BX_3 := Lib.hid (BX_2.out.within (within_alloc w2 (.cells #[(.slice AF (runV p k c l).1.length cF), (.slice AT (runV p k c l).2.1.length cT), (.slice AZ (runV p k c l).2.2.length cZ)] 30)) (by omega))
    have OP_3 := Lib.hid (OP_2.out.within (within_alloc w2 (.cells #[(.slice AF (runV p k c l).1.length cF), (.slice AT (runV p k c l).2.1.length cT), (.slice AZ (runV p k c l).2.2.length cZ)] 30)) (by omega))
    have Y3 := Lib.hid (show (w2.alloc (.cells #[(.slice AF (runV p k c l).1.length cF), (.slice AT (runV p k c l).2.1.length cT), (.slice AZ (runV p k c l).2.2.length cZ)] 30)).heap.size = w2.heap.size + 1 by simp)
    have hnew := cel3_new w2 (.slice AF (runV p k c l).1.length cF) (.slice AT (runV p k c l).2.1.length cT) (.slice AZ (runV p k c l).2.2.length cZ) 30
    have BP_3 := Lib.hid hnew
    clear hnew
    obtain ⟨g1_0, g1_1, g1_2, g1_3, g1_4, g1_5⟩ := BP_3.out.cells
    go_wp2_with fail
    clear g1_0 g1_1 g1_2 g1_3 g1_4 g1_5
    generalize (w2.alloc (.cells #[(.slice AF (runV p k c l).1.length cF), (.slice AT (runV p k c l).2.1.length cT), (.slice AZ (runV p k c l).2.2.length cZ)] 30)) = w3 at *
    go_ret
    exact ⟨by rw [HRV.out]; rfl, W3.out⟩
end Go.Proofs.Ytgmcibcjplncaaa
/- What ReachOf answers, and what stands while it is sought; rows of bools. No program's walk. No condition. -/
namespace Go.Proofs.Ytgmcibcjplncaaa
open Go.RowKit

def startF (V : Nat) : Nat → Bool := fun u => decide (u = V)
/-- The points that are reached from v. -/
noncomputable def reachL (p : Int) (l : List (Int × Int)) (v : Int) : List Int := if (isGB p l && (decide (0 ≤ v) && decide (v < p))) = true then outF p.toNat (iterF l p.toNat (startF v.toNat)) else []
theorem reachL_no {p v : Int} {l : List (Int × Int)} (h : isGB p l = false ∨ v < 0 ∨ p ≤ v) : reachL p l v = [] := by
  unfold reachL
  rw [if_neg]
  intro k
  simp only [Bool.and_eq_true, decide_eq_true_eq] at k
  rcases h with h | h | h
  · rw [h] at k; cases k.1
  · omega
  · omega
theorem reachL_yes {P V : Nat} {l : List (Int × Int)} (h : isGB (P : Int) l = true) (hv : V < P) : reachL P l V = outF P (iterF l P (startF V)) := by
  unfold reachL
  rw [if_pos]
  · rfl
  · rw [h]; simp; omega
theorem reachL_len (p v : Int) (l : List (Int × Int)) : (reachL p l v).length ≤ 8 := by
  unfold reachL
  split
  · rename_i h
    simp only [Bool.and_eq_true] at h
    have : IsG p l := by
      refine Classical.byContradiction fun g => ?_
      rw [isGB_no g] at h
      cases h.1
    exact Nat.le_trans (outF_len _ _) (by have := this.1; omega)
  · simp
theorem infoBool : (Try.prog.info? 4).map (fun i => (i.zero, i.size, i.bytes)) = some (some (.bool false), 1, 1) := by kernel_rfl
def boolCells (n : Nat) (S : Nat → Bool) : List Value := (rowB n S).map Value.bool
theorem boolCells_none (n : Nat) : List.replicate n (Value.bool false) = boolCells n (fun _ => false) := by
  apply List.ext_getElem?
  intro i
  by_cases hi : i < n
  · simp [boolCells, rowB, hi]
  · rw [List.getElem?_eq_none (by simp; omega), List.getElem?_eq_none (by simp [boolCells, rowB]; omega)]
theorem boolCells_start (n V : Nat) : (boolCells n (fun _ => false)).set V (.bool true) = boolCells n (startF V) := by
  unfold boolCells
  rw [← List.map_set]
  congr 1
  apply List.ext_getElem?
  intro i
  by_cases hi : i < n
  · rw [rowB_get _ _ _ hi, List.getElem?_set, rowB_get _ _ _ hi]
    simp only [rowB_len, startF]
    by_cases h : V = i
    · subst h; simp [hi]
    · have h' : ¬ i = V := fun e => h e.symm
      simp [h, h']
  · rw [List.getElem?_eq_none (by simp [rowB_len]; omega), List.getElem?_eq_none (by simp [rowB_len]; omega)]
theorem boolCells_get (n : Nat) (S : Nat → Bool) (v : Nat) (h : v < n) : (boolCells n S)[v]? = some (.bool (S v)) := by
  unfold boolCells
  rw [List.getElem?_map, rowB_get n S v h]
  rfl
theorem boolCells_set (n : Nat) (S : Nat → Bool) (x : Int × Int) (c : Bool) (h : (S x.1.toNat || S x.2.toNat) = c) :
    ((boolCells n S).set x.1.toNat (.bool c)).set x.2.toNat (.bool c) = boolCells n (relaxF S x) := by
  unfold boolCells
  rw [← List.map_set, ← List.map_set, ← h, rowB_set]
theorem fold_step (l : List (Int × Int)) (S : Nat → Bool) (j : Nat) (h : j < l.length) : (l.take (j + 1)).foldl relaxF S = relaxF ((l.take j).foldl relaxF S) (l.getD j (0, 0)) := by
  rw [take_getD l (0, 0) j h, List.foldl_append]
  rfl

/-- Where the walk of spec.ReachOf stands: the row of what is reached, the empty row of answers, the graph in its box. -/
def ReachSt (w wr : World) (P : Nat) (n : Nat) (A : Option Addr) (cap gs : Nat) (S : Nat → Bool) : Prop :=
  wr.ownsRow w.heap.size 4 1 (.slice (some ⟨gs, 0, none⟩) P P) P (boolCells P S) ∧ Box wr w.heap.size (P : Int) (.slice A n cap) ∧ wr.ownsRow w.heap.size 3 1 (.slice (some ⟨w.heap.size + 1, 0, none⟩) 0 0) 0 [] ∧ Below w.heap.size w wr ∧ w.heap.size + 1 < gs
theorem ReachSt.set {w wr : World} {P n : Nat} {A : Option Addr} {cap gs : Nat} {S S' : Nat → Bool} (h : ReachSt w wr P n A cap gs S) (a b : Nat) (u u' : Value) (hs : ((boolCells P S).set a u).set b u' = boolCells P S') : ReachSt w ((wr.setCell ⟨gs, a, none⟩ u).setCell ⟨gs, b, none⟩ u') P n A cap gs S' := by
  obtain ⟨h1, h2, h3, h4, h5⟩ := h
  have s1 := h1.stored a u
  have s2 := s1.1.stored b u'
  have hg := s1.2.trans_ s2.2
  rw [hs] at s2
  have hlt := h1.lt gs rfl
  exact ⟨s2.1, h2.grown hg (by omega), h3.kept hg (.inr (by simp [Value.ownBlock]; omega)), h4.grown hg (Nat.le_trans h4.size (Nat.le_refl _)) (fun k hk => by cases hk; exact hlt.1), h5⟩

theorem ReachSt.set1 {w wr : World} {P n : Nat} {A : Option Addr} {cap gs : Nat} {S S' : Nat → Bool} (h : ReachSt w wr P n A cap gs S) (a : Nat) (u : Value) (hs : (boolCells P S).set a u = boolCells P S') : ReachSt w (wr.setCell ⟨gs, a, none⟩ u) P n A cap gs S' := by
  obtain ⟨h1, h2, h3, h4, h5⟩ := h
  have s1 := h1.stored a u
  rw [hs] at s1
  have hlt := h1.lt gs rfl
  exact ⟨s1.1, h2.grown s1.2 (by omega), h3.kept s1.2 (.inr (by simp [Value.ownBlock]; omega)), h4.grown s1.2 (Nat.le_trans h4.size (Nat.le_refl _)) (fun k hk => by cases hk; exact hlt.1), h5⟩
theorem ReachSt.start {w w2 w3 : World} {P n : Nat} {A : Option Addr} {cap : Nat} (hb : Below w.heap.size w w2) (hx : Box w2 w.heap.size (P : Int) (.slice A n cap)) (ho : w2.ownsRow w.heap.size 3 1 (.slice (some ⟨w.heap.size + 1, 0, none⟩) 0 0) 0 []) (hs : w.heap.size + 1 < w2.heap.size)
    (hown3 : w3.ownsRow w2.heap.size 4 1 (.slice (some ⟨w2.heap.size, 0, none⟩) P P) P (List.replicate P (.bool false))) (hb3 : Below w2.heap.size w2 w3) : ReachSt w w3 P n A cap w2.heap.size (fun _ => false) := by
  rw [boolCells_none] at hown3
  exact ⟨own_base hown3 hb.size, hx.kept hb3, own_below ho hb3, below_on hb hb3 hb.size, hs⟩

/-- Where the walk stands that collects the answers. -/
def OutSt (w wr : World) (P n : Nat) (A : Option Addr) (cap gs : Nat) (S : Nat → Bool) (k : Nat) (A' : Option Addr) (c' : Nat) : Prop :=
  wr.ownsRow w.heap.size 3 1 (.slice A' (outF k S).length c') (outF k S).length (intCells (outF k S)) ∧ (∀ a, A' = some a → a.block ≠ gs ∧ a.block ≠ w.heap.size) ∧ wr.ownsRow w.heap.size 4 1 (.slice (some ⟨gs, 0, none⟩) P P) P (boolCells P S) ∧ Box wr w.heap.size (P : Int) (.slice A n cap) ∧ Below w.heap.size w wr
theorem ReachSt.out {w wr : World} {P n : Nat} {A : Option Addr} {cap gs : Nat} {S : Nat → Bool} (h : ReachSt w wr P n A cap gs S) : OutSt w wr P n A cap gs S 0 (some ⟨w.heap.size + 1, 0, none⟩) 0 :=
  ⟨h.2.2.1, fun a e => by cases e; exact ⟨by have := h.2.2.2.2; show w.heap.size + 1 ≠ gs; omega, by show w.heap.size + 1 ≠ w.heap.size; omega⟩, h.1, h.2.1, h.2.2.2.1⟩
theorem OutSt.no {w wr : World} {P n : Nat} {A : Option Addr} {cap gs : Nat} {S : Nat → Bool} {k : Nat} {A' : Option Addr} {c' : Nat} (h : OutSt w wr P n A cap gs S k A' c') (hs : S k = false) : OutSt w wr P n A cap gs S (k + 1) A' c' := by
  have e : outF (k + 1) S = outF k S := by rw [outF_succ, hs]; simp
  unfold OutSt at *
  rw [e]
  exact h
theorem OutSt.yes {w wr w' : World} {P n : Nat} {A : Option Addr} {cap gs : Nat} {S : Nat → Bool} {k : Nat} {A' A2 : Option Addr} {c' c2 : Nat} (h : OutSt w wr P n A cap gs S k A' c') (hs : S k = true)
    (ho : w'.ownsRow w.heap.size 3 1 (.slice A2 ((outF k S).length + 1) c2) ((outF k S).length + 1) (intCells (outF k S) ++ [.int .i64 k])) (hg : wr.grownBy w' (Value.slice A' (outF k S).length c').ownBlock)
    (hat : (Value.slice A2 ((outF k S).length + 1) c2).ownBlock = (Value.slice A' (outF k S).length c').ownBlock ∨ (Value.slice A2 ((outF k S).length + 1) c2).ownBlock = some (wr.heap.size + 1)) : OutSt w w' P n A cap gs S (k + 1) A2 c2 := by
  have e : outF (k + 1) S = outF k S ++ [(k : Int)] := by rw [outF_succ, hs]; simp
  have e2 : (outF (k + 1) S).length = (outF k S).length + 1 := by rw [e]; simp
  obtain ⟨h1, h2, h3, h4, h5⟩ := h
  have hgs := h3.lt gs rfl
  have hob : ∀ g, (Value.slice A' (outF k S).length c').ownBlock = some g → g ≠ gs ∧ g ≠ w.heap.size := fun g hgg => by
    cases A' with
    | none => cases hgg
    | some a => cases hgg; exact h2 a rfl
  unfold OutSt
  rw [e2, e]
  refine ⟨by rw [show intCells (outF k S ++ [(k : Int)]) = intCells (outF k S) ++ [.int .i64 k] by simp [intCells]]; exact ho, fun a ea => ?_, h3.kept hg ?_, ?_, h5.grown hg (Nat.le_trans h5.size (Nat.le_refl _)) fun g hgg => (h1.lt g hgg).1⟩
  · subst ea
    rcases hat with hat | hat
    · exact hob a.block hat.symm
    · have hat' : a.block = wr.heap.size + 1 := by simpa [Value.ownBlock] using hat
      have := h4.1
      exact ⟨by omega, by omega⟩
  · refine .inr fun hc => ?_
    exact (hob gs hc.symm).1 rfl
  · refine ⟨Nat.lt_of_lt_of_le h4.1 hg.size, ?_, ?_⟩
    · exact (World.cell?_of_block (hg.block w.heap.size h4.1 fun hc => (hob _ hc.symm).2 rfl)).trans h4.2.1
    · exact (World.cell?_of_block (a := ⟨w.heap.size, 1, none⟩) (hg.block w.heap.size h4.1 fun hc => (hob _ hc.symm).2 rfl)).trans h4.2.2
end Go.Proofs.Ytgmcibcjplncaaa
/- What the program's OnlyBars answers: the same as the specification's. No condition. -/
namespace Go.Proofs.Ytgmcibcjplncaaa
open Go.RowKit

theorem inS_step (zs : List Int) (j : Nat) (h : j < zs.length) (u : Nat) : inS (zs.take (j + 1)) u = (inS (zs.take j) u || decide ((u : Int) = zs.getD j 0)) := by
  unfold inS
  rw [take_getD zs 0 j h]
  simp [List.mem_append]
theorem boolCells_same (n : Nat) (S T : Nat → Bool) (h : ∀ u, u < n → S u = T u) : boolCells n S = boolCells n T := by
  unfold boolCells rowB
  congr 1
  exact List.map_congr_left fun u hu => h u (List.mem_range.1 hu)
theorem boolCells_one (n : Nat) (S : Nat → Bool) (a : Nat) : (boolCells n S).set a (.bool true) = boolCells n (fun u => S u || decide (u = a)) := by
  unfold boolCells
  rw [← List.map_set]
  congr 1
  apply List.ext_getElem?
  intro i
  by_cases hi : i < n
  · rw [rowB_get _ _ _ hi, List.getElem?_set, rowB_get _ _ _ hi]
    simp only [rowB_len]
    by_cases h : a = i
    · subst h; simp [hi]
    · have h' : ¬ i = a := fun e => h e.symm
      simp [h, h']
  · rw [List.getElem?_eq_none (by simp [rowB_len]; omega), List.getElem?_eq_none (by simp [rowB_len]; omega)]

set_option maxHeartbeats 4000000 in
set_option maxRecDepth 100000 in
theorem implOnly (p : Int) (l : List (Int × Int)) (zs : List Int) (A Z : Option Addr) (cap cz lo hi : Nat) (w : World) (hl : BarsAt w w.heap.size A l) (hz : IntsIn w lo hi Z zs) (hn : l.length ≤ 1048576) (hnz : zs.length ≤ 1048576) :
    Calls Try.prog 113 #[.agg #[.int .i64 p, .slice A l.length cap], .slice Z zs.length cz] w (GraphO w p (onlyL l zs)) := by
  have hA1 := new_below w (.cells #[.int .i64 p, .slice A l.length cap] 35)
  have hA2 := new_below (w.alloc (.cells #[.int .i64 p, .slice A l.length cap] 35)) (.cells #[.int .i64 0, .slice none 0 0] 35)
  have hsz1 : (w.alloc (.cells #[.int .i64 p, .slice A l.length cap] 35)).heap.size = w.heap.size + 1 := by simp
  have hsz2 : ((w.alloc (.cells #[.int .i64 p, .slice A l.length cap] 35)).alloc (.cells #[.int .i64 0, .slice none 0 0] 35)).heap.size = w.heap.size + 2 := by simp
  have HA := Lib.hid (below_on hA1 hA2 hA1.size)
  have HLW := Lib.hid hl
  have HZW := Lib.hid hz
  have hB := (box_new w p (.slice A l.length cap) 35).kept hA2
  have BX := Lib.hid hB
  have hR := box_new (w.alloc (.cells #[.int .i64 p, .slice A l.length cap] 35)) 0 (.slice none 0 0) 35
  have hF : ((w.alloc (.cells #[.int .i64 p, .slice A l.length cap] 35)).alloc (.cells #[.int .i64 0, .slice none 0 0] 35)).frozen? ⟨(w.alloc (.cells #[.int .i64 p, .slice A l.length cap] 35)).heap.size, 0, none⟩ = false ∧ ((w.alloc (.cells #[.int .i64 p, .slice A l.length cap] 35)).alloc (.cells #[.int .i64 0, .slice none 0 0] 35)).frozen? ⟨(w.alloc (.cells #[.int .i64 p, .slice A l.length cap] 35)).heap.size, 1, none⟩ = false := ⟨World.frozen?_alloc_at _ _ _ _ rfl, World.frozen?_alloc_at _ _ _ _ rfl⟩
  rw [hsz1] at hR hF
  have HR := Lib.hid hR
  have HF := Lib.hid hF
  have HSZ := Lib.hid hsz2
  clear hl hz hA1 hA2 hsz1 hR hF hsz2
  go_enter Try.func113, Try.ntmps113
  obtain ⟨_, g1, g2⟩ := hB
  go_wp2_with (at_make; generalize ((w.alloc (.cells #[.int .i64 p, .slice A l.length cap] 35)).alloc (.cells #[.int .i64 0, .slice none 0 0] 35)) = w1 at *; refine wpList_mkn _ rfl _ _ 135 rfl w1.heap.size 4 (.bool false) 1 Try.underlying135 infoBool rfl _ _ _ _ l.length rfl rfl rfl rfl (by omega) (by unfold maxLen; omega) (Nat.le_refl _) ?_; intro w2 hown2 hb2; have HO2 := Lib.hid hown2; have HB2 := Lib.hid hb2; clear hown2 hb2)
  clear g1 g2
  go_loopw [17] (fun i wr => ∃ j : Nat, j ≤ zs.length ∧ i = .int .i64 j ∧ wr.ownsRow w1.heap.size 4 1 (.slice (some ⟨w1.heap.size, 0, none⟩) l.length l.length) l.length (boolCells l.length (inS (zs.take j))) ∧ Below w1.heap.size w1 wr) (fun i _ => zs.length - (intOf i).toNat)
  case atStart => exact ⟨0, by omega, rfl, by have := HO2.out; rw [boolCells_none] at this; rw [boolCells_same _ _ (fun _ => false) (fun u _ => by simp [inS])]; exact this, HB2.out⟩
  case round =>
    obtain ⟨j, hj, rfl, hown, hb⟩ := hrel
    have HB := Lib.hid hb
    have HO := Lib.hid hown
    have hbs := hb.size
    clear hb
    by_cases hlt : j < zs.length
    · have hij : (j : Int) < (zs.length : Int) := by omega
      obtain ⟨bz, oz, rfl, hz1, hz2, hcell⟩ := HZW.out.2 (by omega)
      have hbz : bz < w.heap.size := Nat.lt_of_lt_of_le hz2 HZW.out.1
      have hc := ((below_on HA.out HB.out HA.out.size).cell (p := ⟨bz, oz + j, none⟩) hbz).trans (hcell j hlt)
      clear hcell
      have HS := Lib.hid (inS_step zs j hlt)
      obtain ⟨z, hz⟩ : ∃ z, zs.getD j 0 = z := ⟨_, rfl⟩
      rw [hz] at hc HS
      clear hz
      by_cases h0 : 0 ≤ z
      · by_cases h1 : z < (l.length : Int)
        · obtain ⟨a, rfl⟩ : ∃ a : Nat, z = (a : Int) := ⟨z.toNat, by omega⟩
          have han : a < l.length := by omega
          have hca := (hown.cellAt a (by omega)).trans (boolCells_get l.length _ a han)
          have hfa := hown.frozenAt a
          have hst := hown.stored a (.bool true)
          have HB3 := Lib.hid (HB.out.grown hst.2 hbs fun g e => by cases e; exact Nat.le_refl _)
          have ho3 := hst.1
          rw [boolCells_one _ _ a] at ho3
          have HO3 := Lib.hid ho3
          have HE := Lib.hid (boolCells_same l.length (inS (zs.take (j + 1))) (fun u => inS (zs.take j) u || decide (u = a)) fun u _ => by rw [HS.out u]; congr 1; simp; omega)
          clear hown hst ho3
          go_wp2_with fail
          go_roundw
          case rel => exact ⟨j + 1, by omega, by go_num, by rw [HE.out]; exact HO3.out, HB3.out⟩
          case measure => simp [intOf]; omega
        · have HE := Lib.hid (boolCells_same l.length (inS (zs.take (j + 1))) (inS (zs.take j)) fun u hu => by rw [HS.out u, decide_eq_false (by omega), Bool.or_false])
          clear hown
          go_wp2_with fail
          go_roundw
          case rel => exact ⟨j + 1, by omega, by go_num, by rw [HE.out]; exact HO.out, HB.out⟩
          case measure => simp [intOf]; omega
      · have HE := Lib.hid (boolCells_same l.length (inS (zs.take (j + 1))) (inS (zs.take j)) fun u hu => by rw [HS.out u, decide_eq_false (by omega), Bool.or_false])
        clear hown
        go_wp2_with fail
        go_roundw
        case rel => exact ⟨j + 1, by omega, by go_num, by rw [HE.out]; exact HO.out, HB.out⟩
        case measure => simp [intOf]; omega
    · obtain rfl : j = zs.length := by omega
      obtain ⟨wq, rfl⟩ : ∃ x, x = wr := ⟨wr, rfl⟩
      have hown' := HO.out
      rw [List.take_length] at hown'
      have HOK := Lib.hid hown'
      have hlt1 : w1.heap.size < wq.heap.size := (hown'.lt _ rfl).2
      have HG := Lib.hid (gbox_nil wq w.heap.size [w.heap.size, w.heap.size + 1, w1.heap.size] p (Nat.le_trans HA.out.size hbs) (fun o ho => by have := HSZ.out; simp at ho; omega))
      have BXR := Lib.hid (BX.out.kept HB.out)
      have HRR := Lib.hid (HR.out.kept HB.out)
      have HFR := Lib.hid (show wq.frozen? ⟨w.heap.size + 1, 0, none⟩ = false ∧ wq.frozen? ⟨w.heap.size + 1, 1, none⟩ = false from ⟨(HB.out.frozen (p := ⟨w.heap.size + 1, 0, none⟩) HR.out.1).trans HF.out.1, (HB.out.frozen (p := ⟨w.heap.size + 1, 1, none⟩) HR.out.1).trans HF.out.2⟩)
      have HAW := Lib.hid (below_on HA.out HB.out HA.out.size)
      obtain ⟨_, g1, g2⟩ := BXR.out
      clear hown hown' hlt
      go_wp2_with fail
      clear g1 g2
      go_loopw [39] (fun i wr => ∃ k : Nat, k ≤ l.length ∧ i = .int .i64 k ∧ ∃ A' c', GBox w.heap.size wq wr wq.heap.size [w.heap.size, w.heap.size + 1, w1.heap.size] p A' c' (onlyK l (inS zs) k)) (fun i _ => l.length - (intOf i).toNat)
      case atStart => exact ⟨0, by omega, rfl, _, _, HG.out⟩
      case round =>
        obtain ⟨k, hk, rfl, A', c', hst⟩ := hrel
        have HST := Lib.hid hst
        have HBW := Lib.hid (HAW.out.trans hst.2.2.2.2.2.1)
        have hbs' : w.heap.size ≤ wr.heap.size := Nat.le_of_lt (Nat.lt_of_le_of_lt hst.2.2.2.2.2.2 hst.1.1)
        clear hst
        by_cases hlt : k < l.length
        · have hik : (k : Int) < (l.length : Int) := by omega
          obtain ⟨b0, off, rfl, hbB, hcell⟩ := HLW.out (by omega)
          have hc1 := (HBW.out.cell (p := ⟨b0, off + k * 2, none⟩) hbB).trans (hcell k hlt).1
          have hc2 := (HBW.out.cell (p := ⟨b0, off + k * 2 + 1, none⟩) hbB).trans (hcell k hlt).2
          obtain ⟨x, hx⟩ : ∃ x, l.getD k (0, 0) = x := ⟨_, rfl⟩
          rw [hx] at hc1 hc2
          obtain ⟨x1, x2⟩ := x
          simp only at hc1 hc2
          clear hcell
          have hal := new_below wr (.cells #[.int .i64 x1, .int .i64 x2] 89)
          have HSA := Lib.hid (HST.out.below hal)
          have hsk := (HSA.out.cell (o := w1.heap.size) (k := k) (by simp)).trans ((HOK.out.cellAt k (by omega)).trans (boolCells_get l.length (inS zs) k hlt))
          clear hal
          rcases hs : inS zs k with _ | _
          · have HE := Lib.hid (show onlyK l (inS zs) (k + 1) = onlyK l (inS zs) k by rw [onlyK, hs]; simp)
            rw [hs] at hsk
            go_wp2_with fail
            go_roundw
            case rel => exact ⟨k + 1, by omega, by go_num, A', c', by rw [HE.out]; exact HSA.out⟩
            case measure => simp [intOf]; omega
          · have HE := Lib.hid (show onlyK l (inS zs) (k + 1) = onlyK l (inS zs) k ++ [(x1, x2)] by rw [onlyK, hs, hx]; simp)
            rw [hs] at hsk
            have hll := onlyK_len l (inS zs) k
            obtain ⟨L, hL⟩ : ∃ L, L = onlyK l (inS zs) k := ⟨_, rfl⟩
            rw [← hL] at HSA HE hll
            clear hL hx
            obtain ⟨hlt0, g1, g2⟩ := HSA.out.1
            have gf := HSA.out.2.1
            have hbs2 : w.heap.size ≤ (wr.alloc (.cells #[.int .i64 x1, .int .i64 x2] 89)).heap.size := by simp; omega
            go_wp2_with (at_builtin; refine wpList_at _ rfl _ _ 33 rfl w.heap.size 89 (.agg #[.int .i64 0, .int .i64 0]) 2 16 Try.underlying33 infoBar rfl (by decide) _ _ _ rfl HSA.out.2.2.2.1 #[.int .i64 x1, .int .i64 x2] 1 rfl (by simp [Value.oneCell']) _ 1 (by simp [Act.eval]) (by omega) (by unfold maxLen; omega) hbs2 ?_; intro v' w' ho hg hat _; obtain ⟨c0, c1, f1, A2, c2, rfl, hG2⟩ := HSA.out.push (x1, x2) ho hg hat; have HG2 := Lib.hid hG2; clear ho hg hat hG2)
            go_roundw
            case rel => exact ⟨k + 1, by omega, by go_num, A2, c2, by rw [HE.out]; exact HG2.out⟩
            case measure => simp [intOf]; omega
        · obtain rfl : k = l.length := by omega
          obtain ⟨_, g1, g2⟩ := HST.out.1
          have r0 := (HST.out.cell (o := w.heap.size + 1) (k := 0) (by simp)).trans HRR.out.2.1
          have r1 := (HST.out.cell (o := w.heap.size + 1) (k := 1) (by simp)).trans HRR.out.2.2
          have f0 := (HST.out.frozen (o := w.heap.size + 1) (k := 0) (by simp)).trans HFR.out.1
          have f1 := (HST.out.frozen (o := w.heap.size + 1) (k := 1) (by simp)).trans HFR.out.2
          have hr := HST.out.ret (o := w.heap.size + 1) (by simp) (by omega) (.int .i64 p) (.slice A' (onlyK l (inS zs) l.length).length c')
          have HRT := Lib.hid hr
          have s0 : ((wr.setCell ⟨w.heap.size + 1, 0, none⟩ (.int .i64 p)).setCell ⟨w.heap.size + 1, 1, none⟩ (.slice A' (onlyK l (inS zs) l.length).length c')).cell? ⟨w.heap.size + 1, 0, none⟩ = some (.int .i64 p) := by
            rw [World.cell?_setCell_other _ _ _ _ (by intro e; simp at e)]
            exact World.cell?_setCell_same _ _ _ r0
          have s1 : ((wr.setCell ⟨w.heap.size + 1, 0, none⟩ (.int .i64 p)).setCell ⟨w.heap.size + 1, 1, none⟩ (.slice A' (onlyK l (inS zs) l.length).length c')).cell? ⟨w.heap.size + 1, 1, none⟩ = some (.slice A' (onlyK l (inS zs) l.length).length c') := by
            have r2 : (wr.setCell ⟨w.heap.size + 1, 0, none⟩ (.int .i64 p)).cell? ⟨w.heap.size + 1, 1, none⟩ = some (.slice none 0 0) := by
              rw [World.cell?_setCell_other _ _ _ _ (by intro e; simp at e)]
              exact r1
            exact World.cell?_setCell_same _ _ _ r2
          clear hr
          go_wp2_with fail
          refine bodyPost_ret (v := .agg #[.int .i64 p, .slice A' (onlyK l (inS zs) l.length).length c']) ?_ rfl ⟨A', c', rfl, HRT.out.1, HAW.out.trans HRT.out.2⟩
          simp [results, Try.results113, go_sem, s0, s1]
end Go.Proofs.Ytgmcibcjplncaaa
/- What impl.RankOfSet answers. No condition. -/
namespace Go.Proofs.Ytgmcibcjplncaaa
open Go.RowKit

set_option maxHeartbeats 2000000 in
set_option maxRecDepth 100000 in
theorem implRankSet (p k c : Int) (l : List (Int × Int)) (zs : List Int) (A Z : Option Addr) (cap cz lo hi : Nat) (w : World) (hl : BarsAt w w.heap.size A l) (hz : IntsIn w lo hi Z zs) (hn : l.length ≤ 1048576) (hnz : zs.length ≤ 1048576) :
    Calls Try.prog 69 #[.agg #[.int .i64 p, .slice A l.length cap], .int .i64 k, .int .i64 c, .slice Z zs.length cz] w fun e w' => e = .returned (.int .i64 (rankSV p k c l zs)) ∧ Below w.heap.size w w' := by
  have HISG : ∀ W : World, BarsAt W W.heap.size A l → Calls Try.prog 99 #[.agg #[.int .i64 p, .slice A l.length cap]] W fun e w' => e = .returned (.bool (isGB p l)) ∧ Below W.heap.size W w' := fun W h => implIsGraph p l A cap W h hn
  obtain ⟨rv, hrv⟩ : ∃ rv, rankSV p k c l zs = rv := ⟨_, rfl⟩
  rw [hrv]
  unfold rankSV at hrv
  cases hg : isGB p l with
  | false =>
    have HRV := Lib.hid (show rv = -1 from by rw [← hrv, hg]; rfl)
    clear hrv
    rw [hg] at HISG
    clear hg
    have W0 := Lib.hid (Below.refl w.heap.size w)
    have HB_0 := Lib.hid (bars_in hl)
    have HZ_0 := Lib.hid (hz)
    clear hl hz
    have Z1 := Lib.hid (within_alloc w (.cells #[.int .i64 p, (.slice A l.length cap)] 35)).size
    have W1 := Lib.hid (within_on W0.out (within_alloc w (.cells #[.int .i64 p, (.slice A l.length cap)] 35)) W0.out.size (.inr (Nat.le_refl _)))
    have HB_1 := Lib.hid (HB_0.out.within (within_alloc w (.cells #[.int .i64 p, (.slice A l.length cap)] 35)) (by omega))
    have HZ_1 := Lib.hid (HZ_0.out.within (within_alloc w (.cells #[.int .i64 p, (.slice A l.length cap)] 35)) (by omega))
    have Y1 := Lib.hid (show (w.alloc (.cells #[.int .i64 p, (.slice A l.length cap)] 35)).heap.size = w.heap.size + 1 by simp)
    have hnew := box_new w p (.slice A l.length cap) 35
    have BX_1 := Lib.hid hnew
    clear hnew
    go_enter Try.func69, Try.ntmps69
    obtain ⟨g0_0, g0_1, g0_2⟩ := BX_1.out
    go_wp2_with fail
    clear g0_0 g0_1 g0_2
    generalize (w.alloc (.cells #[.int .i64 p, (.slice A l.length cap)] 35)) = w1 at *
    refine (HISG _ HB_1.out.at).mono ?_
    rintro e w2 ⟨rfl, hb⟩
    have Z2 := Lib.hid (within_of hb).size
    have W2 := Lib.hid (within_on W1.out (within_of hb) W1.out.size (.inr (Nat.le_refl _)))
    have HB_2 := Lib.hid (HB_1.out.within (within_of hb) (by omega))
    have HZ_2 := Lib.hid (HZ_1.out.within (within_of hb) (by omega))
    have BX_2 := Lib.hid (BX_1.out.within (within_of hb) (by omega))
    clear hb
    go_wp2_with fail
    go_ret
    exact ⟨by rw [HRV.out]; rfl, W2.out⟩
  | true =>
    have HRV := Lib.hid (show rv = rankV p k c (onlyL l zs) from by rw [← hrv, hg]; rfl)
    clear hrv
    rw [hg] at HISG
    clear hg
    have W0 := Lib.hid (Below.refl w.heap.size w)
    have HB_0 := Lib.hid (bars_in hl)
    have HZ_0 := Lib.hid (hz)
    clear hl hz
    have Z1 := Lib.hid (within_alloc w (.cells #[.int .i64 p, (.slice A l.length cap)] 35)).size
    have W1 := Lib.hid (within_on W0.out (within_alloc w (.cells #[.int .i64 p, (.slice A l.length cap)] 35)) W0.out.size (.inr (Nat.le_refl _)))
    have HB_1 := Lib.hid (HB_0.out.within (within_alloc w (.cells #[.int .i64 p, (.slice A l.length cap)] 35)) (by omega))
    have HZ_1 := Lib.hid (HZ_0.out.within (within_alloc w (.cells #[.int .i64 p, (.slice A l.length cap)] 35)) (by omega))
    have Y1 := Lib.hid (show (w.alloc (.cells #[.int .i64 p, (.slice A l.length cap)] 35)).heap.size = w.heap.size + 1 by simp)
    have hnew := box_new w p (.slice A l.length cap) 35
    have BX_1 := Lib.hid hnew
    clear hnew
    go_enter Try.func69, Try.ntmps69
    obtain ⟨g0_0, g0_1, g0_2⟩ := BX_1.out
    go_wp2_with fail
    clear g0_0 g0_1 g0_2
    generalize (w.alloc (.cells #[.int .i64 p, (.slice A l.length cap)] 35)) = w1 at *
    refine (HISG _ HB_1.out.at).mono ?_
    rintro e w2 ⟨rfl, hb⟩
    have Z2 := Lib.hid (within_of hb).size
    have W2 := Lib.hid (within_on W1.out (within_of hb) W1.out.size (.inr (Nat.le_refl _)))
    have HB_2 := Lib.hid (HB_1.out.within (within_of hb) (by omega))
    have HZ_2 := Lib.hid (HZ_1.out.within (within_of hb) (by omega))
    have BX_2 := Lib.hid (BX_1.out.within (within_of hb) (by omega))
    clear hb
    obtain ⟨g1_0, g1_1, g1_2⟩ := BX_2.out
    go_wp2_with fail
    clear g1_0 g1_1 g1_2
    refine (implOnly p l zs A Z cap cz _ _ _ HB_2.out.at HZ_2.out hn hnz).mono ?_
    rintro e w3 ⟨AO, cO, rfl, ho, hb⟩
    have Z3 := Lib.hid (within_of hb).size
    have W3 := Lib.hid (within_on W2.out (within_of hb) W2.out.size (.inr (Nat.le_refl _)))
    have HB_3 := Lib.hid (HB_2.out.within (within_of hb) (by omega))
    have HZ_3 := Lib.hid (HZ_2.out.within (within_of hb) (by omega))
    have BX_3 := Lib.hid (BX_2.out.within (within_of hb) (by omega))
    have OB_3 := Lib.hid (ho.bars)
    clear ho hb
    go_wp2_with fail
    refine (implRank p k c (onlyL l zs) AO cO _ OB_3.out.at (onlyL_len l zs hn)).mono ?_
    rintro e w4 ⟨rfl, hb⟩
    have Z4 := Lib.hid (within_of hb).size
    have W4 := Lib.hid (within_on W3.out (within_of hb) W3.out.size (.inr (Nat.le_refl _)))
    have HB_4 := Lib.hid (HB_3.out.within (within_of hb) (by omega))
    have HZ_4 := Lib.hid (HZ_3.out.within (within_of hb) (by omega))
    have BX_4 := Lib.hid (BX_3.out.within (within_of hb) (by omega))
    have OB_4 := Lib.hid (OB_3.out.within (within_of hb) (by omega))
    clear hb
    go_wp2_with fail
    go_ret
    exact ⟨by rw [HRV.out]; rfl, W4.out⟩
end Go.Proofs.Ytgmcibcjplncaaa
/- What (barSet).rank answers: whatever the order in which the map is ranged over. No condition. -/
namespace Go.Proofs.Ytgmcibcjplncaaa
open Go.RowKit

open Go.Maps

/-- What stands while the map's keys are collected. -/
structure RkP (w W : World) (b n : Nat) (D : DataW Unit) (v0 v1 v2 v3 v4 : Value) (A : Option Addr) (l : List (Int × Int)) (left : Lit → Bool) (cnt : Nat) (ks : List Int) (Ao : Option Addr) (co lo hi : Nat) : Prop where
  rg : ORng W b (w.heap.size + 1) n D left cnt
  row : OwnR W lo hi Ao co ks
  lo : w.heap.size + 2 ≤ lo ∧ lo ≤ W.heap.size
  num : ks.length + cnt ≤ n
  col : CollS D left ks
  bx : Cel5 W w.heap.size 104 v0 v1 v2 v3 v4
  bars : BarsIn W 0 w.heap.size A l
  bel : Below w.heap.size w W
section
variable {w W W1 W2 : World} {b n : Nat} {D : DataW Unit} {v0 v1 v2 v3 v4 : Value} {A : Option Addr} {l : List (Int × Int)} {left : Lit → Bool} {cnt cnt1 : Nat} {ks : List Int} {Ao A2 : Option Addr} {co lo hi c2 lo2 hi2 : Nat} {x : Int}
theorem RkP.row1 (h : RkP w W b n D v0 v1 v2 v3 v4 A l left cnt ks Ao co lo hi) (hg : W.grownBy W1 (some (w.heap.size + 1))) : OwnR W1 lo hi Ao co ks ∧ lo ≤ W1.heap.size :=
  ⟨h.row.within (within_grown hg) (.inr (by have := h.lo; omega)), Nat.le_trans h.lo.2 hg.size⟩
theorem RkP.step (h : RkP w W b n D v0 v1 v2 v3 v4 A l left cnt ks Ao co lo hi) (hb : b < w.heap.size) {left' : Lit → Bool} (hr : ORng W1 b (w.heap.size + 1) n D left' cnt1) (hlt : cnt1 < cnt) (hg : W.grownBy W1 (some (w.heap.size + 1))) (hc : CollS D left' (ks ++ [x]))
    (ho : OwnR W2 lo2 hi2 A2 c2 (ks ++ [x])) (hd : (lo2 = lo ∧ hi2 = hi) ∨ (W1.heap.size ≤ lo2 ∧ lo2 ≤ W2.heap.size ∧ hi2 ≤ W2.heap.size)) (hw : Within lo hi W1 W2) :
    RkP w W2 b n D v0 v1 v2 v3 v4 A l left' cnt1 (ks ++ [x]) A2 c2 lo2 hi2 := by
  obtain ⟨h1, h2, h3, h4, h5, h6, h7, h8⟩ := h
  have w1 := within_grown hg
  have s0 := h8.size
  have s1 := w1.size
  have s2 := hw.size
  have hr1 := hr.lt
  have hb1 : b < W1.heap.size := by omega
  refine ⟨orng_block hr (hw.block b hb1 (.inl (by omega))) (hw.block _ hr1 (.inl (by omega))), ho, ?_, by simp; omega, hc, (h6.within w1 (.inl (by omega))).within hw (.inl (by omega)), (h7.within w1 (.inl (by omega))).within hw (.inl (by omega)), within_on (within_on h8 w1 s0 (.inl (by omega))) hw (by omega) (.inl (by omega))⟩
  rcases hd with ⟨rfl, rfl⟩ | hd
  · omega
  · omega
end

set_option maxHeartbeats 4000000 in
set_option maxRecDepth 100000 in
theorem mrank (p k c : Int) (l : List (Int × Int)) (A : Option Addr) (cap b n : Nat) (zs : List Int) (w : World) (hl : BarsAt w w.heap.size A l) (hs : SetM w b n zs) (hn : l.length ≤ 1048576) (hn2 : n ≤ 1048576) :
    Calls Try.prog 103 #[bsV p A l.length cap k c b] w fun e w' => e = .returned (.int .i64 (rankSV p k c l zs)) ∧ Below w.heap.size w w' := by
  obtain ⟨rv, hrv⟩ : ∃ rv, rankSV p k c l zs = rv := ⟨_, rfl⟩
  rw [hrv]
  have HRV := Lib.hid hrv
  clear hrv
  have hbl := hs.lt
  obtain ⟨D, hown, hsay⟩ := hs
  have HSAY := Lib.hid hsay
  have hA := new_below w (.cells #[.int .i64 p, .slice A l.length cap, .int .i64 k, .int .i64 c, .map (some b)] 104)
  have hsz : (w.alloc (.cells #[.int .i64 p, .slice A l.length cap, .int .i64 k, .int .i64 c, .map (some b)] 104)).heap.size = w.heap.size + 1 := by simp
  have HA := Lib.hid hA
  have HBX := Lib.hid (cel5_new w (.int .i64 p) (.slice A l.length cap) (.int .i64 k) (.int .i64 c) (.map (some b)) 104)
  have HOM := Lib.hid (omap_block hown (hA.block b hbl))
  have HBR := Lib.hid ((bars_in hl).within (within_of hA) (.inr (Nat.zero_le _)))
  have HSZ := Lib.hid hsz
  have HBL := Lib.hid hbl
  clear hl hown hsay hA hsz hbl
  go_enter Try.func103, Try.ntmps103
  obtain ⟨x0, x1, x2, x3, x4⟩ := HBX.out.cells
  go_wp2_with (first
    | (at_range; refine wpList_range_own _ rfl _ 102 rfl 3 4 lawI Try.underlying102 _ b n D rfl HOM.out ?_; intro w2 hrg0 hg0 hs0)
    | go_in)
  try go_frame
  clear x0 x1 x2 x3 x4
  have HST := Lib.hid (show RkP w w2 b n D (.int .i64 p) (.slice A l.length cap) (.int .i64 k) (.int .i64 c) (.map (some b)) A l (Maps.has D) (Maps.size D) [] none 0 w2.heap.size w2.heap.size from by
    have hw := within_none hg0
    have hsz := HSZ.out
    rw [hsz] at hrg0 hs0
    have hsl := HOM.out.size_le
    exact ⟨hrg0, ⟨Nat.le_refl _, .inl ⟨rfl, rfl, rfl⟩⟩, by omega, by simpa using hsl, CollS.start D, HBX.out.within hw (.inr (Nat.zero_le _)), HBR.out.within hw (.inr (Nat.zero_le _)), within_on HA.out hw (by omega) (.inr (Nat.zero_le _))⟩)
  clear hrg0 hg0 hs0
  rw [HSZ.out]
  go_loopw [3, 4] (fun u _ wr => ∃ (left : Lit → Bool) (cnt : Nat) (ks : List Int) (Ao : Option Addr) (co lo hi : Nat), u = .slice Ao ks.length co ∧ RkP w wr b n D (.int .i64 p) (.slice A l.length cap) (.int .i64 k) (.int .i64 c) (.map (some b)) A l left cnt ks Ao co lo hi) (fun _ _ wr => wr.rangeLeft b (w.heap.size + 1))
  case atStart => exact ⟨_, _, [], none, 0, _, _, rfl, HST.out⟩
  case round =>
    obtain ⟨left, cnt, ks, Ao, co, lo, hi, rfl, hst⟩ := hrel
    have HS := Lib.hid hst
    obtain ⟨x0, x1, x2, x3, x4⟩ := hst.bx.cells
    have hrg := hst.rg
    clear hst
    go_wp2_with (first
      | (at_next; refine wpList_next_ranges _ rfl _ rfl 3 lawI (plainElem (H := Unit) Try.prog 4) (Value.int .i64) Value.bool (fun key kl hk => by obtain ⟨x, hx, _⟩ := Maps.keyOf_int_inv Try.underlying3 hk; exact ⟨x, hx⟩) (fun v y hv => bool_inv Try.underlying4 hv) b (w.heap.size + 1) n D left cnt rfl hrg ?_ ?_)
      | go_in)
    · intro hc0 hl0
      have HE := Lib.hid ((rankSV_same (p := p) (k := k) (c := c) (l := l) fun j hj => HS.out.col.done HSAY.out hl0 l.length hn j hj).trans HRV.out)
      have hks : ks.length ≤ 1048576 := by have := HS.out.num; omega
      have HKS := Lib.hid hks
      clear hc0 hl0 hrg hks
      go_wp2_with (go_at_call 69; refine (implRankSet p k c l ks A Ao cap co lo hi _ HS.out.bars.at HS.out.row.ints.reads hn HKS.out).mono ?_; rintro e w9 ⟨rfl, hb⟩; rw [HE.out]; have HB9 := Lib.hid hb; clear hb)
      go_ret
      exact ⟨rfl, below_on HS.out.bel HB9.out HS.out.bel.size⟩
    · intro x
      constructor
      all_goals
        intro kl yd yp w3 cnt1 hkey hlk hv hat hrg1 hlt hg1 hs1 hen
        obtain ⟨x', ex, rfl, hwx⟩ := Maps.keyOf_int_inv Try.underlying3 hkey
        cases ex
        have HR1 := Lib.hid (HS.out.row1 hg1)
        have HC := Lib.hid (HS.out.col.step hwx hat)
        have HRG1 := Lib.hid hrg1
        have HG1 := Lib.hid hg1
        have HLT := Lib.hid hlt
        have HRG := Lib.hid hrg
        have hks : ks.length ≤ 1048576 := by have := HS.out.num; omega
        have HKS := Lib.hid hks
        clear hs1 hrg1 hg1 hrg hat hlk hv hkey hlt hks
        go_wp2_with (first
          | (at_builtin; refine wpList_pushR _ rfl _ _ rfl lo hi Ao co ks x rfl HR1.out.1 _ (by first | rfl | (simp only [World.size_setCell]; rfl)) HKS.out HR1.out.2 ?_; intro A5 c5 w15 lo5 hi5 hr5 hor5 hw5; have HN := Lib.hid (HS.out.step HBL.out HRG1.out HLT.out HG1.out HC.out hr5 hor5 hw5); clear hr5 hor5 hw5; go_frame)
          | go_in)
        go_roundw
        case rel => exact ⟨_, cnt1, ks ++ [x], A5, c5, lo5, hi5, by simp, HN.out⟩
        case measure => rw [HN.out.rg.left_eq, HRG.out.left_eq]; exact HLT.out
end Go.Proofs.Ytgmcibcjplncaaa
/- What (barSet).rankWithout answers. No condition. -/
namespace Go.Proofs.Ytgmcibcjplncaaa
open Go.RowKit

open Go.Maps

set_option maxHeartbeats 4000000 in
set_option maxRecDepth 100000 in
theorem rankWo (p k c : Int) (l : List (Int × Int)) (A : Option Addr) (cap b n B : Nat) (zs : List Int) (x : Int) (w : World) (hl : BarsIn w 0 B A l) (hB : B ≤ b) (hs : SetM w b n zs) (hn : l.length ≤ 1048576) (hn2 : n + 1 ≤ 1048576) (hw : (Lit.int .i64 x).wf = true) (hx : x ∈ zs) :
    Calls Try.prog 108 #[bsV p A l.length cap k c b, .int .i64 x] w fun e w' => e = .returned (.int .i64 (rankSV p k c l (zs.filter fun y => !decide (y = x)))) ∧ SetM w' b (n + 1) zs ∧ Within b (b + 1) w w' := by
  have hbl := hs.lt
  obtain ⟨D, hown, hsay⟩ := hs
  have HSAY := Lib.hid hsay
  have hA := new_below w (.cells #[.int .i64 p, .slice A l.length cap, .int .i64 k, .int .i64 c, .map (some b)] 104)
  have HA := Lib.hid (show Within b (b + 1) w (w.alloc (.cells #[.int .i64 p, .slice A l.length cap, .int .i64 k, .int .i64 c, .map (some b)] 104)) from (within_of hA).widen (.inl (Nat.le_refl _)))
  have HBX := Lib.hid (cel5_new w (.int .i64 p) (.slice A l.length cap) (.int .i64 k) (.int .i64 c) (.map (some b)) 104)
  have HOM := Lib.hid (omap_block hown (hA.block b hbl))
  have HBR := Lib.hid (hl.within (within_of hA) (.inr (Nat.zero_le _)))
  have HBL := Lib.hid hbl
  have HWF := Lib.hid hw
  have HN2 := Lib.hid hn2
  have HBB := Lib.hid hB
  have HSW := Lib.hid hA.size
  clear hl hown hsay hA hbl hw hn2 hB
  have HX := Lib.hid hx
  obtain ⟨rv, hrv⟩ : ∃ rv, rankSV p k c l (zs.filter fun y => !decide (y = x)) = rv := ⟨_, rfl⟩
  rw [hrv]
  have HRV := Lib.hid hrv
  clear hrv hx
  go_enter Try.func108, Try.ntmps108
  obtain ⟨x0, x1, x2, x3, x4⟩ := HBX.out.cells
  go_wp2_with (first
    | (at_mapUpdate; refine wpList_mapUpdate_own _ rfl _ _ _ 102 rfl 3 4 lawI Try.underlying102 _ b n _ rfl HOM3.out (by have := HN2.out; unfold maxLen; omega) _ _ (.int .i64 x) rfl rfl (keyOf_int_mk Try.underlying3 HWF.out) _ [] (plainElem_bool Try.underlying4 true) ?_; intro w4 hown hg; have HF := Lib.hid (show SetM w4 b (n + 1) zs from ⟨_, hown, (HSAY3.out.put HOM3.out.isMap x).congr fun y => by simp; exact ⟨fun h => h.elim (fun h => h.1) (fun h => h ▸ HX.out), fun h => by by_cases e : y = x; exact .inr e; exact .inl ⟨h, e⟩⟩⟩); have HWF4 := Lib.hid (HW3.out.trans (within_grown hg)); clear hown hg)
    | (go_at_call 103; refine (mrank p k c l A cap b n _ _ HBR2.out.at ⟨_, HOM2.out, HSAY2.out⟩ hn (by have := HN2.out; omega)).mono ?_; rintro e w3 ⟨rfl, hb⟩; rw [HRV.out]; have HW3 := Lib.hid (HW2.out.trans ((within_of hb).widen (.inl (Nat.le_refl _)))); have HOM3 := Lib.hid (omap_block HOM2.out (hb.block b (by have := HOM2.out.lt; omega))); have HSAY3 := HSAY2; obtain ⟨z0, z1, z2, z3, z4⟩ := (HBX2.out.within (within_of hb) (.inr (Nat.zero_le _))).cells; clear hb y0 y1 y2 y3 y4)
    | (at_delete; refine wpList_delete_own _ rfl _ _ 102 3 rfl 4 lawI Try.underlying102 _ b n _ rfl HOM.out _ _ rfl (keyOf_int_mk Try.underlying3 HWF.out) ?_; intro w2 hown  hturn; have HOM2 := Lib.hid hown; have HSAY2 := Lib.hid (HSAY.out.del x); have hgg := within_grown hturn.grown; have HW2 := Lib.hid (HA.out.trans hgg); have HBX2 := Lib.hid (HBX.out.within hgg (.inr (by have := HBL.out; omega))); have HBR2 := Lib.hid (HBR.out.within hgg (.inl HBB.out)); obtain ⟨y0, y1, y2, y3, y4⟩ := HBX2.out.cells; clear hown hturn hgg x0 x1 x2 x3 x4)
    | go_in)
  go_ret
  exact ⟨rfl, HF.out, HWF4.out⟩
end Go.Proofs.Ytgmcibcjplncaaa
/- What impl.IsCircuit answers. No condition. -/
namespace Go.Proofs.Ytgmcibcjplncaaa
open Go.RowKit

theorem okS_len {m : Nat} {Z : List Int} (h : ∀ j, j < Z.length → OkS m Z j) : Z.length ≤ m := by
  have q : ∀ i, i < Z.length → (i : Int) ≤ Z.getD i 0 := by
    intro i
    induction i with
    | zero => intro hi; exact (h 0 hi).1.1
    | succ i ih =>
      intro hi
      have h1 := ih (by omega)
      have h2 := (h (i + 1) hi).2 (by omega)
      rw [show i + 1 - 1 = i by omega] at h2
      omega
  by_cases h0 : 0 < Z.length
  · have h1 := q (Z.length - 1) (by omega)
    have h2 := (h (Z.length - 1) (by omega)).1.2
    omega
  · omega
theorem step_all {P : Nat → Prop} {j : Nat} (h : ∀ u, u < j → P u) (hj : P j) : ∀ u, u < j + 1 → P u := fun u hu => by
  by_cases e : u = j
  · subst e; exact hj
  · exact h u (by omega)
set_option maxHeartbeats 4000000 in
set_option maxRecDepth 100000 in
theorem implCir (p k c : Int) (l : List (Int × Int)) (zs : List Int) (A Z : Option Addr) (cap cz lo hi : Nat) (w : World) (hl : BarsAt w w.heap.size A l) (hz : IntsIn w lo hi Z zs) (hn : l.length ≤ 1048576) (hnz : zs.length ≤ 1048576) :
    Calls Try.prog 63 #[.agg #[.int .i64 p, .slice A l.length cap], .int .i64 k, .int .i64 c, .slice Z zs.length cz] w fun e w' => e = .returned (.bool (cirB p k c l zs)) ∧ Below w.heap.size w w' := by
  obtain ⟨rv, hrv⟩ : ∃ rv, cirB p k c l zs = rv := ⟨_, rfl⟩
  rw [hrv]
  by_cases hbad : setB p l zs = false ∨ rangeB k c = false
  · have HRV := Lib.hid (show rv = false from by rw [← hrv]; exact cirB_no (hbad.elim .inl fun h => .inr (.inl h)))
    have HBAD := Lib.hid hbad
    clear hrv hbad
    have hzh := hz.1
    have W0 := Lib.hid (Below.refl w.heap.size w)
    have HB_0 := Lib.hid (bars_in hl)
    have HZ_0 := Lib.hid (hz)
    clear hl hz
    have Z1 := Lib.hid (within_alloc w (.cells #[.int .i64 p, (.slice A l.length cap)] 35)).size
    have W1 := Lib.hid (within_on W0.out (within_alloc w (.cells #[.int .i64 p, (.slice A l.length cap)] 35)) W0.out.size (.inr (Nat.le_refl _)))
    have HB_1 := Lib.hid (HB_0.out.within (within_alloc w (.cells #[.int .i64 p, (.slice A l.length cap)] 35)) (by omega))
    have HZ_1 := Lib.hid (HZ_0.out.within (within_alloc w (.cells #[.int .i64 p, (.slice A l.length cap)] 35)) (by omega))
    have Y1 := Lib.hid (show (w.alloc (.cells #[.int .i64 p, (.slice A l.length cap)] 35)).heap.size = w.heap.size + 1 by simp)
    have hnew := box_new w p (.slice A l.length cap) 35
    have BX_1 := Lib.hid hnew
    clear hnew
    go_enter Try.func63, Try.ntmps63
    obtain ⟨g0_0, g0_1, g0_2⟩ := BX_1.out
    go_wp2_with fail
    clear g0_0 g0_1 g0_2
    generalize (w.alloc (.cells #[.int .i64 p, (.slice A l.length cap)] 35)) = w1 at *
    refine (newSet_no p k c l zs A Z cap cz _ _ _ HB_1.out.at HZ_1.out hn hnz HBAD.out).mono ?_
    rintro e w2 ⟨rfl, hb⟩
    have Z2 := Lib.hid (within_of hb).size
    have W2 := Lib.hid (within_on W1.out (within_of hb) W1.out.size (.inr (Nat.le_refl _)))
    have HB_2 := Lib.hid (HB_1.out.within (within_of hb) (by omega))
    have HZ_2 := Lib.hid (HZ_1.out.within (within_of hb) (by omega))
    have BX_2 := Lib.hid (BX_1.out.within (within_of hb) (by omega))
    clear hb
    have Z3 := Lib.hid (within_alloc w2 (.cells #[(.int .i64 0), (.slice none 0 0), (.int .i64 0), (.int .i64 0), (.map none)] 104)).size
    have W3 := Lib.hid (within_on W2.out (within_alloc w2 (.cells #[(.int .i64 0), (.slice none 0 0), (.int .i64 0), (.int .i64 0), (.map none)] 104)) W2.out.size (.inr (Nat.le_refl _)))
    have HB_3 := Lib.hid (HB_2.out.within (within_alloc w2 (.cells #[(.int .i64 0), (.slice none 0 0), (.int .i64 0), (.int .i64 0), (.map none)] 104)) (by omega))
    have HZ_3 := Lib.hid (HZ_2.out.within (within_alloc w2 (.cells #[(.int .i64 0), (.slice none 0 0), (.int .i64 0), (.int .i64 0), (.map none)] 104)) (by omega))
    have BX_3 := Lib.hid (BX_2.out.within (within_alloc w2 (.cells #[(.int .i64 0), (.slice none 0 0), (.int .i64 0), (.int .i64 0), (.map none)] 104)) (by omega))
    have Y3 := Lib.hid (show (w2.alloc (.cells #[(.int .i64 0), (.slice none 0 0), (.int .i64 0), (.int .i64 0), (.map none)] 104)).heap.size = w2.heap.size + 1 by simp)
    have hnew := cel5_new w2 (.int .i64 0) (.slice none 0 0) (.int .i64 0) (.int .i64 0) (.map none) 104
    have BB_3 := Lib.hid hnew
    clear hnew
    go_wp2_with fail
    generalize (w2.alloc (.cells #[(.int .i64 0), (.slice none 0 0), (.int .i64 0), (.int .i64 0), (.map none)] 104)) = w3 at *
    go_ret
    exact ⟨by rw [HRV.out]; rfl, W3.out⟩
  · have hs : setB p l zs = true := by simpa using fun h => hbad (.inl h)
    have hr : rangeB k c = true := by simpa using fun h => hbad (.inr h)
    have hq := indB_yes (c := c) hs hr
    have HSR := Lib.hid (And.intro hs hr)
    have HYES := Lib.hid (fun h3 h => hrv.symm.trans (cirB_yes hs hr h3 h))
    have HBAD := Lib.hid (fun (j : Nat) (hj : j < zs.length) h => hrv.symm.trans (cirB_bad (p := p) (k := k) (c := c) (l := l) hj h))
    have HIND := Lib.hid (fun h => hrv.symm.trans (cirB_no (p := p) (k := k) (c := c) (l := l) (zs := zs) (.inr (.inr h))))
    have HWO := Lib.hid (fun (x : Int) (hx : x ∈ zs) => ind_wo (c := c) hs hr hx)
    have HWF := Lib.hid (show ∀ j, j < zs.length → (Lit.int .i64 (zs.getD j 0)).wf = true from fun j hj => WalkArith.wf_i64 (by have := ((setB_is hs).1 j hj).1; omega))
    have H24 := Lib.hid (show zs.length ≤ l.length ∧ l.length ≤ 24 from ⟨okS_len (setB_is hs).1, (setB_is hs).2.2.1⟩)
    have HQ := Lib.hid hq
    clear hrv hbad hs hr hq
    have hzh := hz.1
    have W0 := Lib.hid (Below.refl w.heap.size w)
    have HB_0 := Lib.hid (bars_in hl)
    have HZ_0 := Lib.hid (hz)
    clear hl hz
    have Z1 := Lib.hid (within_alloc w (.cells #[.int .i64 p, (.slice A l.length cap)] 35)).size
    have W1 := Lib.hid (within_on W0.out (within_alloc w (.cells #[.int .i64 p, (.slice A l.length cap)] 35)) W0.out.size (.inr (Nat.le_refl _)))
    have HB_1 := Lib.hid (HB_0.out.within (within_alloc w (.cells #[.int .i64 p, (.slice A l.length cap)] 35)) (by omega))
    have HZ_1 := Lib.hid (HZ_0.out.within (within_alloc w (.cells #[.int .i64 p, (.slice A l.length cap)] 35)) (by omega))
    have Y1 := Lib.hid (show (w.alloc (.cells #[.int .i64 p, (.slice A l.length cap)] 35)).heap.size = w.heap.size + 1 by simp)
    have hnew := box_new w p (.slice A l.length cap) 35
    have BX_1 := Lib.hid hnew
    clear hnew
    go_enter Try.func63, Try.ntmps63
    obtain ⟨g0_0, g0_1, g0_2⟩ := BX_1.out
    go_wp2_with fail
    clear g0_0 g0_1 g0_2
    generalize (w.alloc (.cells #[.int .i64 p, (.slice A l.length cap)] 35)) = w1 at *
    refine (newSet_yes p k c l zs A Z cap cz _ _ _ HB_1.out.at HZ_1.out hn hnz HSR.out.1 HSR.out.2).mono ?_
    rintro e w2 ⟨b, rfl, hset, hbge, hb⟩
    have Z2 := Lib.hid (within_of hb).size
    have W2 := Lib.hid (within_on W1.out (within_of hb) W1.out.size (.inr (Nat.le_refl _)))
    have HB_2 := Lib.hid (HB_1.out.within (within_of hb) (by omega))
    have HZ_2 := Lib.hid (HZ_1.out.within (within_of hb) (by omega))
    have BX_2 := Lib.hid (BX_1.out.within (within_of hb) (by omega))
    have SM_2 := Lib.hid (hset)
    clear hset hb
    have HBG := Lib.hid (show w.heap.size ≤ b from by have := Z1.out; omega)
    clear hbge
    have hblt := SM_2.out.lt
    have HBLT := Lib.hid hblt
    clear hblt
    have Z3 := Lib.hid (within_alloc w2 (.cells #[(.int .i64 p), (.slice A l.length cap), (.int .i64 k), (.int .i64 c), (.map (some b))] 104)).size
    have W3 := Lib.hid (within_on W2.out (within_alloc w2 (.cells #[(.int .i64 p), (.slice A l.length cap), (.int .i64 k), (.int .i64 c), (.map (some b))] 104)) W2.out.size (.inr (Nat.le_refl _)))
    have HB_3 := Lib.hid (HB_2.out.within (within_alloc w2 (.cells #[(.int .i64 p), (.slice A l.length cap), (.int .i64 k), (.int .i64 c), (.map (some b))] 104)) (by omega))
    have HZ_3 := Lib.hid (HZ_2.out.within (within_alloc w2 (.cells #[(.int .i64 p), (.slice A l.length cap), (.int .i64 k), (.int .i64 c), (.map (some b))] 104)) (by omega))
    have BX_3 := Lib.hid (BX_2.out.within (within_alloc w2 (.cells #[(.int .i64 p), (.slice A l.length cap), (.int .i64 k), (.int .i64 c), (.map (some b))] 104)) (by omega))
    have SM_3 := Lib.hid (SM_2.out.within (within_alloc w2 (.cells #[(.int .i64 p), (.slice A l.length cap), (.int .i64 k), (.int .i64 c), (.map (some b))] 104)) (by omega))
    have Y3 := Lib.hid (show (w2.alloc (.cells #[(.int .i64 p), (.slice A l.length cap), (.int .i64 k), (.int .i64 c), (.map (some b))] 104)).heap.size = w2.heap.size + 1 by simp)
    have hnew := cel5_new w2 (.int .i64 p) (.slice A l.length cap) (.int .i64 k) (.int .i64 c) (.map (some b)) 104
    have BB_3 := Lib.hid hnew
    clear hnew
    obtain ⟨x0, x1, x2, x3, x4⟩ := BB_3.out.cells
    go_wp2_with fail
    clear x0 x1 x2 x3 x4
    generalize (w2.alloc (.cells #[(.int .i64 p), (.slice A l.length cap), (.int .i64 k), (.int .i64 c), (.map (some b))] 104)) = w3 at *
    refine (mrank p k c l A cap b zs.length zs _ HB_3.out.at SM_3.out hn hnz).mono ?_
    rintro e w4 ⟨rfl, hb⟩
    have Z4 := Lib.hid (within_of hb).size
    have W4 := Lib.hid (within_on W3.out (within_of hb) W3.out.size (.inr (Nat.le_refl _)))
    have HB_4 := Lib.hid (HB_3.out.within (within_of hb) (by omega))
    have HZ_4 := Lib.hid (HZ_3.out.within (within_of hb) (by omega))
    have BX_4 := Lib.hid (BX_3.out.within (within_of hb) (by omega))
    have SM_4 := Lib.hid (SM_3.out.within (within_of hb) (by omega))
    have BB_4 := Lib.hid (BB_3.out.within (within_of hb) (by omega))
    clear hb
    obtain ⟨r, hr⟩ : ∃ r, rankSV p k c l zs = r := ⟨_, rfl⟩
    rw [hr] at HQ ⊢
    clear hr
    by_cases he : r = (zs.length : Int)
    · have HE := Lib.hid (HIND.out (HQ.out.trans (decide_eq_true he)))
      have he2 : (r == (zs.length : Int)) = true := by simpa using he
      clear he
      go_wp2_with fail
      go_ret
      exact ⟨by rw [HE.out]; rfl, W4.out⟩
    · have HE := Lib.hid (HYES.out (HQ.out.trans (decide_eq_false he)))
      have he2 : (r == (zs.length : Int)) = false := by simpa using he
      clear he
      go_wp2_with fail
      go_loopw [12, 32] (fun _ i wr => ∃ j : Nat, j ≤ zs.length ∧ i = .int .i64 j ∧ (∀ u, u < j → indB p k c l (woL zs (zs.getD u 0)) = true) ∧ SetM wr b (zs.length + j) zs ∧ Within b (b + 1) w4 wr) (fun _ i _ => zs.length - (intOf i).toNat)
      case atStart => exact ⟨0, Nat.zero_le _, rfl, fun u hu => absurd hu (Nat.not_lt_zero _), SM_4.out, Within.refl _ _ _⟩
      case round =>
        obtain ⟨j, hj, rfl, hok, hset, hwi⟩ := hrel
        have HOK := Lib.hid hok
        have HSM := Lib.hid hset
        have HWI := Lib.hid hwi
        have HBR := Lib.hid (HB_4.out.within hwi (.inl HBG.out))
        obtain ⟨c0, c1, c2, c3, c4⟩ := (BB_4.out.within hwi (.inr (by have := HBLT.out; omega))).cells
        have hzr := HZ_4.out.within hwi (.inl (Nat.le_trans hzh HBG.out))
        clear hok hset hwi
        by_cases hlt : j < zs.length
        · have hji : (j : Int) < (zs.length : Int) := by omega
          obtain ⟨zb, zo, rfl, hzc⟩ := row_at hzr (by omega)
          have hz := hzc j hlt
          have HBADJ := Lib.hid (HBAD.out j hlt)
          have HWFJ := Lib.hid (HWF.out j hlt)
          have hmem : zs.getD j 0 ∈ zs := by simp [List.getD, List.getElem?_eq_getElem hlt]
          have HMEM := Lib.hid hmem
          have HWOJ := Lib.hid (HWO.out _ hmem)
          have HNX := Lib.hid (fun h => step_all (P := fun u => indB p k c l (woL zs (zs.getD u 0)) = true) HOK.out h)
          obtain ⟨z, hzd⟩ : ∃ z, zs.getD j 0 = z := ⟨_, rfl⟩
          rw [hzd] at hz HBADJ HWFJ HMEM HWOJ
          have HNX2 := Lib.hid (fun h => HNX.out (show indB p k c l (woL zs (zs.getD j 0)) = true from by rw [hzd]; exact h))
          clear hzd hzc hmem hzr
          have HNN := Lib.hid (show zs.length + j + 1 ≤ 1048576 from by have := H24.out; omega)
          obtain ⟨r2, hr2⟩ : ∃ r2, rankSV p k c l (woL zs z) = r2 := ⟨_, rfl⟩
          rw [hr2] at HWOJ
          have HR2 := Lib.hid (show rankSV p k c l (zs.filter fun y => !decide (y = z)) = r2 from hr2)
          clear hr2
          by_cases c9 : r2 < (zs.length : Int) - 1
          · have HQ2 := Lib.hid (HBADJ.out (HWOJ.out.trans (by rw [decide_eq_true c9]; rfl)))
            have d9 : decide (r2 < (zs.length : Int) - 1) = true := decide_eq_true c9
            go_wp2_with (go_at_call 108; refine (rankWo p k c l A cap b (zs.length + j) w.heap.size zs z _ HBR.out HBG.out HSM.out hn HNN.out HWFJ.out HMEM.out).mono ?_; rintro e w5 ⟨rfl, hset, hwi⟩; rw [HR2.out]; have HSM5 := Lib.hid hset; have HWI5 := Lib.hid (HWI.out.trans hwi); clear hset hwi)
            go_ret
            have hsz := W4.out.size
            exact ⟨by rw [HQ2.out]; rfl, within_on W4.out HWI5.out hsz (.inl HBG.out)⟩
          · have HQ2 := Lib.hid (HNX2.out (HWOJ.out.trans (by rw [decide_eq_false c9]; rfl)))
            have d9 : decide (r2 < (zs.length : Int) - 1) = false := decide_eq_false c9
            go_wp2_with (go_at_call 108; refine (rankWo p k c l A cap b (zs.length + j) w.heap.size zs z _ HBR.out HBG.out HSM.out hn HNN.out HWFJ.out HMEM.out).mono ?_; rintro e w5 ⟨rfl, hset, hwi⟩; rw [HR2.out]; have HSM5 := Lib.hid hset; have HWI5 := Lib.hid (HWI.out.trans hwi); clear hset hwi)
            go_roundw
            case rel => exact ⟨j + 1, by omega, by go_num, HQ2.out, HSM5.out, HWI5.out⟩
            case measure => simp [intOf]; omega
        · obtain rfl : j = zs.length := by omega
          go_wp2_with fail
          go_ret
          have hsz := W4.out.size
          exact ⟨by rw [HE.out HOK.out]; rfl, within_on W4.out HWI.out hsz (.inl HBG.out)⟩
end Go.Proofs.Ytgmcibcjplncaaa
/- The law FnExactIsCircuit returns true at every input. No condition. -/
namespace Go.Proofs.Ytgmcibcjplncaaa
open Go.RowKit

set_option maxHeartbeats 2000000 in
set_option maxRecDepth 100000 in
theorem lawIsCircuit (q : Int) (A : Option Addr) (cap : Nat) (l : List (Int × Int)) (a1 : Int) (a2 : Int) (Z : Option Addr) (len cz : Nat) (zs : List Int) (w : World) (hl : l.length ≤ maxLen) (hb : BarsAt w w.heap.size A l) (_w1 : (Lit.int .i64 a1).wf = true) (_w2 : (Lit.int .i64 a2).wf = true) (hz : IsRow .i64 w Z len cz zs) :
    Calls Try.prog 13 #[.agg #[.int .i64 q, .slice A l.length cap], .int .i64 a1, .int .i64 a2, .slice Z len cz] w fun e w' => e = .returned (.bool true) ∧ Below w.heap.size w w' := by
  obtain ⟨ys, rfl, hi, hym⟩ := hz.ints
  have HB_0 := Lib.hid (bars_in hb)
  have HZ_0 := Lib.hid hi
  clear hb hz hi
  by_cases hny : ys.length ≤ 1048576
  · have hny' : ¬ (1048576 : Int) < (ys.length : Int) := by omega
    by_cases hn : l.length ≤ 1048576
    · have W0 := Lib.hid (Below.refl w.heap.size w)
      have hal := new_below w (.cells #[.int .i64 q, .slice A l.length cap] 24)
      have Z1 := Lib.hid (within_of hal).size
      have W1 := Lib.hid (within_on W0.out (within_of hal) W0.out.size (.inr (Nat.le_refl _)))
      have HB_1 := Lib.hid (HB_0.out.within (within_of hal) (by omega))
      have HZ_1 := Lib.hid (HZ_0.out.within (within_of hal) (by omega))
      clear hal
      have hsz : (w.alloc (.cells #[.int .i64 q, .slice A l.length cap] 24)).heap.size = w.heap.size + 1 := by simp
      have Y1 := Lib.hid hsz
      clear hsz
      have BX_1 := Lib.hid (box_new w q (.slice A l.length cap) 24)
      go_enter Try.func13, Try.ntmps13
      go_wp2_with fail
      generalize (w.alloc (.cells #[.int .i64 q, .slice A l.length cap] 24)) = w1 at *
      refine (szGraph_c q A l.length cap 1048576 _ (by omega) (by omega)).mono ?_
      rintro e w2 ⟨rfl, hb⟩
      have Z2 := Lib.hid (within_of hb).size
      have W2 := Lib.hid (within_on W1.out (within_of hb) W1.out.size (.inr (Nat.le_refl _)))
      have HB_2 := Lib.hid (HB_1.out.within (within_of hb) (by omega))
      have HZ_2 := Lib.hid (HZ_1.out.within (within_of hb) (by omega))
      have BX_2 := Lib.hid (BX_1.out.within (within_of hb) (by omega))
      clear hb
      have hnn : ¬ (1048576 : Int) - (l.length : Int) < 0 := by omega
      obtain ⟨g01, g02, g03⟩ := BX_2.out
      go_wp2_with fail
      clear g01 g02 g03
      refine (toGraph_c q l A cap _ HB_2.out.at hn).mono ?_
      rintro e w3 ⟨g0, rfl, ho, hb⟩
      have Z3 := Lib.hid (within_of hb).size
      have W3 := Lib.hid (within_on W2.out (within_of hb) W2.out.size (.inr (Nat.le_refl _)))
      have HB_3 := Lib.hid (HB_2.out.within (within_of hb) (by omega))
      have HZ_3 := Lib.hid (HZ_2.out.within (within_of hb) (by omega))
      have BX_3 := Lib.hid (BX_2.out.within (within_of hb) (by omega))
      have SG_3 := Lib.hid ((own_in ho).bars)
      clear ho hb
      go_wp2_with fail
      refine (toInts_c ys Z cz 0 _ _ HZ_3.out hny).mono ?_
      rintro e w4 ⟨g1, rfl, ho, hb⟩
      have Z4 := Lib.hid (within_of hb).size
      have W4 := Lib.hid (within_on W3.out (within_of hb) W3.out.size (.inr (Nat.le_refl _)))
      have HB_4 := Lib.hid (HB_3.out.within (within_of hb) (by omega))
      have HZ_4 := Lib.hid (HZ_3.out.within (within_of hb) (by omega))
      have BX_4 := Lib.hid (BX_3.out.within (within_of hb) (by omega))
      have SG_4 := Lib.hid (SG_3.out.within (within_of hb) (by omega))
      have SI_4 := Lib.hid ((own_ints' ho).reads)
      clear ho hb
      go_wp2_with fail
      refine (specCir q a1 a2 l ys (some ⟨g0, 0, none⟩) (some ⟨g1, 0, none⟩) l.length ys.length _ _ _ SG_4.out.at SI_4.out hn hny).mono ?_
      rintro e w5 ⟨rfl, hb⟩
      have Z5 := Lib.hid (within_of hb).size
      have W5 := Lib.hid (within_on W4.out (within_of hb) W4.out.size (.inr (Nat.le_refl _)))
      have HB_5 := Lib.hid (HB_4.out.within (within_of hb) (by omega))
      have HZ_5 := Lib.hid (HZ_4.out.within (within_of hb) (by omega))
      have BX_5 := Lib.hid (BX_4.out.within (within_of hb) (by omega))
      have SG_5 := Lib.hid (SG_4.out.within (within_of hb) (by omega))
      have SI_5 := Lib.hid (SI_4.out.within (within_of hb) (by omega))
      clear hb
      obtain ⟨g01, g02, g03⟩ := BX_5.out
      go_wp2_with fail
      clear g01 g02 g03
      refine (toGraph_c q l A cap _ HB_5.out.at hn).mono ?_
      rintro e w6 ⟨x0, rfl, ho, hb⟩
      have Z6 := Lib.hid (within_of hb).size
      have W6 := Lib.hid (within_on W5.out (within_of hb) W5.out.size (.inr (Nat.le_refl _)))
      have HB_6 := Lib.hid (HB_5.out.within (within_of hb) (by omega))
      have HZ_6 := Lib.hid (HZ_5.out.within (within_of hb) (by omega))
      have BX_6 := Lib.hid (BX_5.out.within (within_of hb) (by omega))
      have SG_6 := Lib.hid (SG_5.out.within (within_of hb) (by omega))
      have SI_6 := Lib.hid (SI_5.out.within (within_of hb) (by omega))
      have SX_6 := Lib.hid (own_in ho)
      clear ho hb
      go_wp2_with fail
      have hal := new_below w6 (.cells #[.int .i64 q, .slice (some ⟨x0, 0, none⟩) l.length l.length] 35)
      have Z7 := Lib.hid (within_of hal).size
      have W7 := Lib.hid (within_on W6.out (within_of hal) W6.out.size (.inr (Nat.le_refl _)))
      have HB_7 := Lib.hid (HB_6.out.within (within_of hal) (by omega))
      have HZ_7 := Lib.hid (HZ_6.out.within (within_of hal) (by omega))
      have BX_7 := Lib.hid (BX_6.out.within (within_of hal) (by omega))
      have SG_7 := Lib.hid (SG_6.out.within (within_of hal) (by omega))
      have SI_7 := Lib.hid (SI_6.out.within (within_of hal) (by omega))
      have SX_7 := Lib.hid (SX_6.out.within (within_of hal) (by omega))
      clear hal
      have hsz : (w6.alloc (.cells #[.int .i64 q, .slice (some ⟨x0, 0, none⟩) l.length l.length] 35)).heap.size = w6.heap.size + 1 := by simp
      have Y7 := Lib.hid hsz
      clear hsz
      have XX_7 := Lib.hid (box_new w6 q (.slice (some ⟨x0, 0, none⟩) l.length l.length) 35)
      generalize (w6.alloc (.cells #[.int .i64 q, .slice (some ⟨x0, 0, none⟩) l.length l.length] 35)) = w7 at *
      refine (toInts_c ys Z cz 0 _ _ HZ_7.out hny).mono ?_
      rintro e w8 ⟨x1, rfl, ho, hb⟩
      have Z8 := Lib.hid (within_of hb).size
      have W8 := Lib.hid (within_on W7.out (within_of hb) W7.out.size (.inr (Nat.le_refl _)))
      have HB_8 := Lib.hid (HB_7.out.within (within_of hb) (by omega))
      have HZ_8 := Lib.hid (HZ_7.out.within (within_of hb) (by omega))
      have BX_8 := Lib.hid (BX_7.out.within (within_of hb) (by omega))
      have SG_8 := Lib.hid (SG_7.out.within (within_of hb) (by omega))
      have SI_8 := Lib.hid (SI_7.out.within (within_of hb) (by omega))
      have SX_8 := Lib.hid (SX_7.out.within (within_of hb) (by omega))
      have XX_8 := Lib.hid (XX_7.out.within (within_of hb) (by omega))
      have SY_8 := Lib.hid (own_ints' ho)
      clear ho hb
      obtain ⟨g01, g02, g03⟩ := XX_8.out
      go_wp2_with fail
      clear g01 g02 g03
      refine (implCir q a1 a2 l ys (some ⟨x0, 0, none⟩) (some ⟨x1, 0, none⟩) l.length ys.length _ _ _ SX_8.out.bars.at SY_8.out.reads hn hny).mono ?_
      rintro e w9 ⟨rfl, hb⟩
      have Z9 := Lib.hid (within_of hb).size
      have W9 := Lib.hid (within_on W8.out (within_of hb) W8.out.size (.inr (Nat.le_refl _)))
      have HB_9 := Lib.hid (HB_8.out.within (within_of hb) (by omega))
      have HZ_9 := Lib.hid (HZ_8.out.within (within_of hb) (by omega))
      have BX_9 := Lib.hid (BX_8.out.within (within_of hb) (by omega))
      have SG_9 := Lib.hid (SG_8.out.within (within_of hb) (by omega))
      have SI_9 := Lib.hid (SI_8.out.within (within_of hb) (by omega))
      have SX_9 := Lib.hid (SX_8.out.within (within_of hb) (by omega))
      have XX_9 := Lib.hid (XX_8.out.within (within_of hb) (by omega))
      have SY_9 := Lib.hid (SY_8.out.within (within_of hb) (by omega))
      clear hb
      have kk0 := box2 BX_9.out XX_9.out
      have kk := box2 BX_9.out XX_9.out
      have hdr : Below w9.heap.size w9 w9.drew := (Below.refl _ _).drew
      have Z10 := Lib.hid (within_of hdr).size
      have W10 := Lib.hid (within_on W9.out (within_of hdr) W9.out.size (.inr (Nat.le_refl _)))
      have HB_10 := Lib.hid (HB_9.out.within (within_of hdr) (by omega))
      have HZ_10 := Lib.hid (HZ_9.out.within (within_of hdr) (by omega))
      have BX_10 := Lib.hid (BX_9.out.within (within_of hdr) (by omega))
      have SG_10 := Lib.hid (SG_9.out.within (within_of hdr) (by omega))
      have SI_10 := Lib.hid (SI_9.out.within (within_of hdr) (by omega))
      have SX_10 := Lib.hid (SX_9.out.within (within_of hdr) (by omega))
      have XX_10 := Lib.hid (XX_9.out.within (within_of hdr) (by omega))
      have SY_10 := Lib.hid (SY_9.out.within (within_of hdr) (by omega))
      clear hdr
      go_wp2_with fail
      go_region_held3 (fun W' => W'.cell? ⟨w.heap.size, 0, none⟩ = some (.int .i64 q) ∧ W'.cell? ⟨w.heap.size, 1, none⟩ = some ((.slice A l.length cap)) ∧ W'.cell? ⟨w6.heap.size, 0, none⟩ = some (.int .i64 q) ∧ W'.cell? ⟨w6.heap.size, 1, none⟩ = some ((.slice (some ⟨x0, 0, none⟩) l.length l.length)))
        (first | exact kk | exact box2 BX_11.out XX_11.out | exact box2 BX_12.out XX_12.out | fail)
        (first
          | (go_at_call 20; refine (toGraph_c q l A cap _ ?_ hn).mono ?_; (exact HB_10.out.at); rintro e w11 ⟨y0, rfl, ho, hb⟩; have Z11 := Lib.hid (within_of hb).size; have W11 := Lib.hid (within_on W10.out (within_of hb) W10.out.size (.inr (Nat.le_refl _))); have HB_11 := Lib.hid (HB_10.out.within (within_of hb) (by omega)); have HZ_11 := Lib.hid (HZ_10.out.within (within_of hb) (by omega)); have BX_11 := Lib.hid (BX_10.out.within (within_of hb) (by omega)); have SG_11 := Lib.hid (SG_10.out.within (within_of hb) (by omega)); have SI_11 := Lib.hid (SI_10.out.within (within_of hb) (by omega)); have SX_11 := Lib.hid (SX_10.out.within (within_of hb) (by omega)); have XX_11 := Lib.hid (XX_10.out.within (within_of hb) (by omega)); have SY_11 := Lib.hid (SY_10.out.within (within_of hb) (by omega)); have YY := Lib.hid (own_bars ho); clear ho hb)
          | (go_at_call 24; refine (eqGraph_c q l _ _ l.length l.length _ ?_ ?_ hn).mono ?_; (exact SX_11.out.bars.at); (exact YY.out); rintro e w12 ⟨rfl, hb⟩; have Z12 := Lib.hid (within_of hb).size; have W12 := Lib.hid (within_on W11.out (within_of hb) W11.out.size (.inr (Nat.le_refl _))); have HB_12 := Lib.hid (HB_11.out.within (within_of hb) (by omega)); have HZ_12 := Lib.hid (HZ_11.out.within (within_of hb) (by omega)); have BX_12 := Lib.hid (BX_11.out.within (within_of hb) (by omega)); have SG_12 := Lib.hid (SG_11.out.within (within_of hb) (by omega)); have SI_12 := Lib.hid (SI_11.out.within (within_of hb) (by omega)); have SX_12 := Lib.hid (SX_11.out.within (within_of hb) (by omega)); have XX_12 := Lib.hid (XX_11.out.within (within_of hb) (by omega)); have SY_12 := Lib.hid (SY_11.out.within (within_of hb) (by omega)); clear hb))
      go_wp2_with fail
      refine (toInts_c ys Z cz 0 _ _ HZ_12.out hny).mono ?_
      rintro e w13 ⟨y1, rfl, ho, hb⟩
      have Z13 := Lib.hid (within_of hb).size
      have W13 := Lib.hid (within_on W12.out (within_of hb) W12.out.size (.inr (Nat.le_refl _)))
      have HB_13 := Lib.hid (HB_12.out.within (within_of hb) (by omega))
      have HZ_13 := Lib.hid (HZ_12.out.within (within_of hb) (by omega))
      have BX_13 := Lib.hid (BX_12.out.within (within_of hb) (by omega))
      have SG_13 := Lib.hid (SG_12.out.within (within_of hb) (by omega))
      have SI_13 := Lib.hid (SI_12.out.within (within_of hb) (by omega))
      have SX_13 := Lib.hid (SX_12.out.within (within_of hb) (by omega))
      have XX_13 := Lib.hid (XX_12.out.within (within_of hb) (by omega))
      have SY_13 := Lib.hid (SY_12.out.within (within_of hb) (by omega))
      have SZ_13 := Lib.hid ((own_ints' ho).reads)
      clear ho hb
      go_wp2_with fail
      refine (eqInts_c ys (some ⟨x1, 0, none⟩) (some ⟨y1, 0, none⟩) ys.length ys.length _ _ _ _ _ SY_13.out.reads SZ_13.out hny).mono ?_
      rintro e w14 ⟨rfl, hb⟩
      have Z14 := Lib.hid (within_of hb).size
      have W14 := Lib.hid (within_on W13.out (within_of hb) W13.out.size (.inr (Nat.le_refl _)))
      have HB_14 := Lib.hid (HB_13.out.within (within_of hb) (by omega))
      have HZ_14 := Lib.hid (HZ_13.out.within (within_of hb) (by omega))
      have BX_14 := Lib.hid (BX_13.out.within (within_of hb) (by omega))
      have SG_14 := Lib.hid (SG_13.out.within (within_of hb) (by omega))
      have SI_14 := Lib.hid (SI_13.out.within (within_of hb) (by omega))
      have SX_14 := Lib.hid (SX_13.out.within (within_of hb) (by omega))
      have XX_14 := Lib.hid (XX_13.out.within (within_of hb) (by omega))
      have SY_14 := Lib.hid (SY_13.out.within (within_of hb) (by omega))
      have SZ_14 := Lib.hid (SZ_13.out.within (within_of hb) (by omega))
      clear hb
      go_wp2_with fail
      go_ret
      exact ⟨rfl, W14.out⟩
    · have hx : (1048576 : Int) < (l.length : Int) := by omega
      have h63 : l.length ≤ 9223372036854775807 := by unfold maxLen at hl; omega
      have HA := Lib.hid (new_below w (.cells #[.int .i64 q, .slice A l.length cap] 24))
      go_enter Try.func13, Try.ntmps13
      go_wp2_with fail
      refine (szGraph_no q A l.length cap 1048576 _ h63 hx (by omega)).mono ?_
      rintro e w1 ⟨rfl, hb1⟩
      have W1 := Lib.hid (below_on HA.out hb1 HA.out.size)
      clear hb1
      go_wp2_with fail
      go_ret
      exact ⟨rfl, W1.out⟩
  · have hx : (1048576 : Int) < (ys.length : Int) := by omega
    have HA := Lib.hid (new_below w (.cells #[.int .i64 q, .slice A l.length cap] 24))
    go_enter Try.func13, Try.ntmps13
    go_wp2_with fail
    go_ret
    exact ⟨rfl, HA.out⟩
end Go.Proofs.Ytgmcibcjplncaaa
