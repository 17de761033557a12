/- Several texts in one, in the order in which they build on each other: what stands on the way to the law; each names its own matter. No condition. -/
import Derived.Test.YtgmcibcjplncaaaMrGC
import Derived.Test.YtgmcibcjplncaaaIndM
import Derived.Test.YtgmcibcjplncaaaGrow
import Derived.Test.YtgmcibcjplncaaaPlaM
import Derived.Test.YtgmcibcjplncaaaIsPebM
import Derived.Test.YtgmcibcjplncaaaIntsO
import Derived.Test.YtgmcibcjplncaaaCpR
import Derived.Deep.RegionHeld3
import Derived.Maps.OwnOps
import Derived.Test.YtgmcibcjplncaaaIntArg
import Derived.Test.YtgmcibcjplncaaaState
/- What ClosureOf answers, and what stands while it is collected. No program's walk. No condition. -/
namespace Go.Proofs.Ytgmcibcjplncaaa
open Go.RowKit

/-- The bars below n that leave the rank r as it is. -/
noncomputable def cloK (p k c : Int) (l : List (Int × Int)) (zs : List Int) (r : Int) : Nat → List Int
  | 0 => []
  | n + 1 => if rankSV p k c l (zs ++ [(n : Int)]) = r then cloK p k c l zs r n ++ [(n : Int)] else cloK p k c l zs r n
theorem cloK_len (p k c : Int) (l : List (Int × Int)) (zs : List Int) (r : Int) : ∀ n, (cloK p k c l zs r n).length ≤ n := by
  intro n
  induction n with
  | zero => exact Nat.le_refl _
  | succ n ih =>
    unfold cloK
    split
    · simp; omega
    · omega
theorem cloK_in {p k c : Int} {l : List (Int × Int)} {zs : List Int} {r : Int} {n : Nat} (h : rankSV p k c l (zs ++ [(n : Int)]) = r) : cloK p k c l zs r (n + 1) = cloK p k c l zs r n ++ [(n : Int)] := by rw [cloK, if_pos h]
theorem cloK_out {p k c : Int} {l : List (Int × Int)} {zs : List Int} {r : Int} {n : Nat} (h : ¬ rankSV p k c l (zs ++ [(n : Int)]) = r) : cloK p k c l zs r (n + 1) = cloK p k c l zs r n := by rw [cloK, if_neg h]
/-- What ClosureOf answers. -/
noncomputable def cloV (p k c : Int) (l : List (Int × Int)) (zs : List Int) : List Int := if (setB p l zs && rangeB k c) = true then cloK p k c l zs (rankSV p k c l zs) l.length else []
theorem cloV_len (p k c : Int) (l : List (Int × Int)) (zs : List Int) : (cloV p k c l zs).length ≤ l.length := by
  unfold cloV
  split
  · exact cloK_len _ _ _ _ _ _ _
  · simp
theorem cloV_no {p k c : Int} {l : List (Int × Int)} {zs : List Int} (h : setB p l zs = false ∨ rangeB k c = false) : cloV p k c l zs = [] := by
  unfold cloV
  rcases h with h | h <;> rw [h] <;> simp
theorem cloV_yes {p k c : Int} {l : List (Int × Int)} {zs : List Int} (h : setB p l zs = true) (h2 : rangeB k c = true) : cloV p k c l zs = cloK p k c l zs (rankSV p k c l zs) l.length := by unfold cloV; rw [h, h2]; rfl
theorem GrowP.below {a b : Nat} {V W W' : World} {ys : List Int} {A : Option Addr} {cap lo hi : Nat} (h : GrowP a b V W ys A cap lo hi) (hb : Below W.heap.size W W') : GrowP a b V W' ys A cap lo hi :=
  ⟨h.row.within (within_of hb) (.inr (Nat.zero_le _)), h.rng, Nat.le_trans h.le hb.size, ⟨hb.os.trans h.wi.os, hb.tape.trans h.wi.tape, hb.output.trans h.wi.output, Nat.le_trans h.wi.size hb.size, fun i hi hd => (hb.block i (Nat.lt_of_lt_of_le hi h.wi.size)).trans (h.wi.block i hi hd)⟩⟩
/-- A row that is collected beside a block b that is written. -/
structure GrowQ (b : Nat) (V W : World) (ys : List Int) (A : Option Addr) (cap lo hi : Nat) : Prop where
  row : OwnR W lo hi A cap ys
  ge : V.heap.size ≤ lo
  le : lo ≤ W.heap.size
  wi : Within b (b + 1) V W
theorem GrowQ.map {b : Nat} {V W W' : World} {ys : List Int} {A : Option Addr} {cap lo hi : Nat} (h : GrowQ b V W ys A cap lo hi) (hw : Within b (b + 1) W W') (hb : b < V.heap.size) : GrowQ b V W' ys A cap lo hi :=
  ⟨h.row.within hw (.inr (by have := h.ge; omega)), h.ge, Nat.le_trans h.le hw.size, h.wi.trans hw⟩
theorem GrowQ.push {b : Nat} {V W W' : World} {ys : List Int} {y : Int} {A A' : Option Addr} {cap lo hi c' lo' hi' : Nat} (h : GrowQ b V W ys A cap lo hi) (hr : OwnR W' lo' hi' A' c' (ys ++ [y])) (hd : (lo' = lo ∧ hi' = hi) ∨ (W.heap.size ≤ lo' ∧ lo' ≤ W'.heap.size ∧ hi' ≤ W'.heap.size)) (hw : Within lo hi W W') : GrowQ b V W' (ys ++ [y]) A' c' lo' hi' := by
  obtain ⟨_, h2, h3, h4⟩ := h
  have s1 := h4.size
  have s2 := hw.size
  refine ⟨hr, ?_, ?_, ⟨hw.os.trans h4.os, hw.tape.trans h4.tape, hw.output.trans h4.output, Nat.le_trans s1 s2, fun i hi hd => (hw.block i (by omega) (by omega)).trans (h4.block i hi hd)⟩⟩
  · rcases hd with ⟨rfl, rfl⟩ | hd
    · exact h2
    · omega
  · rcases hd with ⟨rfl, rfl⟩ | hd
    · omega
    · exact hd.2.1
end Go.Proofs.Ytgmcibcjplncaaa
/- A list with a number put in its place. No program. No condition. -/
namespace Go.Proofs.Ytgmcibcjplncaaa
open Go.RowKit

/-- What is collected of the first j, and whether the number is in it. -/
def wiS (zs : List Int) (x : Int) : Nat → List Int × Bool
  | 0 => ([], false)
  | j + 1 => if zs.getD j 0 = x then ((wiS zs x j).1 ++ [zs.getD j 0], true) else if x < zs.getD j 0 ∧ (wiS zs x j).2 = false then ((wiS zs x j).1 ++ [x] ++ [zs.getD j 0], true) else ((wiS zs x j).1 ++ [zs.getD j 0], (wiS zs x j).2)
def wiL (zs : List Int) (x : Int) : List Int := if (wiS zs x zs.length).2 = true then (wiS zs x zs.length).1 else (wiS zs x zs.length).1 ++ [x]
theorem wiS_eq {zs : List Int} {x : Int} {j : Nat} (h : zs.getD j 0 = x) : wiS zs x (j + 1) = ((wiS zs x j).1 ++ [zs.getD j 0], true) := by rw [wiS, if_pos h]
theorem wiS_put {zs : List Int} {x : Int} {j : Nat} (h : ¬ zs.getD j 0 = x) (h2 : x < zs.getD j 0) (h3 : (wiS zs x j).2 = false) : wiS zs x (j + 1) = ((wiS zs x j).1 ++ [x] ++ [zs.getD j 0], true) := by rw [wiS, if_neg h, if_pos ⟨h2, h3⟩]
theorem wiS_on {zs : List Int} {x : Int} {j : Nat} (h : ¬ zs.getD j 0 = x) (h2 : ¬ (x < zs.getD j 0 ∧ (wiS zs x j).2 = false)) : wiS zs x (j + 1) = ((wiS zs x j).1 ++ [zs.getD j 0], (wiS zs x j).2) := by rw [wiS, if_neg h, if_neg h2]
theorem wiS_len (zs : List Int) (x : Int) : ∀ j, (wiS zs x j).1.length ≤ j + (if (wiS zs x j).2 = true then 1 else 0) := by
  intro j
  induction j with
  | zero => simp [wiS]
  | succ j ih =>
    by_cases c1 : zs.getD j 0 = x
    · rw [wiS_eq c1]
      simp
      split at ih <;> omega
    · by_cases c2 : x < zs.getD j 0 ∧ (wiS zs x j).2 = false
      · rw [wiS_put c1 c2.1 c2.2]
        rw [c2.2] at ih
        simp at ih ⊢
        omega
      · rw [wiS_on c1 c2]
        simp
        split at ih <;> (try split) <;> omega
theorem wiL_len (zs : List Int) (x : Int) : (wiL zs x).length ≤ zs.length + 1 := by
  have h := wiS_len zs x zs.length
  unfold wiL
  split
  · rename_i e; rw [if_pos e] at h; exact h
  · rename_i e; rw [if_neg e] at h; simp; omega
theorem wiS_mem (zs : List Int) (x y : Int) : ∀ j, j ≤ zs.length → (y ∈ (wiS zs x j).1 ↔ y ∈ zs.take j ∨ ((wiS zs x j).2 = true ∧ y = x)) := by
  intro j
  induction j with
  | zero => intro _; simp [wiS]
  | succ j ih =>
    intro hj
    have h := ih (by omega)
    have ht : (y ∈ zs.take (j + 1)) ↔ (y ∈ zs.take j ∨ y = zs.getD j 0) := by
      have e : zs.take (j + 1) = zs.take j ++ [zs.getD j 0] := by
        have hl : j < zs.length := by omega
        rw [List.take_add_one, List.getElem?_eq_getElem hl, List.getD, List.getElem?_eq_getElem hl]
        rfl
      rw [e, List.mem_append, List.mem_singleton]
    rw [ht]
    by_cases c1 : zs.getD j 0 = x
    · rw [wiS_eq c1, List.mem_append, h]
      simp only [List.mem_singleton, c1]
      constructor
      · rintro ((h | h) | h)
        · exact .inl (.inl h)
        · exact .inr ⟨trivial, h.2⟩
        · exact .inl (.inr h)
      · rintro ((h | h) | h)
        · exact .inl (.inl h)
        · exact .inr h
        · exact .inr h.2
    · by_cases c2 : x < zs.getD j 0 ∧ (wiS zs x j).2 = false
      · rw [wiS_put c1 c2.1 c2.2, List.mem_append, List.mem_append, h, c2.2]
        simp only [List.mem_singleton]
        constructor
        · rintro (((h | h) | h) | h)
          · exact .inl (.inl h)
          · exact absurd h.1 (by decide)
          · exact .inr ⟨trivial, h⟩
          · exact .inl (.inr h)
        · rintro ((h | h) | h)
          · exact .inl (.inl (.inl h))
          · exact .inr h
          · exact .inl (.inr h.2)
      · rw [wiS_on c1 c2, List.mem_append, h]
        simp only [List.mem_singleton]
        constructor
        · rintro ((h | h) | h)
          · exact .inl (.inl h)
          · exact .inr h
          · exact .inl (.inr h)
        · rintro ((h | h) | h)
          · exact .inl (.inl h)
          · exact .inr h
          · exact .inl (.inr h)
theorem wiL_mem (zs : List Int) (x y : Int) : y ∈ wiL zs x ↔ y ∈ zs ++ [x] := by
  have h := wiS_mem zs x y zs.length (Nat.le_refl _)
  rw [List.take_length] at h
  rw [List.mem_append, List.mem_singleton]
  unfold wiL
  split
  · rename_i e
    rw [h, e]
    exact ⟨fun q => q.elim .inl fun q => .inr q.2, fun q => q.elim .inl fun q => .inr ⟨rfl, q⟩⟩
  · rename_i e
    rw [List.mem_append, List.mem_singleton, h]
    exact ⟨fun q => q.elim (fun q => q.elim .inl fun q => absurd q.1 e) .inr, fun q => q.elim (fun q => .inl (.inl q)) .inr⟩
theorem rank_wi (p k c : Int) (l : List (Int × Int)) (zs : List Int) (x : Int) : rankSV p k c l (wiL zs x) = rankSV p k c l (zs ++ [x]) := rankSV_same fun _ _ => wiL_mem zs x _
end Go.Proofs.Ytgmcibcjplncaaa
/- What spec.l5With answers. No condition. -/
namespace Go.Proofs.Ytgmcibcjplncaaa
open Go.RowKit

set_option maxHeartbeats 4000000 in
set_option maxRecDepth 100000 in
theorem wi_c (zs : List Int) (x : Int) (Z : Option Addr) (cz lo hi : Nat) (w : World) (hz : IntsIn w lo hi Z zs) (hnz : zs.length ≤ 1048570) :
    Calls Try.prog 104 #[.slice Z zs.length cz, .int .i64 x] w (IntsO w (wiL zs x)) := by
  have hA := new_below w (.cells #[] 3)
  have hzh := hz.1
  have HA := Lib.hid hA
  have HZ := Lib.hid (hz.within (within_of hA) (.inr (Nat.zero_le _)))
  have HOE := Lib.hid (ownR_empty w)
  have HSZ := Lib.hid (show (w.alloc (.cells #[] 3)).heap.size = w.heap.size + 1 by simp)
  clear hz hA
  go_enter Try.func104, Try.ntmps104
  go_wp2_with fail
  generalize (w.alloc (.cells #[] 3)) = w1 at *
  go_loopw [5, 6, 7] (fun u v i wr => ∃ j : Nat, j ≤ zs.length ∧ i = .int .i64 j ∧ v = .bool (wiS zs x j).2 ∧ ∃ Ao co lo2 hi2, u = .slice Ao (wiS zs x j).1.length co ∧ GrowP w.heap.size (w.heap.size + 1) w1 wr (wiS zs x j).1 Ao co lo2 hi2) (fun _ _ i _ => zs.length - (intOf i).toNat)
  case atStart => exact ⟨0, Nat.zero_le _, rfl, rfl, some ⟨w.heap.size, 0, none⟩, 0, w.heap.size, w.heap.size + 1, rfl, ⟨HOE.out, .inl ⟨rfl, rfl⟩, by have := HSZ.out; omega, Within.refl _ _ _⟩⟩
  case round =>
    obtain ⟨j, hj, rfl, rfl, Ao, co, lo2, hi2, rfl, hst⟩ := hrel
    have HS0 := Lib.hid hst
    have hzr := HZ.out.within hst.wi (.inl hzh)
    have hwl := wiS_len zs x j
    have HWL := Lib.hid (show (wiS zs x j).1.length ≤ 1048574 from by split at hwl <;> omega)
    clear hst hwl
    by_cases hlt : j < zs.length
    · have hji : (j : Int) < (zs.length : Int) := by omega
      obtain ⟨zb, zo, rfl, hzc⟩ := row_at hzr (by omega)
      have hz := hzc j hlt
      have HE1 := Lib.hid (fun h => wiS_eq (zs := zs) (x := x) (j := j) h)
      have HE2 := Lib.hid (fun h h2 h3 => wiS_put (zs := zs) (x := x) (j := j) h h2 h3)
      have HE3 := Lib.hid (fun h h2 => wiS_on (zs := zs) (x := x) (j := j) h h2)
      have hcz : ∀ W' : World, Within w.heap.size (w.heap.size + 1) w1 W' → W'.cell? ⟨zb, zo + j, none⟩ = some (.int .i64 (zs.getD j 0)) := fun W' hw => by
        have hr := HZ.out.within hw (.inl hzh)
        obtain ⟨b1, o1, e1, _, _, hc1⟩ := hr.2 (by omega)
        cases e1
        exact hc1 j hlt
      clear hzc hzr
      obtain ⟨z, hzd⟩ : ∃ z, zs.getD j 0 = z := ⟨_, rfl⟩
      rw [hzd] at hz HE1 HE2 HE3 hcz
      have HCZ := Lib.hid hcz
      clear hcz
      clear hzd
      obtain ⟨s, hs⟩ : ∃ s, wiS zs x j = s := ⟨_, rfl⟩
      rw [hs] at HE1 HE2 HE3 HS0 HWL ⊢
      clear hs
      obtain ⟨ys, pl⟩ := s
      have HS := Lib.hid (show GrowP w.heap.size (w.heap.size + 1) w1 wr ys Ao co lo2 hi2 from HS0.out)
      have HWM := Lib.hid (show ys.length ≤ 1048574 from HWL.out)
      clear HS0 HWL
      by_cases c1 : z = x
      · have HN := Lib.hid (HE1.out c1)
        subst c1
        clear HE1 HE2 HE3
        go_wp2_with (at_builtin; refine wpList_pushR _ rfl _ _ rfl lo2 hi2 Ao co (ys) z rfl HS.out.row _ (by first | rfl | (simp only [World.size_setCell]; rfl)) (by have := HWM.out; first | omega | (simp; omega)) HS.out.le ?_; intro A5 c5 w15 lo5 hi5 hr hor hw; have HG5 := Lib.hid (HS.out.push hr hor hw); clear hr hor hw)
        go_roundw
        case rel => exact ⟨j + 1, by omega, by go_num, by rw [HN.out], A5, c5, lo5, hi5, by rw [HN.out]; simp, by rw [HN.out]; exact HG5.out⟩
        case measure => simp [intOf]; omega
      · have d1 : (z == x) = false := by simpa using c1
        by_cases c2 : x < z
        · cases pl with
          | false =>
            have HN := Lib.hid (HE2.out c1 c2 rfl)
            have d2 : decide (x < z) = true := by simpa using c2
            clear c1 HE1 HE2 HE3
            go_wp2_with (first
              | (at_builtin; refine wpList_pushR _ rfl _ _ rfl lo5 hi5 A5 c5 (ys ++ [x]) z (by rw [List.length_append, List.length_singleton]; rfl) HG5.out.row _ (by first | rfl | (simp only [World.size_setCell]; rfl)) (by have := HWM.out; first | omega | (simp; omega)) HG5.out.le ?_; intro A6 c6 w16 lo6 hi6 hr hor hw; have HG6 := Lib.hid (HG5.out.push hr hor hw); clear hr hor hw)
              | (at_builtin; refine wpList_pushR _ rfl _ _ rfl lo2 hi2 Ao co (ys) x rfl HS.out.row _ (by first | rfl | (simp only [World.size_setCell]; rfl)) (by have := HWM.out; first | omega | (simp; omega)) HS.out.le ?_; intro A5 c5 w15 lo5 hi5 hr hor hw; have HG5 := Lib.hid (HS.out.push hr hor hw); clear hr hor hw; have hz5 := HCZ.out _ HG5.out.wi))
            go_roundw
            case rel => exact ⟨j + 1, by omega, by go_num, by rw [HN.out], A6, c6, lo6, hi6, by rw [HN.out]; simp, by rw [HN.out]; exact HG6.out⟩
            case measure => simp [intOf]; omega
          | true =>
            have HN := Lib.hid (HE3.out c1 (fun q => by cases q.2))
            have d2 : decide (x < z) = true := by simpa using c2
            clear c1 HE1 HE2 HE3
            go_wp2_with (at_builtin; refine wpList_pushR _ rfl _ _ rfl lo2 hi2 Ao co (ys) z rfl HS.out.row _ (by first | rfl | (simp only [World.size_setCell]; rfl)) (by have := HWM.out; first | omega | (simp; omega)) HS.out.le ?_; intro A5 c5 w15 lo5 hi5 hr hor hw; have HG5 := Lib.hid (HS.out.push hr hor hw); clear hr hor hw)
            go_roundw
            case rel => exact ⟨j + 1, by omega, by go_num, by rw [HN.out], A5, c5, lo5, hi5, by rw [HN.out]; simp, by rw [HN.out]; exact HG5.out⟩
            case measure => simp [intOf]; omega
        · have HN := Lib.hid (HE3.out c1 (fun q => c2 q.1))
          have d2 : decide (x < z) = false := by simpa using c2
          clear c1 HE1 HE2 HE3
          go_wp2_with (at_builtin; refine wpList_pushR _ rfl _ _ rfl lo2 hi2 Ao co (ys) z rfl HS.out.row _ (by first | rfl | (simp only [World.size_setCell]; rfl)) (by have := HWM.out; first | omega | (simp; omega)) HS.out.le ?_; intro A5 c5 w15 lo5 hi5 hr hor hw; have HG5 := Lib.hid (HS.out.push hr hor hw); clear hr hor hw)
          go_roundw
          case rel => exact ⟨j + 1, by omega, by go_num, by rw [HN.out], A5, c5, lo5, hi5, by rw [HN.out]; simp, by rw [HN.out]; exact HG5.out⟩
          case measure => simp [intOf]; omega
    · obtain rfl : j = zs.length := by omega
      have hs1 := HA.out.size
      have HRV := Lib.hid (show wiL zs x = if (wiS zs x zs.length).2 = true then (wiS zs x zs.length).1 else (wiS zs x zs.length).1 ++ [x] from rfl)
      obtain ⟨s, hs⟩ : ∃ s, wiS zs x zs.length = s := ⟨_, rfl⟩
      rw [hs] at HRV HS0 HWL ⊢
      clear hs hzr
      obtain ⟨ys, pl⟩ := s
      have HS := Lib.hid (show GrowP w.heap.size (w.heap.size + 1) w1 wr ys Ao co lo2 hi2 from HS0.out)
      have HWM := Lib.hid (show ys.length ≤ 1048574 from HWL.out)
      clear HS0 HWL
      cases pl with
      | true =>
        have HRW := Lib.hid (show wiL zs x = ys from HRV.out.trans (if_pos rfl))
        clear HRV
        go_wp2_with fail
        go_ret
        rw [HRW.out]
        exact ⟨Ao, co, rfl, HS.out.out (Nat.le_refl _) hs1, within_on HA.out HS.out.wi hs1 (.inl (Nat.le_refl _))⟩
      | false =>
        have HRW := Lib.hid (show wiL zs x = ys ++ [x] from HRV.out.trans (if_neg (fun h => by cases h)))
        clear HRV
        go_wp2_with (at_builtin; refine wpList_pushR _ rfl _ _ rfl lo2 hi2 Ao co (ys) x rfl HS.out.row _ (by first | rfl | (simp only [World.size_setCell]; rfl)) (by have := HWM.out; first | omega | (simp; omega)) HS.out.le ?_; intro A5 c5 w15 lo5 hi5 hr hor hw; have HG5 := Lib.hid (HS.out.push hr hor hw); clear hr hor hw)
        go_ret
        rw [HRW.out]
        exact ⟨A5, c5, by simp, HG5.out.out (Nat.le_refl _) hs1, within_on HA.out HG5.out.wi hs1 (.inl (Nat.le_refl _))⟩
end Go.Proofs.Ytgmcibcjplncaaa
/- What spec.ClosureOf answers. No condition. -/
namespace Go.Proofs.Ytgmcibcjplncaaa
open Go.RowKit

set_option maxHeartbeats 4000000 in
set_option maxRecDepth 100000 in
theorem specClo (p k c : Int) (l : List (Int × Int)) (zs : List Int) (A Z : Option Addr) (cap cz lo hi : Nat) (w : World) (hl : BarsAt w w.heap.size A l) (hz : IntsIn w lo hi Z zs) (hn : l.length ≤ 1048576) (hnz : zs.length ≤ 1048576) :
    Calls Try.prog 64 #[.agg #[.int .i64 p, .slice A l.length cap], .int .i64 k, .int .i64 c, .slice Z zs.length cz] w (IntsO w (cloV p k c l zs)) := by
  have HSET : ∀ W : World, BarsAt W W.heap.size A l → ∀ lo hi, IntsIn W lo hi Z zs → Calls Try.prog 101 #[.agg #[.int .i64 p, .slice A l.length cap], .slice Z zs.length cz] W fun e w' => e = .returned (.bool (setB p l zs)) ∧ Below W.heap.size W w' := fun W h lo hi h2 => l5Set_c p l A Z cap cz lo hi zs W h h2 hn hnz
  cases hs : setB p l zs with
  | false =>
    have HR := Lib.hid (cloV_no (k := k) (c := c) (.inl hs))
    rw [hs] at HSET
    clear hs
    have hzh := hz.1
    have W0 := Lib.hid (Below.refl w.heap.size w)
    have HB_0 := Lib.hid (bars_in hl)
    have HZ_0 := Lib.hid (hz)
    clear hl hz
    have Z1 := Lib.hid (within_alloc w (.cells #[.int .i64 p, (.slice A l.length cap)] 35)).size
    have W1 := Lib.hid (within_on W0.out (within_alloc w (.cells #[.int .i64 p, (.slice A l.length cap)] 35)) W0.out.size (.inr (Nat.le_refl _)))
    have HB_1 := Lib.hid (HB_0.out.within (within_alloc w (.cells #[.int .i64 p, (.slice A l.length cap)] 35)) (by omega))
    have HZ_1 := Lib.hid (HZ_0.out.within (within_alloc w (.cells #[.int .i64 p, (.slice A l.length cap)] 35)) (by omega))
    have Y1 := Lib.hid (show (w.alloc (.cells #[.int .i64 p, (.slice A l.length cap)] 35)).heap.size = w.heap.size + 1 by simp)
    have hnew := box_new w p (.slice A l.length cap) 35
    have BX_1 := Lib.hid hnew
    clear hnew
    have Z2 := Lib.hid (within_alloc (w.alloc (.cells #[.int .i64 p, (.slice A l.length cap)] 35)) (.cells #[] 3)).size
    have W2 := Lib.hid (within_on W1.out (within_alloc (w.alloc (.cells #[.int .i64 p, (.slice A l.length cap)] 35)) (.cells #[] 3)) W1.out.size (.inr (Nat.le_refl _)))
    have HB_2 := Lib.hid (HB_1.out.within (within_alloc (w.alloc (.cells #[.int .i64 p, (.slice A l.length cap)] 35)) (.cells #[] 3)) (by omega))
    have HZ_2 := Lib.hid (HZ_1.out.within (within_alloc (w.alloc (.cells #[.int .i64 p, (.slice A l.length cap)] 35)) (.cells #[] 3)) (by omega))
    have BX_2 := Lib.hid (BX_1.out.within (within_alloc (w.alloc (.cells #[.int .i64 p, (.slice A l.length cap)] 35)) (.cells #[] 3)) (by omega))
    have Y2 := Lib.hid (show ((w.alloc (.cells #[.int .i64 p, (.slice A l.length cap)] 35)).alloc (.cells #[] 3)).heap.size = (w.alloc (.cells #[.int .i64 p, (.slice A l.length cap)] 35)).heap.size + 1 by simp)
    have hown := ownR_empty (w.alloc (.cells #[.int .i64 p, (.slice A l.length cap)] 35))
    rw [show (w.alloc (.cells #[.int .i64 p, (.slice A l.length cap)] 35)).heap.size = w.heap.size + 1 by simp] at hown
    have OE_2 := Lib.hid hown
    clear hown
    go_enter Try.func64, Try.ntmps64
    obtain ⟨g0_0, g0_1, g0_2⟩ := BX_2.out
    go_wp2_with fail
    clear g0_0 g0_1 g0_2
    generalize ((w.alloc (.cells #[.int .i64 p, (.slice A l.length cap)] 35)).alloc (.cells #[] 3)) = w2 at *
    generalize (w.alloc (.cells #[.int .i64 p, (.slice A l.length cap)] 35)) = w1 at *
    refine (HSET _ HB_2.out.at _ _ HZ_2.out).mono ?_
    rintro e w3 ⟨rfl, hb⟩
    have Z3 := Lib.hid (within_of hb).size
    have W3 := Lib.hid (within_on W2.out (within_of hb) W2.out.size (.inr (Nat.le_refl _)))
    have HB_3 := Lib.hid (HB_2.out.within (within_of hb) (by omega))
    have HZ_3 := Lib.hid (HZ_2.out.within (within_of hb) (by omega))
    have BX_3 := Lib.hid (BX_2.out.within (within_of hb) (by omega))
    have OE_3 := Lib.hid (OE_2.out.within (within_of hb) (by omega))
    clear hb HSET
    go_wp2_with fail
    go_ret
    exact ⟨some ⟨w.heap.size + 1, 0, none⟩, 0, by rw [HR.out]; rfl, by rw [HR.out]; exact ⟨Nat.le_refl _, .inl rfl⟩, W3.out⟩
  | true =>
    cases hr : rangeB k c with
    | false =>
      have HR := Lib.hid (cloV_no (p := p) (l := l) (zs := zs) (.inr hr))
      have HRG := Lib.hid hr
      clear hr
      rw [hs] at HSET
      clear hs
      have hzh := hz.1
      have W0 := Lib.hid (Below.refl w.heap.size w)
      have HB_0 := Lib.hid (bars_in hl)
      have HZ_0 := Lib.hid (hz)
      clear hl hz
      have Z1 := Lib.hid (within_alloc w (.cells #[.int .i64 p, (.slice A l.length cap)] 35)).size
      have W1 := Lib.hid (within_on W0.out (within_alloc w (.cells #[.int .i64 p, (.slice A l.length cap)] 35)) W0.out.size (.inr (Nat.le_refl _)))
      have HB_1 := Lib.hid (HB_0.out.within (within_alloc w (.cells #[.int .i64 p, (.slice A l.length cap)] 35)) (by omega))
      have HZ_1 := Lib.hid (HZ_0.out.within (within_alloc w (.cells #[.int .i64 p, (.slice A l.length cap)] 35)) (by omega))
      have Y1 := Lib.hid (show (w.alloc (.cells #[.int .i64 p, (.slice A l.length cap)] 35)).heap.size = w.heap.size + 1 by simp)
      have hnew := box_new w p (.slice A l.length cap) 35
      have BX_1 := Lib.hid hnew
      clear hnew
      have Z2 := Lib.hid (within_alloc (w.alloc (.cells #[.int .i64 p, (.slice A l.length cap)] 35)) (.cells #[] 3)).size
      have W2 := Lib.hid (within_on W1.out (within_alloc (w.alloc (.cells #[.int .i64 p, (.slice A l.length cap)] 35)) (.cells #[] 3)) W1.out.size (.inr (Nat.le_refl _)))
      have HB_2 := Lib.hid (HB_1.out.within (within_alloc (w.alloc (.cells #[.int .i64 p, (.slice A l.length cap)] 35)) (.cells #[] 3)) (by omega))
      have HZ_2 := Lib.hid (HZ_1.out.within (within_alloc (w.alloc (.cells #[.int .i64 p, (.slice A l.length cap)] 35)) (.cells #[] 3)) (by omega))
      have BX_2 := Lib.hid (BX_1.out.within (within_alloc (w.alloc (.cells #[.int .i64 p, (.slice A l.length cap)] 35)) (.cells #[] 3)) (by omega))
      have Y2 := Lib.hid (show ((w.alloc (.cells #[.int .i64 p, (.slice A l.length cap)] 35)).alloc (.cells #[] 3)).heap.size = (w.alloc (.cells #[.int .i64 p, (.slice A l.length cap)] 35)).heap.size + 1 by simp)
      have hown := ownR_empty (w.alloc (.cells #[.int .i64 p, (.slice A l.length cap)] 35))
      rw [show (w.alloc (.cells #[.int .i64 p, (.slice A l.length cap)] 35)).heap.size = w.heap.size + 1 by simp] at hown
      have OE_2 := Lib.hid hown
      clear hown
      go_enter Try.func64, Try.ntmps64
      obtain ⟨g0_0, g0_1, g0_2⟩ := BX_2.out
      go_wp2_with fail
      clear g0_0 g0_1 g0_2
      generalize ((w.alloc (.cells #[.int .i64 p, (.slice A l.length cap)] 35)).alloc (.cells #[] 3)) = w2 at *
      generalize (w.alloc (.cells #[.int .i64 p, (.slice A l.length cap)] 35)) = w1 at *
      refine (HSET _ HB_2.out.at _ _ HZ_2.out).mono ?_
      rintro e w3 ⟨rfl, hb⟩
      have Z3 := Lib.hid (within_of hb).size
      have W3 := Lib.hid (within_on W2.out (within_of hb) W2.out.size (.inr (Nat.le_refl _)))
      have HB_3 := Lib.hid (HB_2.out.within (within_of hb) (by omega))
      have HZ_3 := Lib.hid (HZ_2.out.within (within_of hb) (by omega))
      have BX_3 := Lib.hid (BX_2.out.within (within_of hb) (by omega))
      have OE_3 := Lib.hid (OE_2.out.within (within_of hb) (by omega))
      clear hb HSET
      go_wp2_with fail
      refine (specRange k c _).mono ?_
      rintro e w9 ⟨rfl, rfl⟩
      rw [HRG.out]
      go_wp2_with fail
      go_ret
      exact ⟨some ⟨w.heap.size + 1, 0, none⟩, 0, by rw [HR.out]; rfl, by rw [HR.out]; exact ⟨Nat.le_refl _, .inl rfl⟩, W3.out⟩
    | true =>
      have HR := Lib.hid (cloV_yes hs hr)
      have HRG := Lib.hid hr
      have H24 := Lib.hid (show zs.length ≤ 1048560 from by have h1 := okS_len (setB_is hs).1; have h2 := (setB_is hs).2.2.1; omega)
      rw [hs] at HSET
      clear hs hr
      have hzh := hz.1
      have W0 := Lib.hid (Below.refl w.heap.size w)
      have HB_0 := Lib.hid (bars_in hl)
      have HZ_0 := Lib.hid (hz)
      clear hl hz
      have Z1 := Lib.hid (within_alloc w (.cells #[.int .i64 p, (.slice A l.length cap)] 35)).size
      have W1 := Lib.hid (within_on W0.out (within_alloc w (.cells #[.int .i64 p, (.slice A l.length cap)] 35)) W0.out.size (.inr (Nat.le_refl _)))
      have HB_1 := Lib.hid (HB_0.out.within (within_alloc w (.cells #[.int .i64 p, (.slice A l.length cap)] 35)) (by omega))
      have HZ_1 := Lib.hid (HZ_0.out.within (within_alloc w (.cells #[.int .i64 p, (.slice A l.length cap)] 35)) (by omega))
      have Y1 := Lib.hid (show (w.alloc (.cells #[.int .i64 p, (.slice A l.length cap)] 35)).heap.size = w.heap.size + 1 by simp)
      have hnew := box_new w p (.slice A l.length cap) 35
      have BX_1 := Lib.hid hnew
      clear hnew
      have Z2 := Lib.hid (within_alloc (w.alloc (.cells #[.int .i64 p, (.slice A l.length cap)] 35)) (.cells #[] 3)).size
      have W2 := Lib.hid (within_on W1.out (within_alloc (w.alloc (.cells #[.int .i64 p, (.slice A l.length cap)] 35)) (.cells #[] 3)) W1.out.size (.inr (Nat.le_refl _)))
      have HB_2 := Lib.hid (HB_1.out.within (within_alloc (w.alloc (.cells #[.int .i64 p, (.slice A l.length cap)] 35)) (.cells #[] 3)) (by omega))
      have HZ_2 := Lib.hid (HZ_1.out.within (within_alloc (w.alloc (.cells #[.int .i64 p, (.slice A l.length cap)] 35)) (.cells #[] 3)) (by omega))
      have BX_2 := Lib.hid (BX_1.out.within (within_alloc (w.alloc (.cells #[.int .i64 p, (.slice A l.length cap)] 35)) (.cells #[] 3)) (by omega))
      have Y2 := Lib.hid (show ((w.alloc (.cells #[.int .i64 p, (.slice A l.length cap)] 35)).alloc (.cells #[] 3)).heap.size = (w.alloc (.cells #[.int .i64 p, (.slice A l.length cap)] 35)).heap.size + 1 by simp)
      have hown := ownR_empty (w.alloc (.cells #[.int .i64 p, (.slice A l.length cap)] 35))
      rw [show (w.alloc (.cells #[.int .i64 p, (.slice A l.length cap)] 35)).heap.size = w.heap.size + 1 by simp] at hown
      have OE_2 := Lib.hid hown
      clear hown
      go_enter Try.func64, Try.ntmps64
      obtain ⟨g0_0, g0_1, g0_2⟩ := BX_2.out
      go_wp2_with fail
      clear g0_0 g0_1 g0_2
      generalize ((w.alloc (.cells #[.int .i64 p, (.slice A l.length cap)] 35)).alloc (.cells #[] 3)) = w2 at *
      generalize (w.alloc (.cells #[.int .i64 p, (.slice A l.length cap)] 35)) = w1 at *
      refine (HSET _ HB_2.out.at _ _ HZ_2.out).mono ?_
      rintro e w3 ⟨rfl, hb⟩
      have Z3 := Lib.hid (within_of hb).size
      have W3 := Lib.hid (within_on W2.out (within_of hb) W2.out.size (.inr (Nat.le_refl _)))
      have HB_3 := Lib.hid (HB_2.out.within (within_of hb) (by omega))
      have HZ_3 := Lib.hid (HZ_2.out.within (within_of hb) (by omega))
      have BX_3 := Lib.hid (BX_2.out.within (within_of hb) (by omega))
      have OE_3 := Lib.hid (OE_2.out.within (within_of hb) (by omega))
      clear hb HSET
      go_wp2_with fail
      refine (specRange k c _).mono ?_
      rintro e w9 ⟨rfl, rfl⟩
      rw [HRG.out]
      obtain ⟨g1_0, g1_1, g1_2⟩ := BX_3.out
      go_wp2_with fail
      clear g1_0 g1_1 g1_2
      refine (specRankSet p k c l zs A Z cap cz _ _ _ HB_3.out.at HZ_3.out hn hnz).mono ?_
      rintro e w4 ⟨rfl, hb⟩
      have Z4 := Lib.hid (within_of hb).size
      have W4 := Lib.hid (within_on W3.out (within_of hb) W3.out.size (.inr (Nat.le_refl _)))
      have HB_4 := Lib.hid (HB_3.out.within (within_of hb) (by omega))
      have HZ_4 := Lib.hid (HZ_3.out.within (within_of hb) (by omega))
      have BX_4 := Lib.hid (BX_3.out.within (within_of hb) (by omega))
      have OE_4 := Lib.hid (OE_3.out.within (within_of hb) (by omega))
      clear hb
      obtain ⟨r, hr⟩ : ∃ r, rankSV p k c l zs = r := ⟨_, rfl⟩
      rw [hr] at HR ⊢
      clear hr
      go_wp2_with fail
      have HG0 := Lib.hid (show GrowP (w.heap.size + 1) (w.heap.size + 1 + 1) w4 w4 (cloK p k c l zs r 0) (some ⟨w.heap.size + 1, 0, none⟩) 0 (w.heap.size + 1) (w.heap.size + 1 + 1) from ⟨OE_4.out, .inl ⟨rfl, rfl⟩, (by have := Z1.out; have := Z2.out; have := Z3.out; have := Z4.out; have := Y1.out; have := Y2.out; omega), Within.refl _ _ _⟩)
      go_loopw [9, 11] (fun u i wr => ∃ j : Nat, j ≤ l.length ∧ i = .int .i64 j ∧ ∃ Ao co lo2 hi2, u = .slice Ao (cloK p k c l zs r j).length co ∧ GrowP (w.heap.size + 1) (w.heap.size + 1 + 1) w4 wr (cloK p k c l zs r j) Ao co lo2 hi2) (fun _ i _ => l.length - (intOf i).toNat)
      case atStart => exact ⟨0, Nat.zero_le _, rfl, _, 0, _, _, rfl, HG0.out⟩
      case round =>
        obtain ⟨j, hj, rfl, Ao, co, lo2, hi2, rfl, hg⟩ := hrel
        have HG := Lib.hid hg
        have HBX2 := Lib.hid (BX_4.out.within hg.wi (.inl (Nat.lt_succ_self _)))
        obtain ⟨_, g1, g2⟩ := HBX2.out
        have hcl := cloK_len p k c l zs r j
        have HCL := Lib.hid hcl
        clear hcl
        by_cases hlt : j < l.length
        · have hji : (j : Int) < (l.length : Int) := by omega
          have hdr : Below wr.heap.size wr wr.drew := (Below.refl _ _).drew
          have HB8 := Lib.hid ((HB_4.out.within hg.wi (.inl (Nat.le_succ _))).within (within_of hdr) (.inr (Nat.zero_le _)))
          have HZ8 := Lib.hid ((HZ_4.out.within hg.wi (.inl (Nat.le_trans hzh (Nat.le_succ _)))).within (within_of hdr) (.inr (Nat.zero_le _)))
          have HDR := Lib.hid hdr
          have hxlt := HBX2.out.1
          have HKK := Lib.hid (show (fun W' => W'.cell? ⟨w.heap.size, 0, none⟩ = some (.int .i64 p) ∧ W'.cell? ⟨w.heap.size, 1, none⟩ = some (.slice A l.length cap)) wr from ⟨g1, g2⟩)
          have HKB := Lib.hid (fun (W' : World) (h : Below wr.heap.size wr W') => show (fun W' => W'.cell? ⟨w.heap.size, 0, none⟩ = some (.int .i64 p) ∧ W'.cell? ⟨w.heap.size, 1, none⟩ = some (.slice A l.length cap)) W' from ⟨(h.cell (p := ⟨w.heap.size, 0, none⟩) hxlt).trans g1, (h.cell (p := ⟨w.heap.size, 1, none⟩) hxlt).trans g2⟩)
          clear hdr hg hxlt
          have hwl := wiL_len zs (j : Int)
          have HWL := Lib.hid (show (wiL zs (j : Int)).length ≤ 1048576 from by have := H24.out; omega)
          clear hwl
          obtain ⟨r2, hr2⟩ : ∃ r2, rankSV p k c l (zs ++ [(j : Int)]) = r2 := ⟨_, rfl⟩
          have HR2 := Lib.hid ((rank_wi p k c l zs (j : Int)).trans hr2)
          by_cases c9 : r2 = r
          · have HN := Lib.hid (cloK_in (r := r) (hr2.trans c9))
            have d9 : (r2 == r) = true := by simpa using c9
            clear c9 hr2
            go_wp2_with fail
            go_region_held3 (fun W' => W'.cell? ⟨w.heap.size, 0, none⟩ = some (.int .i64 p) ∧ W'.cell? ⟨w.heap.size, 1, none⟩ = some (.slice A l.length cap))
              (first | exact HKK.out | exact HKB.out _ HDR.out | exact HKB.out _ HB5.out | exact HKB.out _ HB6.out | fail)
              (first
                | (go_at_call 68; refine (specRankSet p k c l (wiL zs (j : Int)) A A2 cap c2 _ _ _ ?_ HO5.out hn HWL.out).mono ?_; (exact HB9.out.at); rintro e w6 ⟨rfl, hb⟩; rw [HR2.out]; have HB6 := Lib.hid (below_on HB5.out hb HB5.out.size); have HGF := Lib.hid (HG.out.below HB6.out); clear hb)
                | (go_at_call 104; refine (wi_c zs (j : Int) Z cz lo hi _ ?_ (by have := H24.out; omega)).mono ?_; (exact HZ8.out); rintro e w5 ⟨A2, c2, rfl, ho, hb⟩; have HB5 := Lib.hid (below_on HDR.out hb HDR.out.size); have HB9 := Lib.hid (HB8.out.within (within_of hb) (.inr (Nat.zero_le _))); have HO5 := Lib.hid ho.reads; clear ho hb))
            go_wp2_with (at_builtin; refine wpList_pushR _ rfl _ _ rfl lo2 hi2 Ao co (cloK p k c l zs r j) (j : Int) rfl HGF.out.row _ (by first | rfl | (simp only [World.size_setCell]; rfl)) (by have := HCL.out; omega) HGF.out.le ?_; intro A6 c6 w16 lo6 hi6 hr6 hor6 hw6; have HG6 := Lib.hid (HGF.out.push hr6 hor6 hw6); clear hr6 hor6 hw6)
            go_roundw
            case rel => exact ⟨j + 1, by omega, by go_num, A6, c6, lo6, hi6, by rw [HN.out]; simp, by rw [HN.out]; exact HG6.out⟩
            case measure => simp [intOf]; omega
          · have HN := Lib.hid (cloK_out (r := r) (fun q => c9 (hr2.symm.trans q)))
            have d9 : (r2 == r) = false := by simpa using c9
            clear c9 hr2
            go_wp2_with fail
            go_region_held3 (fun W' => W'.cell? ⟨w.heap.size, 0, none⟩ = some (.int .i64 p) ∧ W'.cell? ⟨w.heap.size, 1, none⟩ = some (.slice A l.length cap))
              (first | exact HKK.out | exact HKB.out _ HDR.out | exact HKB.out _ HB5.out | exact HKB.out _ HB6.out | fail)
              (first
                | (go_at_call 68; refine (specRankSet p k c l (wiL zs (j : Int)) A A2 cap c2 _ _ _ ?_ HO5.out hn HWL.out).mono ?_; (exact HB9.out.at); rintro e w6 ⟨rfl, hb⟩; rw [HR2.out]; have HB6 := Lib.hid (below_on HB5.out hb HB5.out.size); have HGF := Lib.hid (HG.out.below HB6.out); clear hb)
                | (go_at_call 104; refine (wi_c zs (j : Int) Z cz lo hi _ ?_ (by have := H24.out; omega)).mono ?_; (exact HZ8.out); rintro e w5 ⟨A2, c2, rfl, ho, hb⟩; have HB5 := Lib.hid (below_on HDR.out hb HDR.out.size); have HB9 := Lib.hid (HB8.out.within (within_of hb) (.inr (Nat.zero_le _))); have HO5 := Lib.hid ho.reads; clear ho hb))
            go_wp2_with fail
            go_roundw
            case rel => exact ⟨j + 1, by omega, by go_num, Ao, co, lo2, hi2, by rw [HN.out], by rw [HN.out]; exact HGF.out⟩
            case measure => simp [intOf]; omega
        · obtain rfl : j = l.length := by omega
          go_wp2_with fail
          go_ret
          rw [HR.out]
          have hbs := W4.out.size
          exact ⟨Ao, co, rfl, HG.out.out (Nat.le_succ _) hbs, within_on W4.out HG.out.wi hbs (.inl (Nat.le_succ _))⟩
end Go.Proofs.Ytgmcibcjplncaaa
/- What (barSet).rankWith answers. No condition. -/
namespace Go.Proofs.Ytgmcibcjplncaaa
open Go.RowKit

open Go.Maps

/-- 'm[k]' in a map of bools that the call made. -/
theorem wpList_lookB {P : Program} (w : World) {ops : Array Oper} {rest : List Oper} {o : Oper} {a : Act} {Q : Exit → Act → World → Prop} (hg : o.guard = none) (m x : Operand) (t : TypeId) (hop : o.op = Op.lookup t m x false)
    (k e : TypeId) (K : Keyed P k) (ht : P.underlying t = some (.map k e)) (he : P.underlying e = some .bool) (hz : (zeroValue e).run P w = .ok (.bool false) w) (b n : Nat) (D : DataW Unit)
    (hm : a.eval m = .map (some b)) (hown : w.ownsMap P k (plainElem P e) b n D) (key : Value) (kl : Lit) (hx : a.eval x = key) (hkey : keyOf P k key = some kl) (c : Bool) (hat : D.atKey kl (.lit (.bool false)) = .lit (.bool c))
    (hK : wpList P ops Q rest (a.put o.dst (.bool c)) w) : wpList P ops Q (o :: rest) a w := by
  refine wpList_plain hg fun K' hK' => ?_
  obtain ⟨v, ps, hrun, hv⟩ := hown.lookup K ht hz (plainElem_bool he false) hkey
  have hvc : v = .bool c := by
    rw [hat] at hv
    unfold plainElem at hv
    rw [he] at hv
    cases v <;> simp at hv
    rw [hv.1]
  subst hvc
  unfold Oper.wp
  simp [execOp, hop, hm, hx, hrun, Result.andThen]
  exact hK' _ _ hK
theorem del_new {zs : List Int} {x : Int} (h : ¬ x ∈ zs) (y : Int) : (y ∈ (zs ++ [x]).filter fun z => !decide (z = x)) ↔ y ∈ zs := by
  rw [List.mem_filter]
  constructor
  · rintro ⟨h1, h2⟩
    have h3 : y ≠ x := by simpa using h2
    rcases List.mem_append.1 h1 with g | g
    · exact g
    · exact absurd (List.mem_singleton.1 g) h3
  · intro hy
    refine ⟨List.mem_append.2 (.inl hy), ?_⟩
    have h3 : y ≠ x := fun e => h (by rw [← e]; exact hy)
    simpa using h3
theorem zeroB (w : World) : (zeroValue 4).run Try.prog w = .ok (.bool false) w := by kernel_rfl

set_option maxHeartbeats 4000000 in
set_option maxRecDepth 100000 in
theorem rankWi (p k c : Int) (l : List (Int × Int)) (A : Option Addr) (cap b n B : Nat) (zs : List Int) (x : Int) (w : World) (hl : BarsIn w 0 B A l) (hB : B ≤ b) (hs : SetM w b n zs) (hn : l.length ≤ 1048576) (hn2 : n + 1 ≤ 1048576) (hw : (Lit.int .i64 x).wf = true) :
    Calls Try.prog 109 #[bsV p A l.length cap k c b, .int .i64 x] w fun e w' => e = .returned (.int .i64 (rankSV p k c l (zs ++ [x]))) ∧ SetM w' b (n + 1) zs ∧ Within b (b + 1) w w' := by
  have hbl := hs.lt
  obtain ⟨D, hown, hsay⟩ := hs
  have HSAY := Lib.hid hsay
  have hA := new_below w (.cells #[.int .i64 p, .slice A l.length cap, .int .i64 k, .int .i64 c, .map (some b)] 104)
  have HA := Lib.hid (show Within b (b + 1) w (w.alloc (.cells #[.int .i64 p, .slice A l.length cap, .int .i64 k, .int .i64 c, .map (some b)] 104)) from (within_of hA).widen (.inl (Nat.le_refl _)))
  have HBX := Lib.hid (cel5_new w (.int .i64 p) (.slice A l.length cap) (.int .i64 k) (.int .i64 c) (.map (some b)) 104)
  have HOM := Lib.hid (omap_block hown (hA.block b hbl))
  have HBR := Lib.hid (hl.within (within_of hA) (.inr (Nat.zero_le _)))
  have HBL := Lib.hid hbl
  have HWF := Lib.hid hw
  have HN2 := Lib.hid hn2
  have HBB := Lib.hid hB
  have HSW := Lib.hid hA.size
  clear hl hown hsay hA hbl hw hn2 hB
  obtain ⟨rv, hrv⟩ : ∃ rv, rankSV p k c l (zs ++ [x]) = rv := ⟨_, rfl⟩
  rw [hrv]
  have HRV := Lib.hid hrv
  clear hrv
  have hlk := (HSAY.out x).2
  by_cases hx : x ∈ zs
  · rw [decide_eq_true hx] at hlk
    have HLK := Lib.hid hlk
    have HR2 := Lib.hid (show rankSV p k c l zs = rv from by rw [← HRV.out]; exact rankSV_same fun j _ => by simp; exact fun e => e ▸ hx)
    clear hlk hx
    go_enter Try.func109, Try.ntmps109
    obtain ⟨x0, x1, x2, x3, x4⟩ := HBX.out.cells
    go_wp2_with (first
      | (go_at_call 103; refine (mrank p k c l A cap b n zs _ HBR.out.at ⟨_, HOM.out, HSAY.out⟩ hn (by have := HN2.out; omega)).mono ?_; rintro e w3 ⟨rfl, hb⟩; rw [HR2.out]; have HW3 := Lib.hid (HA.out.trans ((within_of hb).widen (.inl (Nat.le_refl _)))); have HOM3 := Lib.hid (omap_block HOM.out (hb.block b (by have := HOM.out.lt; omega))); clear hb)
      | (at_lookup; refine wpList_lookB _ rfl _ _ 102 rfl 3 4 lawI Try.underlying102 Try.underlying4 (zeroB _) b n _ rfl HOM.out _ _ rfl (keyOf_int_mk Try.underlying3 HWF.out) true HLK.out ?_)
      | go_in)
    go_ret
    exact ⟨rfl, ⟨_, HOM3.out.mono (by omega), HSAY.out⟩, HW3.out⟩
  · rw [decide_eq_false hx] at hlk
    have HLK := Lib.hid hlk
    have HX := Lib.hid hx
    clear hlk hx
    go_enter Try.func109, Try.ntmps109
    obtain ⟨x0, x1, x2, x3, x4⟩ := HBX.out.cells
    go_wp2_with (first
      | (at_delete; refine wpList_delete_own _ rfl _ _ 102 3 rfl 4 lawI Try.underlying102 _ b (n + 1) _ rfl HOM3.out _ _ rfl (keyOf_int_mk Try.underlying3 HWF.out) ?_; intro w4 hown  hturn; have HF := Lib.hid (show SetM w4 b (n + 1) zs from ⟨_, hown, (HSAY2.out.del x).congr fun y => del_new HX.out y⟩); have HWF4 := Lib.hid (HW3.out.trans (within_grown hturn.grown)); clear hown hturn)
      | (go_at_call 103; refine (mrank p k c l A cap b (n + 1) _ _ HBR2.out.at ⟨_, HOM2.out, HSAY2.out⟩ hn HN2.out).mono ?_; rintro e w3 ⟨rfl, hb⟩; rw [HRV.out]; have HW3 := Lib.hid (HW2.out.trans ((within_of hb).widen (.inl (Nat.le_refl _)))); have HOM3 := Lib.hid (omap_block HOM2.out (hb.block b (by have := HOM2.out.lt; omega))); obtain ⟨z0, z1, z2, z3, z4⟩ := (HBX2.out.within (within_of hb) (.inr (Nat.zero_le _))).cells; clear hb y0 y1 y2 y3 y4)
      | (at_mapUpdate; refine wpList_mapUpdate_own _ rfl _ _ _ 102 rfl 3 4 lawI Try.underlying102 _ b n _ rfl HOM.out (by have := HN2.out; unfold maxLen; omega) _ _ (.int .i64 x) rfl rfl (keyOf_int_mk Try.underlying3 HWF.out) _ [] (plainElem_bool Try.underlying4 true) ?_; intro w2 hown hg; have HOM2 := Lib.hid hown; have HSAY2 := Lib.hid (HSAY.out.put HOM.out.isMap x); have hgg := within_grown hg; have HW2 := Lib.hid (HA.out.trans hgg); have HBX2 := Lib.hid (HBX.out.within hgg (.inr (by have := HBL.out; omega))); have HBR2 := Lib.hid (HBR.out.within hgg (.inl HBB.out)); obtain ⟨y0, y1, y2, y3, y4⟩ := HBX2.out.cells; clear hown hg hgg x0 x1 x2 x3 x4)
      | (at_lookup; refine wpList_lookB _ rfl _ _ 102 rfl 3 4 lawI Try.underlying102 Try.underlying4 (zeroB _) b n _ rfl HOM.out _ _ rfl (keyOf_int_mk Try.underlying3 HWF.out) false HLK.out ?_)
      | go_in)
    go_ret
    exact ⟨rfl, HF.out, HWF4.out⟩
end Go.Proofs.Ytgmcibcjplncaaa
/- What impl.ClosureOf answers. No condition. -/
namespace Go.Proofs.Ytgmcibcjplncaaa
open Go.RowKit

set_option maxHeartbeats 4000000 in
set_option maxRecDepth 100000 in
theorem implClo (p k c : Int) (l : List (Int × Int)) (zs : List Int) (A Z : Option Addr) (cap cz lo hi : Nat) (w : World) (hl : BarsAt w w.heap.size A l) (hz : IntsIn w lo hi Z zs) (hn : l.length ≤ 1048576) (hnz : zs.length ≤ 1048576) :
    Calls Try.prog 65 #[.agg #[.int .i64 p, .slice A l.length cap], .int .i64 k, .int .i64 c, .slice Z zs.length cz] w (IntsO w (cloV p k c l zs)) := by
  by_cases hbad : setB p l zs = false ∨ rangeB k c = false
  · have HR := Lib.hid (cloV_no hbad)
    have HBAD := Lib.hid hbad
    clear hbad
    have hzh := hz.1
    have W0 := Lib.hid (Below.refl w.heap.size w)
    have HB_0 := Lib.hid (bars_in hl)
    have HZ_0 := Lib.hid (hz)
    clear hl hz
    have Z1 := Lib.hid (within_alloc w (.cells #[.int .i64 p, (.slice A l.length cap)] 35)).size
    have W1 := Lib.hid (within_on W0.out (within_alloc w (.cells #[.int .i64 p, (.slice A l.length cap)] 35)) W0.out.size (.inr (Nat.le_refl _)))
    have HB_1 := Lib.hid (HB_0.out.within (within_alloc w (.cells #[.int .i64 p, (.slice A l.length cap)] 35)) (by omega))
    have HZ_1 := Lib.hid (HZ_0.out.within (within_alloc w (.cells #[.int .i64 p, (.slice A l.length cap)] 35)) (by omega))
    have Y1 := Lib.hid (show (w.alloc (.cells #[.int .i64 p, (.slice A l.length cap)] 35)).heap.size = w.heap.size + 1 by simp)
    have hnew := box_new w p (.slice A l.length cap) 35
    have BX_1 := Lib.hid hnew
    clear hnew
    go_enter Try.func65, Try.ntmps65
    obtain ⟨g0_0, g0_1, g0_2⟩ := BX_1.out
    go_wp2_with fail
    clear g0_0 g0_1 g0_2
    generalize (w.alloc (.cells #[.int .i64 p, (.slice A l.length cap)] 35)) = w1 at *
    refine (newSet_no p k c l zs A Z cap cz _ _ _ HB_1.out.at HZ_1.out hn hnz HBAD.out).mono ?_
    rintro e w2 ⟨rfl, hb⟩
    have Z2 := Lib.hid (within_of hb).size
    have W2 := Lib.hid (within_on W1.out (within_of hb) W1.out.size (.inr (Nat.le_refl _)))
    have HB_2 := Lib.hid (HB_1.out.within (within_of hb) (by omega))
    have HZ_2 := Lib.hid (HZ_1.out.within (within_of hb) (by omega))
    have BX_2 := Lib.hid (BX_1.out.within (within_of hb) (by omega))
    clear hb
    have Z3 := Lib.hid (within_alloc w2 (.cells #[(.int .i64 0), (.slice none 0 0), (.int .i64 0), (.int .i64 0), (.map none)] 104)).size
    have W3 := Lib.hid (within_on W2.out (within_alloc w2 (.cells #[(.int .i64 0), (.slice none 0 0), (.int .i64 0), (.int .i64 0), (.map none)] 104)) W2.out.size (.inr (Nat.le_refl _)))
    have HB_3 := Lib.hid (HB_2.out.within (within_alloc w2 (.cells #[(.int .i64 0), (.slice none 0 0), (.int .i64 0), (.int .i64 0), (.map none)] 104)) (by omega))
    have HZ_3 := Lib.hid (HZ_2.out.within (within_alloc w2 (.cells #[(.int .i64 0), (.slice none 0 0), (.int .i64 0), (.int .i64 0), (.map none)] 104)) (by omega))
    have BX_3 := Lib.hid (BX_2.out.within (within_alloc w2 (.cells #[(.int .i64 0), (.slice none 0 0), (.int .i64 0), (.int .i64 0), (.map none)] 104)) (by omega))
    have Y3 := Lib.hid (show (w2.alloc (.cells #[(.int .i64 0), (.slice none 0 0), (.int .i64 0), (.int .i64 0), (.map none)] 104)).heap.size = w2.heap.size + 1 by simp)
    have hnew := cel5_new w2 (.int .i64 0) (.slice none 0 0) (.int .i64 0) (.int .i64 0) (.map none) 104
    have BB_3 := Lib.hid hnew
    clear hnew
    go_wp2_with fail
    generalize (w2.alloc (.cells #[(.int .i64 0), (.slice none 0 0), (.int .i64 0), (.int .i64 0), (.map none)] 104)) = w3 at *
    go_ret
    exact ⟨none, 0, by rw [HR.out]; rfl, by rw [HR.out]; exact ⟨Nat.le_refl _, .inl rfl⟩, W3.out⟩
  · have hs : setB p l zs = true := by simpa using fun h => hbad (.inl h)
    have hr : rangeB k c = true := by simpa using fun h => hbad (.inr h)
    have HSR := Lib.hid (And.intro hs hr)
    have HR := Lib.hid (cloV_yes hs hr)
    have H24 := Lib.hid (show zs.length ≤ l.length ∧ l.length ≤ 24 from ⟨okS_len (setB_is hs).1, (setB_is hs).2.2.1⟩)
    clear hbad hs hr
    have hzh := hz.1
    have W0 := Lib.hid (Below.refl w.heap.size w)
    have HB_0 := Lib.hid (bars_in hl)
    have HZ_0 := Lib.hid (hz)
    clear hl hz
    have Z1 := Lib.hid (within_alloc w (.cells #[.int .i64 p, (.slice A l.length cap)] 35)).size
    have W1 := Lib.hid (within_on W0.out (within_alloc w (.cells #[.int .i64 p, (.slice A l.length cap)] 35)) W0.out.size (.inr (Nat.le_refl _)))
    have HB_1 := Lib.hid (HB_0.out.within (within_alloc w (.cells #[.int .i64 p, (.slice A l.length cap)] 35)) (by omega))
    have HZ_1 := Lib.hid (HZ_0.out.within (within_alloc w (.cells #[.int .i64 p, (.slice A l.length cap)] 35)) (by omega))
    have Y1 := Lib.hid (show (w.alloc (.cells #[.int .i64 p, (.slice A l.length cap)] 35)).heap.size = w.heap.size + 1 by simp)
    have hnew := box_new w p (.slice A l.length cap) 35
    have BX_1 := Lib.hid hnew
    clear hnew
    go_enter Try.func65, Try.ntmps65
    obtain ⟨g0_0, g0_1, g0_2⟩ := BX_1.out
    go_wp2_with fail
    clear g0_0 g0_1 g0_2
    generalize (w.alloc (.cells #[.int .i64 p, (.slice A l.length cap)] 35)) = w1 at *
    refine (newSet_yes p k c l zs A Z cap cz _ _ _ HB_1.out.at HZ_1.out hn hnz HSR.out.1 HSR.out.2).mono ?_
    rintro e w2 ⟨b, rfl, hset, hbge, hb⟩
    have Z2 := Lib.hid (within_of hb).size
    have W2 := Lib.hid (within_on W1.out (within_of hb) W1.out.size (.inr (Nat.le_refl _)))
    have HB_2 := Lib.hid (HB_1.out.within (within_of hb) (by omega))
    have HZ_2 := Lib.hid (HZ_1.out.within (within_of hb) (by omega))
    have BX_2 := Lib.hid (BX_1.out.within (within_of hb) (by omega))
    have SM_2 := Lib.hid (hset)
    clear hset hb
    have HBG := Lib.hid (show w.heap.size ≤ b from by have := Z1.out; omega)
    clear hbge
    have hblt := SM_2.out.lt
    have HBLT := Lib.hid hblt
    clear hblt
    have Z3 := Lib.hid (within_alloc w2 (.cells #[(.int .i64 p), (.slice A l.length cap), (.int .i64 k), (.int .i64 c), (.map (some b))] 104)).size
    have W3 := Lib.hid (within_on W2.out (within_alloc w2 (.cells #[(.int .i64 p), (.slice A l.length cap), (.int .i64 k), (.int .i64 c), (.map (some b))] 104)) W2.out.size (.inr (Nat.le_refl _)))
    have HB_3 := Lib.hid (HB_2.out.within (within_alloc w2 (.cells #[(.int .i64 p), (.slice A l.length cap), (.int .i64 k), (.int .i64 c), (.map (some b))] 104)) (by omega))
    have HZ_3 := Lib.hid (HZ_2.out.within (within_alloc w2 (.cells #[(.int .i64 p), (.slice A l.length cap), (.int .i64 k), (.int .i64 c), (.map (some b))] 104)) (by omega))
    have BX_3 := Lib.hid (BX_2.out.within (within_alloc w2 (.cells #[(.int .i64 p), (.slice A l.length cap), (.int .i64 k), (.int .i64 c), (.map (some b))] 104)) (by omega))
    have SM_3 := Lib.hid (SM_2.out.within (within_alloc w2 (.cells #[(.int .i64 p), (.slice A l.length cap), (.int .i64 k), (.int .i64 c), (.map (some b))] 104)) (by omega))
    have Y3 := Lib.hid (show (w2.alloc (.cells #[(.int .i64 p), (.slice A l.length cap), (.int .i64 k), (.int .i64 c), (.map (some b))] 104)).heap.size = w2.heap.size + 1 by simp)
    have hnew := cel5_new w2 (.int .i64 p) (.slice A l.length cap) (.int .i64 k) (.int .i64 c) (.map (some b)) 104
    have BB_3 := Lib.hid hnew
    clear hnew
    obtain ⟨x0, x1, x2, x3, x4⟩ := BB_3.out.cells
    go_wp2_with fail
    clear x0 x1 x2 x3 x4
    generalize (w2.alloc (.cells #[(.int .i64 p), (.slice A l.length cap), (.int .i64 k), (.int .i64 c), (.map (some b))] 104)) = w3 at *
    refine (mrank p k c l A cap b zs.length zs _ HB_3.out.at SM_3.out hn hnz).mono ?_
    rintro e w4 ⟨rfl, hb⟩
    have Z4 := Lib.hid (within_of hb).size
    have W4 := Lib.hid (within_on W3.out (within_of hb) W3.out.size (.inr (Nat.le_refl _)))
    have HB_4 := Lib.hid (HB_3.out.within (within_of hb) (by omega))
    have HZ_4 := Lib.hid (HZ_3.out.within (within_of hb) (by omega))
    have BX_4 := Lib.hid (BX_3.out.within (within_of hb) (by omega))
    have SM_4 := Lib.hid (SM_3.out.within (within_of hb) (by omega))
    have BB_4 := Lib.hid (BB_3.out.within (within_of hb) (by omega))
    clear hb
    obtain ⟨r, hr⟩ : ∃ r, rankSV p k c l zs = r := ⟨_, rfl⟩
    rw [hr] at HR ⊢
    clear hr
    obtain ⟨g1_0, g1_1, g1_2⟩ := BX_4.out
    go_wp2_with fail
    clear g1_0 g1_1 g1_2
    have HBV := Lib.hid (show b < w4.heap.size from SM_4.out.lt)
    have HG0 := Lib.hid (show GrowQ b w4 w4 (cloK p k c l zs r 0) none 0 w4.heap.size w4.heap.size from ⟨⟨Nat.le_refl _, .inl ⟨rfl, rfl, rfl⟩⟩, Nat.le_refl _, Nat.le_refl _, Within.refl _ _ _⟩)
    go_loopw [12, 13, 29] (fun u _ i wr => ∃ j : Nat, j ≤ l.length ∧ i = .int .i64 j ∧ ∃ Ao co lo2 hi2, u = .slice Ao (cloK p k c l zs r j).length co ∧ SetM wr b (zs.length + j) zs ∧ GrowQ b w4 wr (cloK p k c l zs r j) Ao co lo2 hi2) (fun _ _ i _ => l.length - (intOf i).toNat)
    case atStart => exact ⟨0, Nat.zero_le _, rfl, none, 0, _, _, rfl, SM_4.out, HG0.out⟩
    case round =>
      obtain ⟨j, hj, rfl, Ao, co, lo2, hi2, rfl, hset, hg⟩ := hrel
      have HSM := Lib.hid hset
      have HG := Lib.hid hg
      have HBR := Lib.hid (HB_4.out.within hg.wi (.inl HBG.out))
      obtain ⟨c0, c1, c2, c3, c4⟩ := (BB_4.out.within hg.wi (.inr (by have := HBLT.out; omega))).cells
      have hcl := cloK_len p k c l zs r j
      have HCL := Lib.hid hcl
      clear hset hg hcl
      by_cases hlt : j < l.length
      · have hji : (j : Int) < (l.length : Int) := by omega
        have HNN := Lib.hid (show zs.length + j + 1 ≤ 1048576 from by have := H24.out; omega)
        have HWF := Lib.hid (show (Lit.int .i64 (j : Int)).wf = true from WalkArith.wf_i64 (by omega))
        obtain ⟨r2, hr2⟩ : ∃ r2, rankSV p k c l (zs ++ [(j : Int)]) = r2 := ⟨_, rfl⟩
        have HR2 := Lib.hid hr2
        by_cases c9 : r2 = r
        · have HN := Lib.hid (cloK_in (r := r) (hr2.trans c9))
          have d9 : (r2 == r) = true := by simpa using c9
          clear c9 hr2
          go_wp2_with (first
            | (at_builtin; refine wpList_pushR _ rfl _ _ rfl lo2 hi2 Ao co (cloK p k c l zs r j) (j : Int) rfl HG5.out.row _ (by first | rfl | (simp only [World.size_setCell]; rfl)) (by have := HCL.out; omega) HG5.out.le ?_; intro A6 c6 w16 lo6 hi6 hr6 hor6 hw6; have HSM6 := Lib.hid (HSM5.out.within hw6 (.inl (by have := HG5.out.ge; have := HBV.out; omega))); have HG6 := Lib.hid (HG5.out.push hr6 hor6 hw6); clear hr6 hor6 hw6)
            | (go_at_call 109; refine (rankWi p k c l A cap b (zs.length + j) w.heap.size zs (j : Int) _ HBR.out HBG.out HSM.out hn HNN.out HWF.out).mono ?_; rintro e w5 ⟨rfl, hset, hwi⟩; rw [HR2.out]; have HSM5 := Lib.hid hset; have HG5 := Lib.hid (HG.out.map hwi HBV.out); clear hset hwi))
          go_roundw
          case rel => exact ⟨j + 1, by omega, by go_num, A6, c6, lo6, hi6, by rw [HN.out]; simp, HSM6.out, by rw [HN.out]; exact HG6.out⟩
          case measure => simp [intOf]; omega
        · have HN := Lib.hid (cloK_out (r := r) (fun q => c9 (hr2.symm.trans q)))
          have d9 : (r2 == r) = false := by simpa using c9
          clear c9 hr2
          go_wp2_with (go_at_call 109; refine (rankWi p k c l A cap b (zs.length + j) w.heap.size zs (j : Int) _ HBR.out HBG.out HSM.out hn HNN.out HWF.out).mono ?_; rintro e w5 ⟨rfl, hset, hwi⟩; rw [HR2.out]; have HSM5 := Lib.hid hset; have HG5 := Lib.hid (HG.out.map hwi HBV.out); clear hset hwi)
          go_roundw
          case rel => exact ⟨j + 1, by omega, by go_num, Ao, co, lo2, hi2, by rw [HN.out], HSM5.out, by rw [HN.out]; exact HG5.out⟩
          case measure => simp [intOf]; omega
      · obtain rfl : j = l.length := by omega
        go_wp2_with fail
        go_ret
        have hsz := W4.out.size
        rw [HR.out]
        exact ⟨Ao, co, rfl, HG.out.row.ints.widen (Nat.le_trans hsz HG.out.ge) HG.out.row.1 (Nat.le_refl _), within_on W4.out HG.out.wi hsz (.inl HBG.out)⟩
end Go.Proofs.Ytgmcibcjplncaaa
/- The law FnExactClosureOf returns true at every input. No condition. -/
namespace Go.Proofs.Ytgmcibcjplncaaa
open Go.RowKit

set_option maxHeartbeats 2000000 in
set_option maxRecDepth 100000 in
theorem lawClosureOf (q : Int) (A : Option Addr) (cap : Nat) (l : List (Int × Int)) (a1 : Int) (a2 : Int) (Z : Option Addr) (len cz : Nat) (zs : List Int) (w : World) (hl : l.length ≤ maxLen) (hb : BarsAt w w.heap.size A l) (_w1 : (Lit.int .i64 a1).wf = true) (_w2 : (Lit.int .i64 a2).wf = true) (hz : IsRow .i64 w Z len cz zs) :
    Calls Try.prog 14 #[.agg #[.int .i64 q, .slice A l.length cap], .int .i64 a1, .int .i64 a2, .slice Z len cz] w fun e w' => e = .returned (.bool true) ∧ Below w.heap.size w w' := by
  obtain ⟨ys, rfl, hi, hym⟩ := hz.ints
  have HB_0 := Lib.hid (bars_in hb)
  have HZ_0 := Lib.hid hi
  clear hb hz hi
  by_cases hny : ys.length ≤ 1048576
  · have hny' : ¬ (1048576 : Int) < (ys.length : Int) := by omega
    by_cases hn : l.length ≤ 1048576
    · have W0 := Lib.hid (Below.refl w.heap.size w)
      have hans : (cloV q a1 a2 l ys).length ≤ 1048576 := (Nat.le_trans (cloV_len q a1 a2 l ys) hn)
      have hal := new_below w (.cells #[.int .i64 q, .slice A l.length cap] 24)
      have Z1 := Lib.hid (within_of hal).size
      have W1 := Lib.hid (within_on W0.out (within_of hal) W0.out.size (.inr (Nat.le_refl _)))
      have HB_1 := Lib.hid (HB_0.out.within (within_of hal) (by omega))
      have HZ_1 := Lib.hid (HZ_0.out.within (within_of hal) (by omega))
      clear hal
      have hsz : (w.alloc (.cells #[.int .i64 q, .slice A l.length cap] 24)).heap.size = w.heap.size + 1 := by simp
      have Y1 := Lib.hid hsz
      clear hsz
      have BX_1 := Lib.hid (box_new w q (.slice A l.length cap) 24)
      go_enter Try.func14, Try.ntmps14
      go_wp2_with fail
      generalize (w.alloc (.cells #[.int .i64 q, .slice A l.length cap] 24)) = w1 at *
      refine (szGraph_c q A l.length cap 1048576 _ (by omega) (by omega)).mono ?_
      rintro e w2 ⟨rfl, hb⟩
      have Z2 := Lib.hid (within_of hb).size
      have W2 := Lib.hid (within_on W1.out (within_of hb) W1.out.size (.inr (Nat.le_refl _)))
      have HB_2 := Lib.hid (HB_1.out.within (within_of hb) (by omega))
      have HZ_2 := Lib.hid (HZ_1.out.within (within_of hb) (by omega))
      have BX_2 := Lib.hid (BX_1.out.within (within_of hb) (by omega))
      clear hb
      have hnn : ¬ (1048576 : Int) - (l.length : Int) < 0 := by omega
      obtain ⟨g01, g02, g03⟩ := BX_2.out
      go_wp2_with fail
      clear g01 g02 g03
      refine (toGraph_c q l A cap _ HB_2.out.at hn).mono ?_
      rintro e w3 ⟨g0, rfl, ho, hb⟩
      have Z3 := Lib.hid (within_of hb).size
      have W3 := Lib.hid (within_on W2.out (within_of hb) W2.out.size (.inr (Nat.le_refl _)))
      have HB_3 := Lib.hid (HB_2.out.within (within_of hb) (by omega))
      have HZ_3 := Lib.hid (HZ_2.out.within (within_of hb) (by omega))
      have BX_3 := Lib.hid (BX_2.out.within (within_of hb) (by omega))
      have SG_3 := Lib.hid ((own_in ho).bars)
      clear ho hb
      go_wp2_with fail
      refine (toInts_c ys Z cz 0 _ _ HZ_3.out hny).mono ?_
      rintro e w4 ⟨g1, rfl, ho, hb⟩
      have Z4 := Lib.hid (within_of hb).size
      have W4 := Lib.hid (within_on W3.out (within_of hb) W3.out.size (.inr (Nat.le_refl _)))
      have HB_4 := Lib.hid (HB_3.out.within (within_of hb) (by omega))
      have HZ_4 := Lib.hid (HZ_3.out.within (within_of hb) (by omega))
      have BX_4 := Lib.hid (BX_3.out.within (within_of hb) (by omega))
      have SG_4 := Lib.hid (SG_3.out.within (within_of hb) (by omega))
      have SI_4 := Lib.hid ((own_ints' ho).reads)
      clear ho hb
      go_wp2_with fail
      refine (specClo q a1 a2 l ys (some ⟨g0, 0, none⟩) (some ⟨g1, 0, none⟩) l.length ys.length _ _ _ SG_4.out.at SI_4.out hn hny).mono ?_
      rintro e w5 ⟨AS, cs, rfl, hs, hb⟩
      have Z5 := Lib.hid (within_of hb).size
      have W5 := Lib.hid (within_on W4.out (within_of hb) W4.out.size (.inr (Nat.le_refl _)))
      have HB_5 := Lib.hid (HB_4.out.within (within_of hb) (by omega))
      have HZ_5 := Lib.hid (HZ_4.out.within (within_of hb) (by omega))
      have BX_5 := Lib.hid (BX_4.out.within (within_of hb) (by omega))
      have SG_5 := Lib.hid (SG_4.out.within (within_of hb) (by omega))
      have SI_5 := Lib.hid (SI_4.out.within (within_of hb) (by omega))
      have SR_5 := Lib.hid (hs.reads)
      clear hs hb
      obtain ⟨g01, g02, g03⟩ := BX_5.out
      go_wp2_with fail
      clear g01 g02 g03
      refine (toGraph_c q l A cap _ HB_5.out.at hn).mono ?_
      rintro e w6 ⟨x0, rfl, ho, hb⟩
      have Z6 := Lib.hid (within_of hb).size
      have W6 := Lib.hid (within_on W5.out (within_of hb) W5.out.size (.inr (Nat.le_refl _)))
      have HB_6 := Lib.hid (HB_5.out.within (within_of hb) (by omega))
      have HZ_6 := Lib.hid (HZ_5.out.within (within_of hb) (by omega))
      have BX_6 := Lib.hid (BX_5.out.within (within_of hb) (by omega))
      have SG_6 := Lib.hid (SG_5.out.within (within_of hb) (by omega))
      have SI_6 := Lib.hid (SI_5.out.within (within_of hb) (by omega))
      have SR_6 := Lib.hid (SR_5.out.within (within_of hb) (by omega))
      have SX_6 := Lib.hid (own_in ho)
      clear ho hb
      go_wp2_with fail
      have hal := new_below w6 (.cells #[.int .i64 q, .slice (some ⟨x0, 0, none⟩) l.length l.length] 35)
      have Z7 := Lib.hid (within_of hal).size
      have W7 := Lib.hid (within_on W6.out (within_of hal) W6.out.size (.inr (Nat.le_refl _)))
      have HB_7 := Lib.hid (HB_6.out.within (within_of hal) (by omega))
      have HZ_7 := Lib.hid (HZ_6.out.within (within_of hal) (by omega))
      have BX_7 := Lib.hid (BX_6.out.within (within_of hal) (by omega))
      have SG_7 := Lib.hid (SG_6.out.within (within_of hal) (by omega))
      have SI_7 := Lib.hid (SI_6.out.within (within_of hal) (by omega))
      have SR_7 := Lib.hid (SR_6.out.within (within_of hal) (by omega))
      have SX_7 := Lib.hid (SX_6.out.within (within_of hal) (by omega))
      clear hal
      have hsz : (w6.alloc (.cells #[.int .i64 q, .slice (some ⟨x0, 0, none⟩) l.length l.length] 35)).heap.size = w6.heap.size + 1 := by simp
      have Y7 := Lib.hid hsz
      clear hsz
      have XX_7 := Lib.hid (box_new w6 q (.slice (some ⟨x0, 0, none⟩) l.length l.length) 35)
      generalize (w6.alloc (.cells #[.int .i64 q, .slice (some ⟨x0, 0, none⟩) l.length l.length] 35)) = w7 at *
      refine (toInts_c ys Z cz 0 _ _ HZ_7.out hny).mono ?_
      rintro e w8 ⟨x1, rfl, ho, hb⟩
      have Z8 := Lib.hid (within_of hb).size
      have W8 := Lib.hid (within_on W7.out (within_of hb) W7.out.size (.inr (Nat.le_refl _)))
      have HB_8 := Lib.hid (HB_7.out.within (within_of hb) (by omega))
      have HZ_8 := Lib.hid (HZ_7.out.within (within_of hb) (by omega))
      have BX_8 := Lib.hid (BX_7.out.within (within_of hb) (by omega))
      have SG_8 := Lib.hid (SG_7.out.within (within_of hb) (by omega))
      have SI_8 := Lib.hid (SI_7.out.within (within_of hb) (by omega))
      have SR_8 := Lib.hid (SR_7.out.within (within_of hb) (by omega))
      have SX_8 := Lib.hid (SX_7.out.within (within_of hb) (by omega))
      have XX_8 := Lib.hid (XX_7.out.within (within_of hb) (by omega))
      have SY_8 := Lib.hid (own_ints' ho)
      clear ho hb
      obtain ⟨g01, g02, g03⟩ := XX_8.out
      go_wp2_with fail
      clear g01 g02 g03
      refine (implClo q a1 a2 l ys (some ⟨x0, 0, none⟩) (some ⟨x1, 0, none⟩) l.length ys.length _ _ _ SX_8.out.bars.at SY_8.out.reads hn hny).mono ?_
      rintro e w9 ⟨AG, cg, rfl, ho, hb⟩
      have Z9 := Lib.hid (within_of hb).size
      have W9 := Lib.hid (within_on W8.out (within_of hb) W8.out.size (.inr (Nat.le_refl _)))
      have HB_9 := Lib.hid (HB_8.out.within (within_of hb) (by omega))
      have HZ_9 := Lib.hid (HZ_8.out.within (within_of hb) (by omega))
      have BX_9 := Lib.hid (BX_8.out.within (within_of hb) (by omega))
      have SG_9 := Lib.hid (SG_8.out.within (within_of hb) (by omega))
      have SI_9 := Lib.hid (SI_8.out.within (within_of hb) (by omega))
      have SR_9 := Lib.hid (SR_8.out.within (within_of hb) (by omega))
      have SX_9 := Lib.hid (SX_8.out.within (within_of hb) (by omega))
      have XX_9 := Lib.hid (XX_8.out.within (within_of hb) (by omega))
      have SY_9 := Lib.hid (SY_8.out.within (within_of hb) (by omega))
      have SO_9 := Lib.hid (ho)
      clear ho hb
      go_wp2_with fail
      refine (eqInts_c (cloV q a1 a2 l ys) AG AS cg cs _ _ _ _ _ SO_9.out.reads SR_9.out hans).mono ?_
      rintro e w10 ⟨rfl, hb⟩
      have Z10 := Lib.hid (within_of hb).size
      have W10 := Lib.hid (within_on W9.out (within_of hb) W9.out.size (.inr (Nat.le_refl _)))
      have HB_10 := Lib.hid (HB_9.out.within (within_of hb) (by omega))
      have HZ_10 := Lib.hid (HZ_9.out.within (within_of hb) (by omega))
      have BX_10 := Lib.hid (BX_9.out.within (within_of hb) (by omega))
      have SG_10 := Lib.hid (SG_9.out.within (within_of hb) (by omega))
      have SI_10 := Lib.hid (SI_9.out.within (within_of hb) (by omega))
      have SR_10 := Lib.hid (SR_9.out.within (within_of hb) (by omega))
      have SX_10 := Lib.hid (SX_9.out.within (within_of hb) (by omega))
      have XX_10 := Lib.hid (XX_9.out.within (within_of hb) (by omega))
      have SY_10 := Lib.hid (SY_9.out.within (within_of hb) (by omega))
      have SO_10 := Lib.hid (SO_9.out.within (within_of hb) (by omega))
      clear hb
      have kk0 := box2 BX_10.out XX_10.out
      have kk := box2 BX_10.out XX_10.out
      have hdr : Below w10.heap.size w10 w10.drew := (Below.refl _ _).drew
      have Z11 := Lib.hid (within_of hdr).size
      have W11 := Lib.hid (within_on W10.out (within_of hdr) W10.out.size (.inr (Nat.le_refl _)))
      have HB_11 := Lib.hid (HB_10.out.within (within_of hdr) (by omega))
      have HZ_11 := Lib.hid (HZ_10.out.within (within_of hdr) (by omega))
      have BX_11 := Lib.hid (BX_10.out.within (within_of hdr) (by omega))
      have SG_11 := Lib.hid (SG_10.out.within (within_of hdr) (by omega))
      have SI_11 := Lib.hid (SI_10.out.within (within_of hdr) (by omega))
      have SR_11 := Lib.hid (SR_10.out.within (within_of hdr) (by omega))
      have SX_11 := Lib.hid (SX_10.out.within (within_of hdr) (by omega))
      have XX_11 := Lib.hid (XX_10.out.within (within_of hdr) (by omega))
      have SY_11 := Lib.hid (SY_10.out.within (within_of hdr) (by omega))
      have SO_11 := Lib.hid (SO_10.out.within (within_of hdr) (by omega))
      clear hdr
      go_wp2_with fail
      go_region_held3 (fun W' => W'.cell? ⟨w.heap.size, 0, none⟩ = some (.int .i64 q) ∧ W'.cell? ⟨w.heap.size, 1, none⟩ = some ((.slice A l.length cap)) ∧ W'.cell? ⟨w6.heap.size, 0, none⟩ = some (.int .i64 q) ∧ W'.cell? ⟨w6.heap.size, 1, none⟩ = some ((.slice (some ⟨x0, 0, none⟩) l.length l.length)))
        (first | exact kk | exact box2 BX_12.out XX_12.out | exact box2 BX_13.out XX_13.out | fail)
        (first
          | (go_at_call 20; refine (toGraph_c q l A cap _ ?_ hn).mono ?_; (exact HB_11.out.at); rintro e w12 ⟨y0, rfl, ho, hb⟩; have Z12 := Lib.hid (within_of hb).size; have W12 := Lib.hid (within_on W11.out (within_of hb) W11.out.size (.inr (Nat.le_refl _))); have HB_12 := Lib.hid (HB_11.out.within (within_of hb) (by omega)); have HZ_12 := Lib.hid (HZ_11.out.within (within_of hb) (by omega)); have BX_12 := Lib.hid (BX_11.out.within (within_of hb) (by omega)); have SG_12 := Lib.hid (SG_11.out.within (within_of hb) (by omega)); have SI_12 := Lib.hid (SI_11.out.within (within_of hb) (by omega)); have SR_12 := Lib.hid (SR_11.out.within (within_of hb) (by omega)); have SX_12 := Lib.hid (SX_11.out.within (within_of hb) (by omega)); have XX_12 := Lib.hid (XX_11.out.within (within_of hb) (by omega)); have SY_12 := Lib.hid (SY_11.out.within (within_of hb) (by omega)); have SO_12 := Lib.hid (SO_11.out.within (within_of hb) (by omega)); have YY := Lib.hid (own_bars ho); clear ho hb)
          | (go_at_call 24; refine (eqGraph_c q l _ _ l.length l.length _ ?_ ?_ hn).mono ?_; (exact SX_12.out.bars.at); (exact YY.out); rintro e w13 ⟨rfl, hb⟩; have Z13 := Lib.hid (within_of hb).size; have W13 := Lib.hid (within_on W12.out (within_of hb) W12.out.size (.inr (Nat.le_refl _))); have HB_13 := Lib.hid (HB_12.out.within (within_of hb) (by omega)); have HZ_13 := Lib.hid (HZ_12.out.within (within_of hb) (by omega)); have BX_13 := Lib.hid (BX_12.out.within (within_of hb) (by omega)); have SG_13 := Lib.hid (SG_12.out.within (within_of hb) (by omega)); have SI_13 := Lib.hid (SI_12.out.within (within_of hb) (by omega)); have SR_13 := Lib.hid (SR_12.out.within (within_of hb) (by omega)); have SX_13 := Lib.hid (SX_12.out.within (within_of hb) (by omega)); have XX_13 := Lib.hid (XX_12.out.within (within_of hb) (by omega)); have SY_13 := Lib.hid (SY_12.out.within (within_of hb) (by omega)); have SO_13 := Lib.hid (SO_12.out.within (within_of hb) (by omega)); clear hb))
      go_wp2_with fail
      refine (toInts_c ys Z cz 0 _ _ HZ_13.out hny).mono ?_
      rintro e w14 ⟨y1, rfl, ho, hb⟩
      have Z14 := Lib.hid (within_of hb).size
      have W14 := Lib.hid (within_on W13.out (within_of hb) W13.out.size (.inr (Nat.le_refl _)))
      have HB_14 := Lib.hid (HB_13.out.within (within_of hb) (by omega))
      have HZ_14 := Lib.hid (HZ_13.out.within (within_of hb) (by omega))
      have BX_14 := Lib.hid (BX_13.out.within (within_of hb) (by omega))
      have SG_14 := Lib.hid (SG_13.out.within (within_of hb) (by omega))
      have SI_14 := Lib.hid (SI_13.out.within (within_of hb) (by omega))
      have SR_14 := Lib.hid (SR_13.out.within (within_of hb) (by omega))
      have SX_14 := Lib.hid (SX_13.out.within (within_of hb) (by omega))
      have XX_14 := Lib.hid (XX_13.out.within (within_of hb) (by omega))
      have SY_14 := Lib.hid (SY_13.out.within (within_of hb) (by omega))
      have SO_14 := Lib.hid (SO_13.out.within (within_of hb) (by omega))
      have SZ_14 := Lib.hid ((own_ints' ho).reads)
      clear ho hb
      go_wp2_with fail
      refine (eqInts_c ys (some ⟨x1, 0, none⟩) (some ⟨y1, 0, none⟩) ys.length ys.length _ _ _ _ _ SY_14.out.reads SZ_14.out hny).mono ?_
      rintro e w15 ⟨rfl, hb⟩
      have Z15 := Lib.hid (within_of hb).size
      have W15 := Lib.hid (within_on W14.out (within_of hb) W14.out.size (.inr (Nat.le_refl _)))
      have HB_15 := Lib.hid (HB_14.out.within (within_of hb) (by omega))
      have HZ_15 := Lib.hid (HZ_14.out.within (within_of hb) (by omega))
      have BX_15 := Lib.hid (BX_14.out.within (within_of hb) (by omega))
      have SG_15 := Lib.hid (SG_14.out.within (within_of hb) (by omega))
      have SI_15 := Lib.hid (SI_14.out.within (within_of hb) (by omega))
      have SR_15 := Lib.hid (SR_14.out.within (within_of hb) (by omega))
      have SX_15 := Lib.hid (SX_14.out.within (within_of hb) (by omega))
      have XX_15 := Lib.hid (XX_14.out.within (within_of hb) (by omega))
      have SY_15 := Lib.hid (SY_14.out.within (within_of hb) (by omega))
      have SO_15 := Lib.hid (SO_14.out.within (within_of hb) (by omega))
      have SZ_15 := Lib.hid (SZ_14.out.within (within_of hb) (by omega))
      clear hb
      obtain ⟨g01, g02, g03⟩ := XX_15.out
      go_wp2_with fail
      clear g01 g02 g03
      refine (markGraph_o q (some ⟨x0, 0, none⟩) l.length l 1 w5.heap.size w6.heap.size _ SX_15.out hn (by omega) (by omega)).mono ?_
      rintro e w16 ⟨rfl, hin, hox⟩
      have Z16 := Lib.hid (hin).size
      have W16 := Lib.hid (within_on W15.out (hin) W15.out.size (by have := W15.out.size; have := Z1.out; have := Z2.out; have := Z3.out; have := Z4.out; have := Z5.out; have := Z6.out; have := Z7.out; have := Z8.out; have := Z9.out; have := Z10.out; have := Z11.out; have := Z12.out; have := Z13.out; have := Z14.out; have := Z15.out; have := Z16.out; have := Y1.out; have := Y7.out; omega))
      have HB_16 := Lib.hid (HB_15.out.within (hin) (by have := Z1.out; have := Z2.out; have := Z3.out; have := Z4.out; have := Z5.out; have := Z6.out; have := Z7.out; have := Z8.out; have := Z9.out; have := Z10.out; have := Z11.out; have := Z12.out; have := Z13.out; have := Z14.out; have := Z15.out; have := Z16.out; have := Y1.out; have := Y7.out; omega))
      have HZ_16 := Lib.hid (HZ_15.out.within (hin) (by have := Z1.out; have := Z2.out; have := Z3.out; have := Z4.out; have := Z5.out; have := Z6.out; have := Z7.out; have := Z8.out; have := Z9.out; have := Z10.out; have := Z11.out; have := Z12.out; have := Z13.out; have := Z14.out; have := Z15.out; have := Z16.out; have := Y1.out; have := Y7.out; omega))
      have BX_16 := Lib.hid (BX_15.out.within (hin) (by have := Z1.out; have := Z2.out; have := Z3.out; have := Z4.out; have := Z5.out; have := Z6.out; have := Z7.out; have := Z8.out; have := Z9.out; have := Z10.out; have := Z11.out; have := Z12.out; have := Z13.out; have := Z14.out; have := Z15.out; have := Z16.out; have := Y1.out; have := Y7.out; omega))
      have SG_16 := Lib.hid (SG_15.out.within (hin) (by have := Z1.out; have := Z2.out; have := Z3.out; have := Z4.out; have := Z5.out; have := Z6.out; have := Z7.out; have := Z8.out; have := Z9.out; have := Z10.out; have := Z11.out; have := Z12.out; have := Z13.out; have := Z14.out; have := Z15.out; have := Z16.out; have := Y1.out; have := Y7.out; omega))
      have SI_16 := Lib.hid (SI_15.out.within (hin) (by have := Z1.out; have := Z2.out; have := Z3.out; have := Z4.out; have := Z5.out; have := Z6.out; have := Z7.out; have := Z8.out; have := Z9.out; have := Z10.out; have := Z11.out; have := Z12.out; have := Z13.out; have := Z14.out; have := Z15.out; have := Z16.out; have := Y1.out; have := Y7.out; omega))
      have SR_16 := Lib.hid (SR_15.out.within (hin) (by have := Z1.out; have := Z2.out; have := Z3.out; have := Z4.out; have := Z5.out; have := Z6.out; have := Z7.out; have := Z8.out; have := Z9.out; have := Z10.out; have := Z11.out; have := Z12.out; have := Z13.out; have := Z14.out; have := Z15.out; have := Z16.out; have := Y1.out; have := Y7.out; omega))
      have XX_16 := Lib.hid (XX_15.out.within (hin) (by have := Z1.out; have := Z2.out; have := Z3.out; have := Z4.out; have := Z5.out; have := Z6.out; have := Z7.out; have := Z8.out; have := Z9.out; have := Z10.out; have := Z11.out; have := Z12.out; have := Z13.out; have := Z14.out; have := Z15.out; have := Z16.out; have := Y1.out; have := Y7.out; omega))
      have SY_16 := Lib.hid (SY_15.out.within (hin) (by have := Z1.out; have := Z2.out; have := Z3.out; have := Z4.out; have := Z5.out; have := Z6.out; have := Z7.out; have := Z8.out; have := Z9.out; have := Z10.out; have := Z11.out; have := Z12.out; have := Z13.out; have := Z14.out; have := Z15.out; have := Z16.out; have := Y1.out; have := Y7.out; omega))
      have SO_16 := Lib.hid (SO_15.out.within (hin) (by have := Z1.out; have := Z2.out; have := Z3.out; have := Z4.out; have := Z5.out; have := Z6.out; have := Z7.out; have := Z8.out; have := Z9.out; have := Z10.out; have := Z11.out; have := Z12.out; have := Z13.out; have := Z14.out; have := Z15.out; have := Z16.out; have := Y1.out; have := Y7.out; omega))
      have SZ_16 := Lib.hid (SZ_15.out.within (hin) (by have := Z1.out; have := Z2.out; have := Z3.out; have := Z4.out; have := Z5.out; have := Z6.out; have := Z7.out; have := Z8.out; have := Z9.out; have := Z10.out; have := Z11.out; have := Z12.out; have := Z13.out; have := Z14.out; have := Z15.out; have := Z16.out; have := Y1.out; have := Y7.out; omega))
      clear hox hin
      go_wp2_with fail
      refine (markInts_o (some ⟨x1, 0, none⟩) ys.length ys (1 + 2 * (l.length : Int)) w7.heap.size w8.heap.size _ SY_16.out hny (by omega) (by omega)).mono ?_
      rintro e w17 ⟨rfl, hin, hox⟩
      have Z17 := Lib.hid (hin).size
      have W17 := Lib.hid (within_on W16.out (hin) W16.out.size (by have := W16.out.size; have := Z1.out; have := Z2.out; have := Z3.out; have := Z4.out; have := Z5.out; have := Z6.out; have := Z7.out; have := Z8.out; have := Z9.out; have := Z10.out; have := Z11.out; have := Z12.out; have := Z13.out; have := Z14.out; have := Z15.out; have := Z16.out; have := Z17.out; have := Y1.out; have := Y7.out; omega))
      have HB_17 := Lib.hid (HB_16.out.within (hin) (by have := Z1.out; have := Z2.out; have := Z3.out; have := Z4.out; have := Z5.out; have := Z6.out; have := Z7.out; have := Z8.out; have := Z9.out; have := Z10.out; have := Z11.out; have := Z12.out; have := Z13.out; have := Z14.out; have := Z15.out; have := Z16.out; have := Z17.out; have := Y1.out; have := Y7.out; omega))
      have HZ_17 := Lib.hid (HZ_16.out.within (hin) (by have := Z1.out; have := Z2.out; have := Z3.out; have := Z4.out; have := Z5.out; have := Z6.out; have := Z7.out; have := Z8.out; have := Z9.out; have := Z10.out; have := Z11.out; have := Z12.out; have := Z13.out; have := Z14.out; have := Z15.out; have := Z16.out; have := Z17.out; have := Y1.out; have := Y7.out; omega))
      have BX_17 := Lib.hid (BX_16.out.within (hin) (by have := Z1.out; have := Z2.out; have := Z3.out; have := Z4.out; have := Z5.out; have := Z6.out; have := Z7.out; have := Z8.out; have := Z9.out; have := Z10.out; have := Z11.out; have := Z12.out; have := Z13.out; have := Z14.out; have := Z15.out; have := Z16.out; have := Z17.out; have := Y1.out; have := Y7.out; omega))
      have SG_17 := Lib.hid (SG_16.out.within (hin) (by have := Z1.out; have := Z2.out; have := Z3.out; have := Z4.out; have := Z5.out; have := Z6.out; have := Z7.out; have := Z8.out; have := Z9.out; have := Z10.out; have := Z11.out; have := Z12.out; have := Z13.out; have := Z14.out; have := Z15.out; have := Z16.out; have := Z17.out; have := Y1.out; have := Y7.out; omega))
      have SI_17 := Lib.hid (SI_16.out.within (hin) (by have := Z1.out; have := Z2.out; have := Z3.out; have := Z4.out; have := Z5.out; have := Z6.out; have := Z7.out; have := Z8.out; have := Z9.out; have := Z10.out; have := Z11.out; have := Z12.out; have := Z13.out; have := Z14.out; have := Z15.out; have := Z16.out; have := Z17.out; have := Y1.out; have := Y7.out; omega))
      have SR_17 := Lib.hid (SR_16.out.within (hin) (by have := Z1.out; have := Z2.out; have := Z3.out; have := Z4.out; have := Z5.out; have := Z6.out; have := Z7.out; have := Z8.out; have := Z9.out; have := Z10.out; have := Z11.out; have := Z12.out; have := Z13.out; have := Z14.out; have := Z15.out; have := Z16.out; have := Z17.out; have := Y1.out; have := Y7.out; omega))
      have XX_17 := Lib.hid (XX_16.out.within (hin) (by have := Z1.out; have := Z2.out; have := Z3.out; have := Z4.out; have := Z5.out; have := Z6.out; have := Z7.out; have := Z8.out; have := Z9.out; have := Z10.out; have := Z11.out; have := Z12.out; have := Z13.out; have := Z14.out; have := Z15.out; have := Z16.out; have := Z17.out; have := Y1.out; have := Y7.out; omega))
      have SO_17 := Lib.hid (SO_16.out.within (hin) (by have := Z1.out; have := Z2.out; have := Z3.out; have := Z4.out; have := Z5.out; have := Z6.out; have := Z7.out; have := Z8.out; have := Z9.out; have := Z10.out; have := Z11.out; have := Z12.out; have := Z13.out; have := Z14.out; have := Z15.out; have := Z16.out; have := Z17.out; have := Y1.out; have := Y7.out; omega))
      have SZ_17 := Lib.hid (SZ_16.out.within (hin) (by have := Z1.out; have := Z2.out; have := Z3.out; have := Z4.out; have := Z5.out; have := Z6.out; have := Z7.out; have := Z8.out; have := Z9.out; have := Z10.out; have := Z11.out; have := Z12.out; have := Z13.out; have := Z14.out; have := Z15.out; have := Z16.out; have := Z17.out; have := Y1.out; have := Y7.out; omega))
      clear hox hin
      have hk1 : ¬ (1 : Int) + 2 * (l.length : Int) + (ys.length : Int) < 0 := by omega
      go_wp2_with fail
      refine (eqInts_c (cloV q a1 a2 l ys) AG AS cg cs _ _ _ _ _ SO_17.out.reads SR_17.out hans).mono ?_
      rintro e w18 ⟨rfl, hb⟩
      have Z18 := Lib.hid (within_of hb).size
      have W18 := Lib.hid (within_on W17.out (within_of hb) W17.out.size (.inr (Nat.le_refl _)))
      have HB_18 := Lib.hid (HB_17.out.within (within_of hb) (by omega))
      have HZ_18 := Lib.hid (HZ_17.out.within (within_of hb) (by omega))
      have BX_18 := Lib.hid (BX_17.out.within (within_of hb) (by omega))
      have SG_18 := Lib.hid (SG_17.out.within (within_of hb) (by omega))
      have SI_18 := Lib.hid (SI_17.out.within (within_of hb) (by omega))
      have SR_18 := Lib.hid (SR_17.out.within (within_of hb) (by omega))
      have XX_18 := Lib.hid (XX_17.out.within (within_of hb) (by omega))
      have SO_18 := Lib.hid (SO_17.out.within (within_of hb) (by omega))
      have SZ_18 := Lib.hid (SZ_17.out.within (within_of hb) (by omega))
      clear hb
      go_wp2_with fail
      refine (markInts_o AG cg (cloV q a1 a2 l ys) 1 w8.heap.size w9.heap.size _ SO_18.out hans (by omega) (by omega)).mono ?_
      rintro e w19 ⟨rfl, hin, hog⟩
      have Z19 := Lib.hid (hin).size
      have W19 := Lib.hid (within_on W18.out (hin) W18.out.size (by have := W18.out.size; have := Z1.out; have := Z2.out; have := Z3.out; have := Z4.out; have := Z5.out; have := Z6.out; have := Z7.out; have := Z8.out; have := Z9.out; have := Z10.out; have := Z11.out; have := Z12.out; have := Z13.out; have := Z14.out; have := Z15.out; have := Z16.out; have := Z17.out; have := Z18.out; have := Z19.out; have := Y1.out; have := Y7.out; omega))
      have HB_19 := Lib.hid (HB_18.out.within (hin) (by have := Z1.out; have := Z2.out; have := Z3.out; have := Z4.out; have := Z5.out; have := Z6.out; have := Z7.out; have := Z8.out; have := Z9.out; have := Z10.out; have := Z11.out; have := Z12.out; have := Z13.out; have := Z14.out; have := Z15.out; have := Z16.out; have := Z17.out; have := Z18.out; have := Z19.out; have := Y1.out; have := Y7.out; omega))
      have HZ_19 := Lib.hid (HZ_18.out.within (hin) (by have := Z1.out; have := Z2.out; have := Z3.out; have := Z4.out; have := Z5.out; have := Z6.out; have := Z7.out; have := Z8.out; have := Z9.out; have := Z10.out; have := Z11.out; have := Z12.out; have := Z13.out; have := Z14.out; have := Z15.out; have := Z16.out; have := Z17.out; have := Z18.out; have := Z19.out; have := Y1.out; have := Y7.out; omega))
      have BX_19 := Lib.hid (BX_18.out.within (hin) (by have := Z1.out; have := Z2.out; have := Z3.out; have := Z4.out; have := Z5.out; have := Z6.out; have := Z7.out; have := Z8.out; have := Z9.out; have := Z10.out; have := Z11.out; have := Z12.out; have := Z13.out; have := Z14.out; have := Z15.out; have := Z16.out; have := Z17.out; have := Z18.out; have := Z19.out; have := Y1.out; have := Y7.out; omega))
      have SG_19 := Lib.hid (SG_18.out.within (hin) (by have := Z1.out; have := Z2.out; have := Z3.out; have := Z4.out; have := Z5.out; have := Z6.out; have := Z7.out; have := Z8.out; have := Z9.out; have := Z10.out; have := Z11.out; have := Z12.out; have := Z13.out; have := Z14.out; have := Z15.out; have := Z16.out; have := Z17.out; have := Z18.out; have := Z19.out; have := Y1.out; have := Y7.out; omega))
      have SI_19 := Lib.hid (SI_18.out.within (hin) (by have := Z1.out; have := Z2.out; have := Z3.out; have := Z4.out; have := Z5.out; have := Z6.out; have := Z7.out; have := Z8.out; have := Z9.out; have := Z10.out; have := Z11.out; have := Z12.out; have := Z13.out; have := Z14.out; have := Z15.out; have := Z16.out; have := Z17.out; have := Z18.out; have := Z19.out; have := Y1.out; have := Y7.out; omega))
      have SR_19 := Lib.hid (SR_18.out.within (hin) (by have := Z1.out; have := Z2.out; have := Z3.out; have := Z4.out; have := Z5.out; have := Z6.out; have := Z7.out; have := Z8.out; have := Z9.out; have := Z10.out; have := Z11.out; have := Z12.out; have := Z13.out; have := Z14.out; have := Z15.out; have := Z16.out; have := Z17.out; have := Z18.out; have := Z19.out; have := Y1.out; have := Y7.out; omega))
      have XX_19 := Lib.hid (XX_18.out.within (hin) (by have := Z1.out; have := Z2.out; have := Z3.out; have := Z4.out; have := Z5.out; have := Z6.out; have := Z7.out; have := Z8.out; have := Z9.out; have := Z10.out; have := Z11.out; have := Z12.out; have := Z13.out; have := Z14.out; have := Z15.out; have := Z16.out; have := Z17.out; have := Z18.out; have := Z19.out; have := Y1.out; have := Y7.out; omega))
      have SZ_19 := Lib.hid (SZ_18.out.within (hin) (by have := Z1.out; have := Z2.out; have := Z3.out; have := Z4.out; have := Z5.out; have := Z6.out; have := Z7.out; have := Z8.out; have := Z9.out; have := Z10.out; have := Z11.out; have := Z12.out; have := Z13.out; have := Z14.out; have := Z15.out; have := Z16.out; have := Z17.out; have := Z18.out; have := Z19.out; have := Y1.out; have := Y7.out; omega))
      have SM_19 := Lib.hid (hog)
      clear hog hin
      have hk2 : ¬ (1 : Int) + ((cloV q a1 a2 l ys).length : Int) < 0 := by omega
      go_wp2_with fail
      refine (heldInts_c (cloV q a1 a2 l ys).length AG cg 1 _ _ _ SM_19.out.reads hans (by omega) (by omega)).mono ?_
      rintro e w20 ⟨rfl, hb⟩
      have Z20 := Lib.hid (within_of hb).size
      have W20 := Lib.hid (within_on W19.out (within_of hb) W19.out.size (.inr (Nat.le_refl _)))
      have HB_20 := Lib.hid (HB_19.out.within (within_of hb) (by omega))
      have HZ_20 := Lib.hid (HZ_19.out.within (within_of hb) (by omega))
      have BX_20 := Lib.hid (BX_19.out.within (within_of hb) (by omega))
      have SG_20 := Lib.hid (SG_19.out.within (within_of hb) (by omega))
      have SI_20 := Lib.hid (SI_19.out.within (within_of hb) (by omega))
      have SR_20 := Lib.hid (SR_19.out.within (within_of hb) (by omega))
      have XX_20 := Lib.hid (XX_19.out.within (within_of hb) (by omega))
      have SZ_20 := Lib.hid (SZ_19.out.within (within_of hb) (by omega))
      have SM_20 := Lib.hid (SM_19.out.within (within_of hb) (by omega))
      clear hb
      obtain ⟨g01, g02, g03⟩ := BX_20.out
      go_wp2_with fail
      clear g01 g02 g03
      refine (toGraph_c q l A cap _ HB_20.out.at hn).mono ?_
      rintro e w21 ⟨z0, rfl, ho, hb⟩
      have Z21 := Lib.hid (within_of hb).size
      have W21 := Lib.hid (within_on W20.out (within_of hb) W20.out.size (.inr (Nat.le_refl _)))
      have HB_21 := Lib.hid (HB_20.out.within (within_of hb) (by omega))
      have HZ_21 := Lib.hid (HZ_20.out.within (within_of hb) (by omega))
      have BX_21 := Lib.hid (BX_20.out.within (within_of hb) (by omega))
      have SG_21 := Lib.hid (SG_20.out.within (within_of hb) (by omega))
      have SI_21 := Lib.hid (SI_20.out.within (within_of hb) (by omega))
      have SR_21 := Lib.hid (SR_20.out.within (within_of hb) (by omega))
      have XX_21 := Lib.hid (XX_20.out.within (within_of hb) (by omega))
      have SZ_21 := Lib.hid (SZ_20.out.within (within_of hb) (by omega))
      have SM_21 := Lib.hid (SM_20.out.within (within_of hb) (by omega))
      have ST_21 := Lib.hid ((own_in ho).bars)
      clear ho hb
      go_wp2_with fail
      refine (toInts_c ys Z cz 0 _ _ HZ_21.out hny).mono ?_
      rintro e w22 ⟨z1, rfl, ho, hb⟩
      have Z22 := Lib.hid (within_of hb).size
      have W22 := Lib.hid (within_on W21.out (within_of hb) W21.out.size (.inr (Nat.le_refl _)))
      have HB_22 := Lib.hid (HB_21.out.within (within_of hb) (by omega))
      have HZ_22 := Lib.hid (HZ_21.out.within (within_of hb) (by omega))
      have BX_22 := Lib.hid (BX_21.out.within (within_of hb) (by omega))
      have SG_22 := Lib.hid (SG_21.out.within (within_of hb) (by omega))
      have SI_22 := Lib.hid (SI_21.out.within (within_of hb) (by omega))
      have SR_22 := Lib.hid (SR_21.out.within (within_of hb) (by omega))
      have XX_22 := Lib.hid (XX_21.out.within (within_of hb) (by omega))
      have SZ_22 := Lib.hid (SZ_21.out.within (within_of hb) (by omega))
      have SM_22 := Lib.hid (SM_21.out.within (within_of hb) (by omega))
      have ST_22 := Lib.hid (ST_21.out.within (within_of hb) (by omega))
      have SV_22 := Lib.hid ((own_ints' ho).reads)
      clear ho hb
      go_wp2_with fail
      refine (implClo q a1 a2 l ys (some ⟨z0, 0, none⟩) (some ⟨z1, 0, none⟩) l.length ys.length _ _ _ ST_22.out.at SV_22.out hn hny).mono ?_
      rintro e w23 ⟨AH, ch, rfl, ho, hb⟩
      have Z23 := Lib.hid (within_of hb).size
      have W23 := Lib.hid (within_on W22.out (within_of hb) W22.out.size (.inr (Nat.le_refl _)))
      have HB_23 := Lib.hid (HB_22.out.within (within_of hb) (by omega))
      have HZ_23 := Lib.hid (HZ_22.out.within (within_of hb) (by omega))
      have BX_23 := Lib.hid (BX_22.out.within (within_of hb) (by omega))
      have SG_23 := Lib.hid (SG_22.out.within (within_of hb) (by omega))
      have SI_23 := Lib.hid (SI_22.out.within (within_of hb) (by omega))
      have SR_23 := Lib.hid (SR_22.out.within (within_of hb) (by omega))
      have XX_23 := Lib.hid (XX_22.out.within (within_of hb) (by omega))
      have SZ_23 := Lib.hid (SZ_22.out.within (within_of hb) (by omega))
      have SM_23 := Lib.hid (SM_22.out.within (within_of hb) (by omega))
      have ST_23 := Lib.hid (ST_22.out.within (within_of hb) (by omega))
      have SV_23 := Lib.hid (SV_22.out.within (within_of hb) (by omega))
      have SH_23 := Lib.hid (ho.reads)
      clear ho hb
      go_wp2_with fail
      refine (eqInts_c (cloV q a1 a2 l ys) AH AS ch cs _ _ _ _ _ SH_23.out SR_23.out hans).mono ?_
      rintro e w24 ⟨rfl, hb⟩
      have Z24 := Lib.hid (within_of hb).size
      have W24 := Lib.hid (within_on W23.out (within_of hb) W23.out.size (.inr (Nat.le_refl _)))
      have HB_24 := Lib.hid (HB_23.out.within (within_of hb) (by omega))
      have HZ_24 := Lib.hid (HZ_23.out.within (within_of hb) (by omega))
      have BX_24 := Lib.hid (BX_23.out.within (within_of hb) (by omega))
      have SG_24 := Lib.hid (SG_23.out.within (within_of hb) (by omega))
      have SI_24 := Lib.hid (SI_23.out.within (within_of hb) (by omega))
      have SR_24 := Lib.hid (SR_23.out.within (within_of hb) (by omega))
      have XX_24 := Lib.hid (XX_23.out.within (within_of hb) (by omega))
      have SZ_24 := Lib.hid (SZ_23.out.within (within_of hb) (by omega))
      have SM_24 := Lib.hid (SM_23.out.within (within_of hb) (by omega))
      have ST_24 := Lib.hid (ST_23.out.within (within_of hb) (by omega))
      have SV_24 := Lib.hid (SV_23.out.within (within_of hb) (by omega))
      have SH_24 := Lib.hid (SH_23.out.within (within_of hb) (by omega))
      clear hb
      go_wp2_with fail
      refine (heldInts_c (cloV q a1 a2 l ys).length AG cg 1 _ _ _ SM_24.out.reads hans (by omega) (by omega)).mono ?_
      rintro e w25 ⟨rfl, hb⟩
      have Z25 := Lib.hid (within_of hb).size
      have W25 := Lib.hid (within_on W24.out (within_of hb) W24.out.size (.inr (Nat.le_refl _)))
      have HB_25 := Lib.hid (HB_24.out.within (within_of hb) (by omega))
      have HZ_25 := Lib.hid (HZ_24.out.within (within_of hb) (by omega))
      have BX_25 := Lib.hid (BX_24.out.within (within_of hb) (by omega))
      have SG_25 := Lib.hid (SG_24.out.within (within_of hb) (by omega))
      have SI_25 := Lib.hid (SI_24.out.within (within_of hb) (by omega))
      have SR_25 := Lib.hid (SR_24.out.within (within_of hb) (by omega))
      have XX_25 := Lib.hid (XX_24.out.within (within_of hb) (by omega))
      have SZ_25 := Lib.hid (SZ_24.out.within (within_of hb) (by omega))
      have SM_25 := Lib.hid (SM_24.out.within (within_of hb) (by omega))
      have ST_25 := Lib.hid (ST_24.out.within (within_of hb) (by omega))
      have SV_25 := Lib.hid (SV_24.out.within (within_of hb) (by omega))
      have SH_25 := Lib.hid (SH_24.out.within (within_of hb) (by omega))
      clear hb
      go_wp2_with fail
      go_ret
      exact ⟨rfl, W25.out⟩
    · have hx : (1048576 : Int) < (l.length : Int) := by omega
      have h63 : l.length ≤ 9223372036854775807 := by unfold maxLen at hl; omega
      have HA := Lib.hid (new_below w (.cells #[.int .i64 q, .slice A l.length cap] 24))
      go_enter Try.func14, Try.ntmps14
      go_wp2_with fail
      refine (szGraph_no q A l.length cap 1048576 _ h63 hx (by omega)).mono ?_
      rintro e w1 ⟨rfl, hb1⟩
      have W1 := Lib.hid (below_on HA.out hb1 HA.out.size)
      clear hb1
      go_wp2_with fail
      go_ret
      exact ⟨rfl, W1.out⟩
  · have hx : (1048576 : Int) < (ys.length : Int) := by omega
    have HA := Lib.hid (new_below w (.cells #[.int .i64 q, .slice A l.length cap] 24))
    go_enter Try.func14, Try.ntmps14
    go_wp2_with fail
    go_ret
    exact ⟨rfl, HA.out⟩
end Go.Proofs.Ytgmcibcjplncaaa
