/- What impl.FormatInt and spec.FormatInt answer: the decimal numeral, wherever the table of the library's powers of ten reads as the program lays it; and that the law on FormatInt returns true. -/
import Derived.Test.YtehendofgcebcaaDoorWords
import Derived.Test.YtehendofgcebcaaDoorShelf
import Derived.Lib.ItoaLen
import Derived.Lib.ItoaMem
import Derived.Lib.AppendIntMem
namespace Go.Proofs.YtehendofgcebcaaDoor
open Go.RowKit

/-- The library's table of powers of ten reads as the program lays it. -/
def Tab (w : World) : Prop := Lib.TabIs Tryd.prog w "internal/strconv.uint64pow10" .u64 Lib.pow10Tab
theorem Tab.below {w w' : World} (h : Tab w) (hb : Below w.heap.size w w') : Tab w' := Lib.tabBelow_of_tabIs h w' hb

theorem below_grow (w : World) (k : Nat) (os : Array Obj) : Below w.heap.size w (Sort.grow (w.drewN k) os) := by
  refine ⟨rfl, rfl, rfl, by simp, fun i hi => ?_⟩
  simp only [Sort.grow]
  exact Array.getElem?_append_left hi

/-- The decimal numeral of n. -/
def fmtS (n : Int) : ByteArray := ⟨(Lib.itoa n).toArray⟩

set_option maxRecDepth 100000 in
theorem implFmt (n : Int) (w : World) (h0 : -9223372036854775808 ≤ n) (h1 : n ≤ 9223372036854775807) (ht : Tab w) :
    Calls Tryd.prog 50 #[.int .i64 n] w fun e w' => e = .returned (.string (fmtS n)) ∧ Below w.heap.size w w' := by
  have H0 := Lib.hid h0
  have H1 := Lib.hid h1
  have HT := Lib.hid ht
  clear h0 h1 ht
  go_enter Tryd.func50, Tryd.ntmps50
  go_wp2_with fail
  refine (Tryd.strconv_Itoa n H0.out H1.out _ HT.out).mono ?_
  rintro e w' ⟨rfl, k, os, rfl⟩
  go_wp2_with fail
  go_ret
  exact ⟨rfl, below_grow _ _ _⟩

/-- The digits of u as numbers. -/
def ds (u : Nat) : List Int := (Lib.decDigits u).map fun c => (c.toNat : Int)
theorem ds_small (u : Nat) (h : u < 10) : ds u = [48 + (u : Int)] := by
  unfold ds
  rw [Lib.decDigits_one h]
  simp [UInt8.toNat_ofNat']
  omega
theorem ds_big (u : Nat) (h : ¬ u < 10) : ds u = ds (u / 10) ++ [48 + (u : Int) % 10] := by
  unfold ds
  rw [Lib.decDigits, dif_neg h]
  simp [UInt8.toNat_ofNat']
  omega
theorem ds_len (u : Nat) (h : u ≤ 9223372036854775808) : (ds u).length ≤ 21 := by
  rcases Nat.eq_zero_or_pos u with rfl | h1
  · rw [ds_small 0 (by decide)]; simp
  · have := Lib.itoa_length_le (-(u : Int)) (by omega) (by omega)
    rw [Lib.itoa_neg u h1] at this
    simp only [List.length_cons] at this
    simp only [ds, List.length_map]
    omega
theorem str_ds (u : Nat) : strOfNums (ds u) = ⟨(Lib.decDigits u).toArray⟩ := by
  unfold strOfNums ds
  rw [List.map_map]
  congr 2
  have : (fun c : UInt8 => UInt8.ofNat ((c.toNat : Int)).toNat) = id := by
    funext c
    simp
  simp [Function.comp_def]

/-- What has been collected before a round: the digits below the place that is reached. -/
def Digs (m q : Nat) (ns : List Int) : Prop := (q = 0 → ns = ds m) ∧ (0 < q → ds q ++ ns = ds m)
theorem Digs.start (m : Nat) (h : 0 < m) : Digs m m [] := ⟨fun h0 => absurd h0 (by omega), fun _ => by simp⟩
theorem Digs.next {m q : Nat} {ns : List Int} (h : Digs m q ns) (hq : 0 < q) : Digs m (q / 10) ((48 + (q : Int) % 10) :: ns) := by
  have h2 := h.2 hq
  by_cases hs : q < 10
  · rw [ds_small q hs] at h2
    refine ⟨fun _ => ?_, fun h0 => absurd h0 (by omega)⟩
    rw [← h2, show (q : Int) % 10 = (q : Int) by omega]
    rfl
  · rw [ds_big q hs, List.append_assoc] at h2
    exact ⟨fun h0 => absurd h0 (by omega), fun _ => h2⟩
theorem Digs.len {m q : Nat} {ns : List Int} (h : Digs m q ns) (hm : m ≤ 9223372036854775808) : ns.length ≤ 21 := by
  have := ds_len m hm
  rcases Nat.eq_zero_or_pos q with h0 | h0
  · rw [h.1 h0]; exact this
  · rw [← h.2 h0, List.length_append] at this; omega

theorem fmtS_zero : fmtS 0 = strOfNums [48] := by
  unfold fmtS
  rw [show (0 : Int) = ((0 : Nat) : Int) from rfl, Lib.itoa_nonneg, Lib.decDigits_one (by decide)]
  rfl
theorem fmtS_pos (m : Nat) : fmtS (m : Int) = strOfNums (ds m) := by
  unfold fmtS
  rw [Lib.itoa_nonneg, str_ds]
theorem fmtS_neg (m : Nat) (h : 1 ≤ m) : fmtS (-(m : Int)) = strOfNums (45 :: ds m) := by
  unfold fmtS
  rw [Lib.itoa_neg m h, ← show strOfNums [45] ++ strOfNums (ds m) = strOfNums (45 :: ds m) from nums_append _ _, str_ds]
  apply ByteArray.ext
  simp [ByteArray.data_append, strOfNums]

theorem specFmt_zero (w : World) :
    Calls Tryd.prog 18 #[.int .i64 0] w fun e w' => e = .returned (.string (fmtS 0)) ∧ Below w.heap.size w w' := by
  go_enter Tryd.func18, Tryd.ntmps18
  go_wp2
  go_ret
  exact ⟨ret_str fmtS_zero.symm, Below.refl _ _⟩

set_option maxHeartbeats 400000 in
set_option maxRecDepth 100000 in
theorem specFmt_pos (m : Nat) (w : World) (h0 : 0 < m) (h1 : m ≤ 9223372036854775807) :
    Calls Tryd.prog 18 #[.int .i64 (m : Int)] w fun e w' => e = .returned (.string (fmtS (m : Int))) ∧ Below w.heap.size w w' := by
  have H1 := Lib.hid h1
  have H0 := Lib.hid h0
  clear h1
  have hne : ((m : Int) == 0) = false := by simp; omega
  go_enter Tryd.func18, Tryd.ntmps18
  go_wp2
  go_loopw [0, 3] (fun c v wr => ∃ (q : Nat) (ns : List Int), q ≤ m ∧ c = .int .i64 q ∧ v = .string (strOfNums ns) ∧ Digs m q ns ∧ Below w.heap.size w wr) (fun c _ _ => (intOf c).toNat)
  case atStart => exact ⟨m, [], Nat.le_refl _, rfl, rfl, Digs.start m H0.out, Below.refl _ _⟩
  case round =>
    obtain ⟨q, ns, hq, rfl, rfl, hd, hb⟩ := hrel
    have hbs := hb.size
    have HB := Lib.hid hb
    have hl := hd.len (by have := H1.out; omega)
    have hqm : (q : Int) ≤ 9223372036854775807 := by have := H1.out; omega
    clear hb hne
    rcases Nat.eq_zero_or_pos q with rfl | hpos
    · have HD := Lib.hid (hd.1 rfl)
      clear hd
      go_wp2
      go_ret
      exact ⟨ret_str (by rw [HD.out, fmtS_pos]), HB.out⟩
    · have HD := Lib.hid (hd.next hpos)
      clear hd
      have hq0 : ((q : Int) != 0) = true := by simp; omega
      have hc1 := fun (x : Int) => conv_one (P := Tryd.prog) wr 53 9 5 x Tryd.underlying53 Tryd.underlying5 Tryd.underlying9
      have hadd := fun (W : World) => add_nums (P := Tryd.prog) W [48 + (q : Int) % 10] ns (by simp; omega)
      go_wp2
      go_roundw
      case rel => exact ⟨q / 10, _, by omega, by go_num, rfl, HD.out, HB.out.trans ((Below.refl _ _).alloc hbs _)⟩
      case measure => simp [intOf]; omega

set_option maxHeartbeats 400000 in
set_option maxRecDepth 100000 in
theorem specFmt_neg (m : Nat) (w : World) (h0 : 0 < m) (h1 : m ≤ 9223372036854775808) :
    Calls Tryd.prog 18 #[.int .i64 (-(m : Int))] w fun e w' => e = .returned (.string (fmtS (-(m : Int)))) ∧ Below w.heap.size w w' := by
  have H1 := Lib.hid h1
  have H0 := Lib.hid h0
  clear h1
  have hne : (-(m : Int) == 0) = false := by simp; omega
  go_enter Tryd.func18, Tryd.ntmps18
  go_wp2
  go_loopw [0, 3, 5] (fun c v _ wr => ∃ (q : Nat) (ns : List Int), q ≤ m ∧ c = .int .i64 (-(q : Int)) ∧ v = .string (strOfNums ns) ∧ Digs m q ns ∧ Below w.heap.size w wr) (fun c _ _ _ => (- intOf c).toNat)
  case atStart => exact ⟨m, [], Nat.le_refl _, rfl, rfl, Digs.start m H0.out, Below.refl _ _⟩
  case round =>
    obtain ⟨q, ns, hq, rfl, rfl, hd, hb⟩ := hrel
    have hbs := hb.size
    have HB := Lib.hid hb
    have hl := hd.len H1.out
    have hqm : (q : Int) ≤ 9223372036854775808 := by have := H1.out; omega
    clear hb hne
    rcases Nat.eq_zero_or_pos q with rfl | hpos
    · have HD := Lib.hid (hd.1 rfl)
      clear hd
      have hadd : ∀ W : World, (Op.stringOp .add (ByteArray.mk #[45]) (strOfNums ns)).run Tryd.prog W = .ok (.string (strOfNums (45 :: ns))) W := fun W => add_nums (P := Tryd.prog) W [45] ns (by simp; omega)
      go_wp2
      go_ret
      exact ⟨ret_str (by rw [HD.out, fmtS_neg m H0.out]), HB.out⟩
    · have HD := Lib.hid (hd.next hpos)
      clear hd
      have hq0 : (-(q : Int) != 0) = true := by simp; omega
      have htd : (-(q : Int)).tdiv 10 = -((q : Int) / 10) := by rw [Int.neg_tdiv, Int.tdiv_eq_ediv_of_nonneg (by omega)]
      have hc1 := fun (x : Int) => conv_one (P := Tryd.prog) wr 53 9 5 x Tryd.underlying53 Tryd.underlying5 Tryd.underlying9
      by_cases hz : (q : Int) % 10 = 0
      · have htm : (-(q : Int)).tmod 10 = 0 := by rw [Int.neg_tmod, Int.tmod_eq_emod_of_nonneg (by omega), hz]; rfl
        have hd2 := HD.out
        rw [hz] at hd2
        have HD2 := Lib.hid hd2
        have hadd := fun (W : World) => add_nums (P := Tryd.prog) W [48] ns (by simp; omega)
        clear hz hd2
        go_wp2
        go_roundw
        case rel => exact ⟨q / 10, _, by omega, by go_num, rfl, HD2.out, HB.out.trans ((Below.refl _ _).alloc (Nat.le_refl _) _ |>.mono hbs)⟩
        case measure => simp [intOf]; omega
      · have htm : (-(q : Int)).tmod 10 = -((q : Int) % 10) := by rw [Int.neg_tmod, Int.tmod_eq_emod_of_nonneg (by omega)]
        have hadd := fun (W : World) => add_nums (P := Tryd.prog) W [48 + (q : Int) % 10] ns (by simp; omega)
        have hz1 : -((q : Int) % 10) < 0 := by omega
        go_wp2
        go_roundw
        case rel => exact ⟨q / 10, _, by omega, by go_num, rfl, HD.out, HB.out.trans ((Below.refl _ _).alloc (Nat.le_refl _) _ |>.mono hbs)⟩
        case measure => simp [intOf]; omega

theorem specFmt (n : Int) (w : World) (h0 : -9223372036854775808 ≤ n) (h1 : n ≤ 9223372036854775807) :
    Calls Tryd.prog 18 #[.int .i64 n] w fun e w' => e = .returned (.string (fmtS n)) ∧ Below w.heap.size w w' := by
  rcases Int.lt_trichotomy n 0 with h | rfl | h
  · obtain ⟨m, hm⟩ : ∃ m : Nat, -n = (m : Int) := Int.eq_ofNat_of_zero_le (by omega)
    obtain rfl : n = -(m : Int) := by omega
    exact specFmt_neg m w (by omega) (by omega)
  · exact specFmt_zero w
  · obtain ⟨m, rfl⟩ := Int.eq_ofNat_of_zero_le (show 0 ≤ n by omega)
    exact specFmt_pos m w (by omega) (by omega)
end Go.Proofs.YtehendofgcebcaaDoor
