/- What spec.FormatSets answers: the lists in braces. -/
import Derived.Test.YtggibhhdnlifcaaDoorStepF
import Derived.Test.YtggibhhdnlifcaaDoorFStepS
import Derived.Test.YtggibhhdnlifcaaDoorToRows
namespace Go.Proofs.YtggibhhdnlifcaaDoor
open Go.RowKit

/-- The number k of a row in words. -/
def nmF (zs : List Int) (k : Nat) : ByteArray := fmtS (zs.getD k 0)
/-- A list in braces. -/
def setS (zs : List Int) : ByteArray := ((⟨#[123]⟩ : ByteArray) ++ accS ⟨#[44]⟩ (nmF zs) zs.length) ++ ⟨#[125]⟩
/-- The list k in braces. -/
def seF (rs : List (List Int)) (k : Nat) : ByteArray := setS (rs.getD k [])
/-- The lists in braces. -/
def fmtSets (rs : List (List Int)) : ByteArray := if rs = [] then ⟨#[110, 111, 110, 101]⟩ else accS ⟨#[32]⟩ (seF rs) rs.length
theorem fmtSets_no {rs : List (List Int)} (h : rs.length = 0) : fmtSets rs = ⟨#[110, 111, 110, 101]⟩ := by
  unfold fmtSets
  rw [if_pos (List.eq_nil_of_length_eq_zero h)]
theorem fmtSets_yes {rs : List (List Int)} (h : 0 < rs.length) : fmtSets rs = accS ⟨#[32]⟩ (seF rs) rs.length := by
  unfold fmtSets
  rw [if_neg (by intro e; subst e; simp at h)]
/-- All numbers of a row are numbers of the machine. -/
def R64Z (zs : List Int) : Prop := ∀ k, k < zs.length → R64 (zs.getD k 0)
theorem r64Z {zs : List Int} (h : WfZ zs) : R64Z zs := fun k hk => by
  have := h _ (List.getElem_mem hk)
  rw [show zs.getD k 0 = zs[k] by simp [List.getD, List.getElem?_eq_getElem hk]]
  exact r64 this
theorem row_size {zs : List Int} (h : R64Z zs) (n : Nat) (hn : n ≤ zs.length) : (accS ⟨#[44]⟩ (nmF zs) n).size ≤ n * 22 :=
  acc_size ⟨#[44]⟩ (nmF zs) 21 n fun k hk => fmt_size (h k (by omega))
theorem setS_size {zs : List Int} (h : R64Z zs) : 1 ≤ (setS zs).size ∧ (setS zs).size ≤ zs.length * 22 + 2 := by
  have h1 := row_size h zs.length (Nat.le_refl _)
  have k1 : (⟨#[123]⟩ : ByteArray).size = 1 := rfl
  have k2 : (⟨#[125]⟩ : ByteArray).size = 1 := rfl
  unfold setS
  rw [ByteArray.size_append, ByteArray.size_append]
  omega
/-- The first n lists take so many bytes at most. -/
theorem sets_size {rs : List (List Int)} (h : ∀ k, k < rs.length → R64Z (rs.getD k [])) (n : Nat) (hn : n ≤ rs.length) : (accS ⟨#[32]⟩ (seF rs) n).size ≤ totD rs n * 22 + n * 3 := by
  induction n with
  | zero => exact Nat.zero_le _
  | succ n ih =>
    have h1 := ih (by omega)
    have h2 := (setS_size (h n (by omega))).2
    have h3 : (⟨#[32]⟩ : ByteArray).size = 1 := rfl
    have h4 : seF rs n = setS (rs.getD n []) := rfl
    rw [accS, ByteArray.size_append, totD, h4]
    have : (if 0 < n then accS ⟨#[32]⟩ (seF rs) n ++ (⟨#[32]⟩ : ByteArray) else accS ⟨#[32]⟩ (seF rs) n).size ≤ (accS ⟨#[32]⟩ (seF rs) n).size + 1 := by
      split
      · rw [ByteArray.size_append, h3]; omega
      · omega
    omega

set_option maxHeartbeats 8000000 in
set_option maxRecDepth 100000 in
theorem specFSets (rs : List (List Int)) (A : Option Addr) (cap lo hi : Nat) (w : World) (hl : RowsD w lo hi A rs) (hr : ∀ k, k < rs.length → R64Z (rs.getD k [])) (hn : rs.length + totD rs rs.length ≤ 1048576) :
    Calls Tryd.prog 11 #[.slice A rs.length cap] w fun e w' => e = .returned (.string (fmtSets rs)) ∧ Below w.heap.size w w' := by
  have HL := Lib.hid hl
  have HR := Lib.hid hr
  have HSZ := Lib.hid (fun (n : Nat) (h : n ≤ rs.length) => sets_size hr n h)
  clear hl hr
  go_enter Tryd.func11, Tryd.ntmps11
  go_wp2_with fail
  go_loopw [3, 4] (fun s i wr => ∃ k : Nat, k ≤ rs.length ∧ s = .string (accS ⟨#[32]⟩ (seF rs) k) ∧ i = .int .i64 k ∧ Below w.heap.size w wr) (fun _ i _ => rs.length - (intOf i).toNat)
  case atStart => exact ⟨0, by omega, rfl, rfl, Below.refl _ _⟩
  case round =>
    obtain ⟨k, hk, rfl, rfl, hb⟩ := hrel
    have HB := Lib.hid hb
    have HQ := Lib.hid (HL.out.below hb)
    clear hb
    by_cases hlt : k < rs.length
    · have hi0 : (k : Int) < (rs.length : Int) := by omega
      have hsz := HSZ.out k hk
      have htl := totD_le rs (j := k + 1) (n := rs.length) (by omega)
      have hts : totD rs (k + 1) = totD rs k + (rs.getD k []).length := rfl
      have hzz := HR.out k hlt
      obtain ⟨b, off, rfl, _, _, hcell⟩ := HQ.out.2 (by omega)
      obtain ⟨A1, c1, hc, hi1⟩ := hcell k hlt
      have hsep := @acc_sep (seF rs) ⟨#[32]⟩ k
      have hsta := @acc_start (seF rs) ⟨#[32]⟩ k
      have hst : seF rs k = setS (rs.getD k []) := rfl
      rw [hst] at hsep hsta
      obtain ⟨sa, hsa⟩ : ∃ s, accS ⟨#[32]⟩ (seF rs) k = s := ⟨_, rfl⟩
      rw [hsa] at hsep hsta hsz ⊢
      obtain ⟨zs, hzs⟩ : ∃ zs, rs.getD k [] = zs := ⟨_, rfl⟩
      rw [hzs] at hc hi1 hzz hsep hsta hts
      have HZ := Lib.hid hzz
      have HI1 := Lib.hid hi1
      have HRS := Lib.hid (fun (n : Nat) (h : n ≤ zs.length) => row_size hzz n h)
      have hzl : zs.length ≤ 1048576 := by omega
      clear hcell hst hsa hzs hzz hi1
      have hcW := HB.out.size
      have HC := Lib.hid hc
      have y1 : (⟨#[32]⟩ : ByteArray).size = 1 := rfl
      have y2 : (⟨#[123]⟩ : ByteArray).size = 1 := rfl
      have y3 : (⟨#[125]⟩ : ByteArray).size = 1 := rfl
      have y4 : (⟨#[44]⟩ : ByteArray).size = 1 := rfl
      obtain ⟨s0, hs0, hz0, hnx⟩ : ∃ s0 : ByteArray, s0 = (if 0 < k then sa ++ ⟨#[32]⟩ else sa) ∧ s0.size ≤ sa.size + 1 ∧ accS ⟨#[32]⟩ (seF rs) (k + 1) = s0 ++ setS zs := by
        refine ⟨_, rfl, ?_, ?_⟩
        · split
          · rw [ByteArray.size_append]; omega
          · omega
        · by_cases h0 : 0 < k
          · rw [if_pos h0]; exact hsep h0
          · rw [if_neg h0]; exact hsta h0
      have HNX := Lib.hid hnx
      clear hsep hsta hnx
      obtain ⟨s1, hs1⟩ : ∃ s, s = s0 ++ (⟨#[123]⟩ : ByteArray) := ⟨_, rfl⟩
      have hz1 : s1.size = s0.size + 1 := by rw [hs1, ByteArray.size_append]; rfl
      have ha1 : ∀ W : World, (Op.stringOp .add s0 (ByteArray.mk #[123])).run Tryd.prog W = .ok (.string s1) W := fun W => by rw [hs1]; exact run_string_add_sum W _ _ (by omega)
      have ha0 : 0 < k → ∀ W : World, (Op.stringOp .add sa (ByteArray.mk #[32])).run Tryd.prog W = .ok (.string s0) W := fun h0 W => by
        rw [hs0, if_pos h0]
        exact run_string_add_sum W _ _ (by omega)
      have hS1 := Lib.hid hs1
      have HA0 := Lib.hid ha0
      have HS0 := Lib.hid hs0
      have HSZ1 := Lib.hid (show s1.size ≤ totD rs k * 22 + k * 3 + 2 by omega)
      clear ha0 hs0 hs1
      by_cases h0 : 0 < k
      · have hk0 : (0 : Int) < (k : Int) := by omega
        have ha0 := HA0.out h0
        clear hz0 hz1 hsz y1 y2 y3 y4
        go_wp2_with fail
        clear ha0 ha1
        generalize wr = wo at *
        have HBLT := Lib.hid (show b < wo.heap.size from World.block_lt_of_cell? wo _ HC.out)
        go_loopw [3, 5] (fun s i wq => ∃ j : Nat, j ≤ zs.length ∧ i = .int .i64 j ∧ s = .string (s1 ++ accS ⟨#[44]⟩ (nmF zs) j) ∧ Below wo.heap.size wo wq) (fun _ i _ => zs.length - (intOf i).toNat)
        case atStart => exact ⟨0, by omega, rfl, by rw [show accS ⟨#[44]⟩ (nmF zs) 0 = ⟨#[]⟩ from rfl, show s1 ++ (⟨#[]⟩ : ByteArray) = s1 from bytes_eq (by simp)], Below.refl _ _⟩
        case round =>
          obtain ⟨j, hj, rfl, rfl, hb⟩ := hrel
          have HBI := Lib.hid hb
          have hcI := (hb.cell (p := ⟨b, off + k, none⟩) HBLT.out).trans HC.out
          have HII := Lib.hid (HI1.out.below hb)
          have hrz := HRS.out j hj
          have hs9 := HSZ1.out
          have htk : totD rs k ≤ 1048576 := by omega
          clear hb
          by_cases hjl : j < zs.length
          · have hij : (j : Int) < (zs.length : Int) := by omega
            obtain ⟨bz, oz, rfl, _, _, hcz⟩ := HII.out.2 (by omega)
            have hcj := hcz j hjl
            have hrj := HZ.out j hjl
            have hsp := @acc_sep (nmF zs) ⟨#[44]⟩ j
            have hsn := @acc_start (nmF zs) ⟨#[44]⟩ j
            have hnf : nmF zs j = fmtS (zs.getD j 0) := rfl
            rw [hnf] at hsp hsn
            obtain ⟨x, hx⟩ : ∃ x, zs.getD j 0 = x := ⟨_, rfl⟩
            rw [hx] at hcj hrj hsp hsn
            have hfx := fmt_size hrj
            have HRJ := Lib.hid hrj
            obtain ⟨sr, hsr⟩ : ∃ s, accS ⟨#[44]⟩ (nmF zs) j = s := ⟨_, rfl⟩
            rw [hsr] at hsp hsn hrz ⊢
            obtain ⟨st, hst⟩ : ∃ s, s = s1 ++ sr := ⟨_, rfl⟩
            have hzt : st.size = s1.size + sr.size := by rw [hst, ByteArray.size_append]
            have HST := Lib.hid hst
            rw [← hst]
            clear hcz hnf hx hsr hst hrj
            by_cases hj0 : 0 < j
            · have hji : (0 : Int) < (j : Int) := by omega
              obtain ⟨s2, hs2⟩ : ∃ s, s = st ++ (⟨#[44]⟩ : ByteArray) := ⟨_, rfl⟩
              have hz2 : s2.size = st.size + 1 := by rw [hs2, ByteArray.size_append]; rfl
              have ha2 : ∀ W : World, (Op.stringOp .add st (ByteArray.mk #[44])).run Tryd.prog W = .ok (.string s2) W := fun W => by rw [hs2]; exact run_string_add_sum W _ _ (by have : (⟨#[44]⟩ : ByteArray).size = 1 := rfl; omega)
              obtain ⟨s3, hs3⟩ : ∃ s, s = s2 ++ fmtS x := ⟨_, rfl⟩
              have ha3 : ∀ W : World, (Op.stringOp .add s2 (fmtS x)).run Tryd.prog W = .ok (.string s3) W := fun W => by rw [hs3]; exact run_string_add_sum W _ _ (by omega)
              have HANS := Lib.hid (show s1 ++ accS ⟨#[44]⟩ (nmF zs) (j + 1) = s3 by rw [hsp hj0, hs3, hs2, HST.out]; simp only [ByteArray.append_assoc])
              clear hsp hsn hs2 hs3 hz2 hzt hfx hrz hs9 htk
              go_wp2_with fail
              refine (specFmt x _ HRJ.out.1 HRJ.out.2).mono ?_
              rintro e w6 ⟨rfl, hb6⟩
              have HB6 := Lib.hid (belowB HBI.out hb6 HBI.out.size)
              clear hb6
              go_wp2_with fail
              go_roundw
              case rel => exact ⟨j + 1, by omega, by go_num, by rw [HANS.out], HB6.out⟩
              case measure => simp [intOf]; omega
            · have hji : ¬ (0 : Int) < (j : Int) := by omega
              obtain ⟨s3, hs3⟩ : ∃ s, s = st ++ fmtS x := ⟨_, rfl⟩
              have ha3 : ∀ W : World, (Op.stringOp .add st (fmtS x)).run Tryd.prog W = .ok (.string s3) W := fun W => by rw [hs3]; exact run_string_add_sum W _ _ (by omega)
              have HANS := Lib.hid (show s1 ++ accS ⟨#[44]⟩ (nmF zs) (j + 1) = s3 by rw [hsn hj0, hs3, HST.out]; simp only [ByteArray.append_assoc])
              clear hsp hsn hs3 hzt hfx hrz hs9 htk
              go_wp2_with fail
              refine (specFmt x _ HRJ.out.1 HRJ.out.2).mono ?_
              rintro e w6 ⟨rfl, hb6⟩
              have HB6 := Lib.hid (belowB HBI.out hb6 HBI.out.size)
              clear hb6
              go_wp2_with fail
              go_roundw
              case rel => exact ⟨j + 1, by omega, by go_num, by rw [HANS.out], HB6.out⟩
              case measure => simp [intOf]; omega
          · obtain rfl : j = zs.length := by omega
            obtain ⟨st, hst⟩ : ∃ s, s = s1 ++ accS ⟨#[44]⟩ (nmF zs) zs.length := ⟨_, rfl⟩
            have hzt : st.size = s1.size + (accS ⟨#[44]⟩ (nmF zs) zs.length).size := by rw [hst, ByteArray.size_append]
            rw [← hst]
            obtain ⟨s3, hs3⟩ : ∃ s, s = st ++ (⟨#[125]⟩ : ByteArray) := ⟨_, rfl⟩
            have ha3 : ∀ W : World, (Op.stringOp .add st (ByteArray.mk #[125])).run Tryd.prog W = .ok (.string s3) W := fun W => by rw [hs3]; exact run_string_add_sum W _ _ (by have : (⟨#[125]⟩ : ByteArray).size = 1 := rfl; omega)
            have HANS := Lib.hid (show accS ⟨#[32]⟩ (seF rs) (k + 1) = s3 by rw [HNX.out, hs3, hst, hS1.out, setS]; simp only [ByteArray.append_assoc])
            clear hst hs3 hzt hrz hs9 htk
            go_wp2_with fail
            go_roundw
            case rel => exact ⟨k + 1, by omega, by rw [HANS.out], by go_num, belowB HB.out HBI.out HB.out.size⟩
            case measure => simp [intOf]; omega
      · have hk0 : ¬ (0 : Int) < (k : Int) := by omega
        have e0 : s0 = sa := by rw [HS0.out, if_neg h0]
        subst e0
        clear hz0 hz1 hsz y1 y2 y3 y4
        go_wp2_with fail
        clear ha1
        generalize wr = wo at *
        have HBLT := Lib.hid (show b < wo.heap.size from World.block_lt_of_cell? wo _ HC.out)
        go_loopw [3, 5] (fun s i wq => ∃ j : Nat, j ≤ zs.length ∧ i = .int .i64 j ∧ s = .string (s1 ++ accS ⟨#[44]⟩ (nmF zs) j) ∧ Below wo.heap.size wo wq) (fun _ i _ => zs.length - (intOf i).toNat)
        case atStart => exact ⟨0, by omega, rfl, by rw [show accS ⟨#[44]⟩ (nmF zs) 0 = ⟨#[]⟩ from rfl, show s1 ++ (⟨#[]⟩ : ByteArray) = s1 from bytes_eq (by simp)], Below.refl _ _⟩
        case round =>
          obtain ⟨j, hj, rfl, rfl, hb⟩ := hrel
          have HBI := Lib.hid hb
          have hcI := (hb.cell (p := ⟨b, off + k, none⟩) HBLT.out).trans HC.out
          have HII := Lib.hid (HI1.out.below hb)
          have hrz := HRS.out j hj
          have hs9 := HSZ1.out
          have htk : totD rs k ≤ 1048576 := by omega
          clear hb
          by_cases hjl : j < zs.length
          · have hij : (j : Int) < (zs.length : Int) := by omega
            obtain ⟨bz, oz, rfl, _, _, hcz⟩ := HII.out.2 (by omega)
            have hcj := hcz j hjl
            have hrj := HZ.out j hjl
            have hsp := @acc_sep (nmF zs) ⟨#[44]⟩ j
            have hsn := @acc_start (nmF zs) ⟨#[44]⟩ j
            have hnf : nmF zs j = fmtS (zs.getD j 0) := rfl
            rw [hnf] at hsp hsn
            obtain ⟨x, hx⟩ : ∃ x, zs.getD j 0 = x := ⟨_, rfl⟩
            rw [hx] at hcj hrj hsp hsn
            have hfx := fmt_size hrj
            have HRJ := Lib.hid hrj
            obtain ⟨sr, hsr⟩ : ∃ s, accS ⟨#[44]⟩ (nmF zs) j = s := ⟨_, rfl⟩
            rw [hsr] at hsp hsn hrz ⊢
            obtain ⟨st, hst⟩ : ∃ s, s = s1 ++ sr := ⟨_, rfl⟩
            have hzt : st.size = s1.size + sr.size := by rw [hst, ByteArray.size_append]
            have HST := Lib.hid hst
            rw [← hst]
            clear hcz hnf hx hsr hst hrj
            by_cases hj0 : 0 < j
            · have hji : (0 : Int) < (j : Int) := by omega
              obtain ⟨s2, hs2⟩ : ∃ s, s = st ++ (⟨#[44]⟩ : ByteArray) := ⟨_, rfl⟩
              have hz2 : s2.size = st.size + 1 := by rw [hs2, ByteArray.size_append]; rfl
              have ha2 : ∀ W : World, (Op.stringOp .add st (ByteArray.mk #[44])).run Tryd.prog W = .ok (.string s2) W := fun W => by rw [hs2]; exact run_string_add_sum W _ _ (by have : (⟨#[44]⟩ : ByteArray).size = 1 := rfl; omega)
              obtain ⟨s3, hs3⟩ : ∃ s, s = s2 ++ fmtS x := ⟨_, rfl⟩
              have ha3 : ∀ W : World, (Op.stringOp .add s2 (fmtS x)).run Tryd.prog W = .ok (.string s3) W := fun W => by rw [hs3]; exact run_string_add_sum W _ _ (by omega)
              have HANS := Lib.hid (show s1 ++ accS ⟨#[44]⟩ (nmF zs) (j + 1) = s3 by rw [hsp hj0, hs3, hs2, HST.out]; simp only [ByteArray.append_assoc])
              clear hsp hsn hs2 hs3 hz2 hzt hfx hrz hs9 htk
              go_wp2_with fail
              refine (specFmt x _ HRJ.out.1 HRJ.out.2).mono ?_
              rintro e w6 ⟨rfl, hb6⟩
              have HB6 := Lib.hid (belowB HBI.out hb6 HBI.out.size)
              clear hb6
              go_wp2_with fail
              go_roundw
              case rel => exact ⟨j + 1, by omega, by go_num, by rw [HANS.out], HB6.out⟩
              case measure => simp [intOf]; omega
            · have hji : ¬ (0 : Int) < (j : Int) := by omega
              obtain ⟨s3, hs3⟩ : ∃ s, s = st ++ fmtS x := ⟨_, rfl⟩
              have ha3 : ∀ W : World, (Op.stringOp .add st (fmtS x)).run Tryd.prog W = .ok (.string s3) W := fun W => by rw [hs3]; exact run_string_add_sum W _ _ (by omega)
              have HANS := Lib.hid (show s1 ++ accS ⟨#[44]⟩ (nmF zs) (j + 1) = s3 by rw [hsn hj0, hs3, HST.out]; simp only [ByteArray.append_assoc])
              clear hsp hsn hs3 hzt hfx hrz hs9 htk
              go_wp2_with fail
              refine (specFmt x _ HRJ.out.1 HRJ.out.2).mono ?_
              rintro e w6 ⟨rfl, hb6⟩
              have HB6 := Lib.hid (belowB HBI.out hb6 HBI.out.size)
              clear hb6
              go_wp2_with fail
              go_roundw
              case rel => exact ⟨j + 1, by omega, by go_num, by rw [HANS.out], HB6.out⟩
              case measure => simp [intOf]; omega
          · obtain rfl : j = zs.length := by omega
            obtain ⟨st, hst⟩ : ∃ s, s = s1 ++ accS ⟨#[44]⟩ (nmF zs) zs.length := ⟨_, rfl⟩
            have hzt : st.size = s1.size + (accS ⟨#[44]⟩ (nmF zs) zs.length).size := by rw [hst, ByteArray.size_append]
            rw [← hst]
            obtain ⟨s3, hs3⟩ : ∃ s, s = st ++ (⟨#[125]⟩ : ByteArray) := ⟨_, rfl⟩
            have ha3 : ∀ W : World, (Op.stringOp .add st (ByteArray.mk #[125])).run Tryd.prog W = .ok (.string s3) W := fun W => by rw [hs3]; exact run_string_add_sum W _ _ (by have : (⟨#[125]⟩ : ByteArray).size = 1 := rfl; omega)
            have HANS := Lib.hid (show accS ⟨#[32]⟩ (seF rs) (k + 1) = s3 by rw [HNX.out, hs3, hst, hS1.out, setS]; simp only [ByteArray.append_assoc])
            clear hst hs3 hzt hrz hs9 htk
            go_wp2_with fail
            go_roundw
            case rel => exact ⟨k + 1, by omega, by rw [HANS.out], by go_num, belowB HB.out HBI.out HB.out.size⟩
            case measure => simp [intOf]; omega
    · obtain rfl : k = rs.length := by omega
      by_cases h0 : rs.length = 0
      · have HE := Lib.hid (fmtSets_no h0)
        rw [h0]
        have he : accS ⟨#[32]⟩ (seF rs) 0 = ⟨#[]⟩ := rfl
        rw [he]
        go_wp2_with fail
        go_ret
        exact ⟨by rw [HE.out] <;> rfl, HB.out⟩
      · have HE := Lib.hid (fmtSets_yes (rs := rs) (by omega))
        have h1 := acc_one (f := seF rs) (sep := ⟨#[32]⟩) rs.length (by omega) fun k hk => (setS_size (HR.out k hk)).1
        obtain ⟨sa, hsa⟩ : ∃ s, accS ⟨#[32]⟩ (seF rs) rs.length = s := ⟨_, rfl⟩
        rw [hsa] at HE h1 ⊢
        have hne := txt_ne h1
        clear hsa h1
        go_wp2_with fail
        go_ret
        exact ⟨by rw [HE.out] <;> rfl, HB.out⟩
end Go.Proofs.YtggibhhdnlifcaaDoor
