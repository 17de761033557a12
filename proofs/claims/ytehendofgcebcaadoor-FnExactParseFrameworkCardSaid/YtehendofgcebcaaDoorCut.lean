/- What spec.l2Cut answers: a text's parts between the marks, in a row of the call's own. No condition but the text's size. -/
import Derived.Test.YtehendofgcebcaaDoorFmtM
import Derived.Test.YtehendofgcebcaaDoorStrs
namespace Go.Proofs.YtehendofgcebcaaDoor
open Go.RowKit

/-- The parts that are closed and the part that is open, behind i bytes. -/
def cutSt (s : ByteArray) (c : Int) : Nat → List ByteArray × ByteArray
  | 0 => ([], ⟨#[]⟩)
  | i + 1 => if byteAt s i = c then ((cutSt s c i).1 ++ [(cutSt s c i).2], ⟨#[]⟩) else ((cutSt s c i).1, (cutSt s c i).2 ++ s.extract i (i + 1))
/-- A text's parts. -/
def cutB (s : ByteArray) (c : Int) : List ByteArray := (cutSt s c s.size).1 ++ [(cutSt s c s.size).2]
theorem cutSt_le (s : ByteArray) (c : Int) : ∀ i, i ≤ s.size → (cutSt s c i).1.length ≤ i ∧ (cutSt s c i).2.size ≤ i
  | 0, _ => ⟨by simp [cutSt], by simp [cutSt, ByteArray.size]⟩
  | i + 1, h => by
    have h1 := cutSt_le s c i (by omega)
    unfold cutSt
    split
    · exact ⟨by simp; omega, by simp [ByteArray.size]⟩
    · have h2 : (s.extract i (i + 1)).size = 1 := by simp; omega
      exact ⟨by simp only; omega, by simp only [size_app]; omega⟩
theorem cutB_len (s : ByteArray) (c : Int) : (cutB s c).length ≤ s.size + 1 := by
  have := (cutSt_le s c s.size (Nat.le_refl _)).1
  unfold cutB
  simp
  omega
set_option maxHeartbeats 2000000 in
set_option maxRecDepth 100000 in
theorem cut_c (s : ByteArray) (c : Int) (w : World) (hs : s.size ≤ 1048576) :
    Calls Tryd.prog 29 #[.string s, .int .u8 c] w fun e w' => ∃ A cap, e = .returned (.slice A (cutB s c).length cap) ∧ OwnStrs w' w.heap.size (.slice A (cutB s c).length cap) (cutB s c) ∧ Below w.heap.size w w' := by
  have ho := World.ownsRow_made (base := w.heap.size) (e := 9) (size := 1) w #[] 0 (by simp) (by unfold maxLen; omega) (by simp)
  have hA := new_below w (.cells #[] 9)
  have HG := Lib.hid (show OwnStrs (w.alloc (.cells #[] 9)) w.heap.size (.slice (some ⟨w.heap.size, 0, none⟩) 0 0) (cutSt s c 0).1 ∧ Below w.heap.size w (w.alloc (.cells #[] 9)) from ⟨ho, hA⟩)
  clear ho hA
  go_enter Tryd.func29, Tryd.ntmps29
  go_wp2_with fail
  generalize (w.alloc (.cells #[] 9)) = w1 at *
  go_loopw [5, 6, 7] (fun o t i wr => ∃ k : Nat, k ≤ s.size ∧ i = .int .i64 k ∧ t = .string (cutSt s c k).2 ∧ OwnStrs wr w.heap.size o (cutSt s c k).1 ∧ Below w.heap.size w wr) (fun _ _ i _ => s.size - (intOf i).toNat)
  case atStart => exact ⟨0, by omega, rfl, rfl, HG.out⟩
  case round =>
    obtain ⟨k, hk, rfl, rfl, hst, hb⟩ := hrel
    have hln := cutSt_le s c k hk
    have hbs := hb.size
    obtain ⟨A, cap, rfl⟩ := strs_shape hst
    have HS := Lib.hid hst
    have HB := Lib.hid hb
    clear hst hb
    by_cases hlt : k < s.size
    · have hik : (k : Int) < (s.size : Int) := by omega
      have he := byteAt_eq s k hlt
      by_cases hc : byteAt s k = c
      · have E := Lib.hid (show cutSt s c (k + 1) = ((cutSt s c k).1 ++ [(cutSt s c k).2], ⟨#[]⟩) by rw [cutSt, if_pos hc])
        rw [he] at hc
        have hc' : ((s[k].toNat : Int) == c) = true := by simpa using hc
        obtain ⟨⟨ps, t⟩, hpt⟩ : ∃ z, cutSt s c k = z := ⟨_, rfl⟩
        rw [hpt] at HS E hln ⊢
        simp only at HS E hln ⊢
        clear he hc hpt
        have hown : wr.ownsRow w.heap.size 9 1 (.slice A ps.length cap) ps.length (strVals ps) := HS.out
        go_wp2_with (at_builtin; refine wpList_push _ rfl _ _ 64 rfl w.heap.size 9 (.string ⟨#[]⟩) 16 Tryd.underlying64 infoStr rfl _ _ _ rfl hown (.string t) rfl _ rfl (by omega) (by unfold maxLen; omega) hbs ?_; intro v' w' ho hb2; obtain ⟨A2, c2, rfl⟩ := strs_shape (OwnStrs.put ho); have HY := Lib.hid (OwnStrs.put ho); have HBY := Lib.hid (HB.out.trans hb2); clear ho hb2)
        go_roundw
        case rel => exact ⟨k + 1, by omega, by go_num, by rw [E.out], by have h := HY.out; rw [List.length_append] at h; rw [E.out]; exact h, HBY.out⟩
        case measure => simp [intOf]; omega
      · have E := Lib.hid (show cutSt s c (k + 1) = ((cutSt s c k).1, (cutSt s c k).2 ++ s.extract k (k + 1)) by rw [cutSt, if_neg hc])
        rw [he] at hc
        have hc' : ((s[k].toNat : Int) == c) = false := by simpa using hc
        obtain ⟨⟨ps, t⟩, hpt⟩ : ∃ z, cutSt s c k = z := ⟨_, rfl⟩
        rw [hpt] at HS E hln ⊢
        simp only at HS E hln ⊢
        have h1 : (s.extract k (k + 1)).size = 1 := by simp; omega
        have ha : ∀ W : World, (Op.stringOp .add t (s.extract k (k + 1))).run Tryd.prog W = .ok (.string (t ++ s.extract k (k + 1))) W := fun W => run_string_add_sum W _ _ (by omega)
        have hsl : ∀ W : World, (Instr.slice 9 (.string s) (some (.int .i64 (k : Int))) (some (.int .i64 ((k : Int) + 1))) none).run Tryd.prog W = .ok (.string (s.extract k (k + 1))) W := fun W => by
          have h := run_slice_string (P := Tryd.prog) W 9 s .i64 .i64 (k : Int) ((k : Int) + 1) Tryd.underlying9 (by omega) (by omega) (by omega)
          rw [show ((k : Int) + 1).toNat = k + 1 by omega, Int.toNat_natCast] at h
          exact h
        generalize s.extract k (k + 1) = sx at *
        clear he hc hpt h1
        go_wp2_with fail
        go_roundw
        case rel => exact ⟨k + 1, by omega, by go_num, by rw [E.out], by rw [E.out]; exact HS.out, HB.out⟩
        case measure => simp [intOf]; omega
    · obtain rfl : k = s.size := by omega
      have hcb : cutB s c = (cutSt s c s.size).1 ++ [(cutSt s c s.size).2] := rfl
      have HCB := Lib.hid hcb
      clear hcb
      obtain ⟨⟨ps, t⟩, hpt⟩ : ∃ z, cutSt s c s.size = z := ⟨_, rfl⟩
      rw [hpt] at HS HCB hln ⊢
      simp only at HS HCB hln ⊢
      clear hpt
      have hown : wr.ownsRow w.heap.size 9 1 (.slice A ps.length cap) ps.length (strVals ps) := HS.out
      go_wp2_with (at_builtin; refine wpList_push _ rfl _ _ 64 rfl w.heap.size 9 (.string ⟨#[]⟩) 16 Tryd.underlying64 infoStr rfl _ _ _ rfl hown (.string t) rfl _ rfl (by omega) (by unfold maxLen; omega) hbs ?_; intro v' w' ho hb2; obtain ⟨A2, c2, rfl⟩ := strs_shape (OwnStrs.put ho); have HY := Lib.hid (OwnStrs.put ho); have HBY := Lib.hid (HB.out.trans hb2); clear ho hb2)
      go_ret
      rw [HCB.out]
      exact ⟨A2, c2, by rw [List.length_append]; rfl, HY.out, HBY.out⟩
end Go.Proofs.YtehendofgcebcaaDoor
