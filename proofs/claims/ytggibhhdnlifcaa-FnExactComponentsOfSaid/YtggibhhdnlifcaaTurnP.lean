/- What impl.turnPath does: a path is turned round in the row of tails. No condition. -/
import Derived.Test.YtggibhhdnlifcaaShiftM
namespace Go.Proofs.Ytggibhhdnlifcaa
open Go.RowKit

set_option maxHeartbeats 2000000 in
set_option maxRecDepth 100000 in
theorem turnPath_c (P : Nat) (E : List (Int × Int)) (F T Z TF : List Int) (a u : Int) (q : List (Int × Nat)) (rb B gF cF gT cT cZ z1 z2 : Nat) (AZ : Option Addr) (w : World) (hst : St3 w B gF cF gT cT AZ cZ z1 z2 F T Z) (hn : TurnI P E T a q TF u T) (hP : P ≤ 8)
    (hrb : ∀ x ∈ q, x.1 ≠ a → w.cell? ⟨rb, x.1.toNat, none⟩ = some (.pointer (some ⟨gT, x.2, none⟩))) (hne : rb ≠ gT) (hlt : rb < w.heap.size) :
    Calls Try.prog 203 #[.pointer (some ⟨rb, 0, none⟩), .int .i64 a, .int .i64 u] w fun e w' => e = .returned (.tuple #[]) ∧ St3 w' B gF cF gT cT AZ cZ z1 z2 F TF Z ∧ Within gT (gT + 1) w w' := by
  have HST := Lib.hid hst
  have HN := Lib.hid hn
  have HRB := Lib.hid hrb
  clear hst hn hrb
  go_enter Try.func203, Try.ntmps203
  go_wp2_with fail
  go_loopw [6] (fun v wr => ∃ (t : Int) (T' : List Int), v = .int .i64 t ∧ TurnI P E T a q TF t T' ∧ St3 wr B gF cF gT cT AZ cZ z1 z2 F T' Z ∧ Within gT (gT + 1) w wr) (fun v _ => posQ q (intOf v))
  case atStart => exact ⟨u, T, rfl, HN.out, HST.out, Within.refl _ _ _⟩
  case round =>
    obtain ⟨t, T', rfl, ht, hs, hw⟩ := hrel
    have HW := Lib.hid hw
    have HS := Lib.hid hs
    clear hs hw
    by_cases c : t = a
    · subst c
      obtain rfl := ht.done
      clear ht
      have e1 : (t != t) = false := by simp
      go_wp2_with fail
      go_end0
      exact ⟨rfl, HS.out, HW.out⟩
    · have e1 : (t != a) = true := by simpa using c
      obtain ⟨i, hi1, hi2, hi3, hi4, _, _, hi5, hi6⟩ := ht.next c
      have HX := Lib.hid hi5
      have HM := Lib.hid hi6
      have hlen := ht.len
      obtain ⟨hc1, hf1⟩ := HS.out.cellT i (by omega)
      have hr := (World.cell?_of_block (a := ⟨rb, t.toNat, none⟩) (HW.out.block rb hlt (by omega))).trans (HRB.out (t, i) hi1 c)
      have HS2 := Lib.hid (HS.out.setT i t)
      have HW2 := Lib.hid (HW.out.trans (within_set wr gT i (.int .i64 t)))
      rw [hi4] at hc1
      obtain ⟨v, hv⟩ : ∃ v, oth (E.getD i (0, 0)) t = v := ⟨_, rfl⟩
      rw [hv] at hc1 HX HM
      clear hi1 hi4 hi5 hi6 ht c hv
      obtain ⟨n, rfl⟩ : ∃ n : Nat, t = (n : Int) := ⟨t.toNat, by omega⟩
      rw [Int.toNat_natCast] at hr
      have hn8 : (n : Int) < 8 := by omega
      have hn8' : n < 8 := by omega
      go_wp2_with fail
      go_roundw
      case rel => exact ⟨v, _, rfl, HX.out, HS2.out, HW2.out⟩
      case measure => exact HM.out
end Go.Proofs.Ytggibhhdnlifcaa
