/- What spec.AddBar answers, as a row of the call's own that is not nil. No condition. -/
import Derived.Test.YtdkpmaahinbhlaaFqB1
import Derived.Test.YtdkpmaahinbhlaaFqPutW
namespace Go.Proofs.Ytdkpmaahinbhlaa
open Go.RowKit

set_option maxHeartbeats 4000000 in
set_option maxRecDepth 100000 in
theorem specAddW (p a b : Int) (l : List (Int × Int)) (A : Option Addr) (cap : Nat) (w : World) (hl : BarsAt w w.heap.size A l) (hn : l.length ≤ 1048576) (hA : ∃ a, A = some a) :
    Calls Try.prog 229 #[.agg #[.int .i64 p, .slice A l.length cap], .int .i64 a, .int .i64 b] w (GraphWB w p (addL p a b l) (addR p a b l)) := by
  obtain ⟨aa, rfl⟩ := hA
  obtain ⟨L, hRL⟩ : ∃ x, x = addL p a b l := ⟨_, rfl⟩
  obtain ⟨RR, hRR⟩ : ∃ x, x = addR p a b l := ⟨_, rfl⟩
  rw [← hRL, ← hRR]
  have HRL := Lib.hid hRL
  have HRR := Lib.hid hRR
  clear hRL hRR
  have hA1 := new_below w (.cells #[.int .i64 p, .slice (some aa) l.length cap] 26)
  have hA2 := new_below (w.alloc (.cells #[.int .i64 p, .slice (some aa) l.length cap] 26)) (.cells #[.int .i64 0, .slice none 0 0] 26)
  have hA := below_on hA1 hA2 hA1.size
  have hsz1 : (w.alloc (.cells #[.int .i64 p, .slice (some aa) l.length cap] 26)).heap.size = w.heap.size + 1 := by simp
  have BX := Lib.hid ((box_new w p (.slice (some aa) l.length cap) 26).kept hA2)
  have hR := box_new (w.alloc (.cells #[.int .i64 p, .slice (some aa) l.length cap] 26)) 0 (.slice none 0 0) 26
  have hF : ((w.alloc (.cells #[.int .i64 p, .slice (some aa) l.length cap] 26)).alloc (.cells #[.int .i64 0, .slice none 0 0] 26)).frozen? ⟨(w.alloc (.cells #[.int .i64 p, .slice (some aa) l.length cap] 26)).heap.size, 0, none⟩ = false ∧ ((w.alloc (.cells #[.int .i64 p, .slice (some aa) l.length cap] 26)).alloc (.cells #[.int .i64 0, .slice none 0 0] 26)).frozen? ⟨(w.alloc (.cells #[.int .i64 p, .slice (some aa) l.length cap] 26)).heap.size, 1, none⟩ = false := ⟨World.frozen?_alloc_at _ _ _ _ rfl, World.frozen?_alloc_at _ _ _ _ rfl⟩
  rw [hsz1] at hR hF
  have HR := Lib.hid hR
  have HF := Lib.hid hF
  have HL := Lib.hid (hl.on hA)
  have HA := Lib.hid hA
  clear hl hA1 hA2 hA hsz1 hR hF
  go_enter Try.func229, Try.ntmps229
  go_wp2_with fail
  generalize ((w.alloc (.cells #[.int .i64 p, .slice (some aa) l.length cap] 26)).alloc (.cells #[.int .i64 0, .slice none 0 0] 26)) = w1 at *
  refine (specIsGraph' p l (some aa) cap _ HL.out hn).mono ?_
  rintro e w2 ⟨rfl, hb⟩
  have HB2 := Lib.hid (below_on HA.out hb HA.out.size)
  have BX2 := Lib.hid (BX.out.kept hb)
  have HR2 := Lib.hid (HR.out.kept hb)
  have HF2 := Lib.hid (show w2.frozen? ⟨w.heap.size + 1, 0, none⟩ = false ∧ w2.frozen? ⟨w.heap.size + 1, 1, none⟩ = false from ⟨(hb.frozen (p := ⟨w.heap.size + 1, 0, none⟩) HR.out.1).trans HF.out.1, (hb.frozen (p := ⟨w.heap.size + 1, 1, none⟩) HR.out.1).trans HF.out.2⟩)
  have HL2 := Lib.hid (HL.out.on hb)
  obtain ⟨_, x0, x1⟩ := BX2.out
  clear hb
  by_cases hbad : isGB p l = false ∨ ¬ ((0 ≤ a ∧ 0 ≤ b) ∧ (a < p ∧ b < p) ∧ a ≠ b ∧ l.length < 24)
  · obtain rfl : RR = false := HRR.out.trans (add_no hbad).1
    obtain rfl : l = L := (HRL.out.trans (add_no hbad).2).symm
    have hcase : isGB p l = false ∨ (isGB p l = true ∧ a < 0) ∨ (isGB p l = true ∧ ¬ a < 0 ∧ b < 0) ∨ (isGB p l = true ∧ ¬ a < 0 ∧ ¬ b < 0 ∧ p ≤ a) ∨ (isGB p l = true ∧ ¬ a < 0 ∧ ¬ b < 0 ∧ ¬ p ≤ a ∧ p ≤ b) ∨ (isGB p l = true ∧ ¬ a < 0 ∧ ¬ b < 0 ∧ ¬ p ≤ a ∧ ¬ p ≤ b ∧ a = b) ∨ (isGB p l = true ∧ ¬ a < 0 ∧ ¬ b < 0 ∧ ¬ p ≤ a ∧ ¬ p ≤ b ∧ a ≠ b ∧ (24 : Int) ≤ (l.length : Int)) := by
      rcases hg : isGB p l with _ | _
      · exact .inl rfl
      · rcases hbad with h | h
        · rw [hg] at h; cases h
        · refine .inr ?_
          by_cases h1 : a < 0
          · exact .inl ⟨rfl, h1⟩
          by_cases h2 : b < 0
          · exact .inr (.inl ⟨rfl, h1, h2⟩)
          by_cases h3 : p ≤ a
          · exact .inr (.inr (.inl ⟨rfl, h1, h2, h3⟩))
          by_cases h4 : p ≤ b
          · exact .inr (.inr (.inr (.inl ⟨rfl, h1, h2, h3, h4⟩)))
          by_cases h5 : a = b
          · exact .inr (.inr (.inr (.inr (.inl ⟨rfl, h1, h2, h3, h4, h5⟩))))
          by_cases h6 : (24 : Int) ≤ (l.length : Int)
          · exact .inr (.inr (.inr (.inr (.inr ⟨rfl, h1, h2, h3, h4, h5, h6⟩))))
          exact absurd ⟨⟨by omega, by omega⟩, ⟨by omega, by omega⟩, h5, by omega⟩ h
    clear hbad
    rcases hcase with hg | ⟨hg, h1⟩ | ⟨hg, h1, h2⟩ | ⟨hg, h1, h2, h3⟩ | ⟨hg, h1, h2, h3, h4⟩ | ⟨hg, h1, h2, h3, h4, h5⟩ | ⟨hg, h1, h2, h3, h4, h5, h6⟩
    all_goals
      try (have h5' : (a == b) = false := by simpa using h5)
      go_wp2_with fail
      clear x0 x1
      refine (copyW p l aa cap _ HL2.out hn).mono ?_
      rintro e w3 ⟨gg, c2, rfl, ho, hb⟩
      obtain ⟨_, z0, z1⟩ := HR2.out.kept hb
      have f0 := (hb.frozen (p := ⟨w.heap.size + 1, 0, none⟩) HR2.out.1).trans HF2.out.1
      have f1 := (hb.frozen (p := ⟨w.heap.size + 1, 1, none⟩) HR2.out.1).trans HF2.out.2
      have HB3 := Lib.hid (below_on HB2.out hb HB2.out.size)
      have HO3 := Lib.hid ho
      have HLT := Lib.hid HR2.out.1
      clear hb ho
      obtain ⟨s0, s1⟩ := ret_cells (p := p) (v := .slice (some ⟨gg, 0, none⟩) l.length c2) z0 z1
      obtain ⟨r1, r2⟩ := row_retW HO3.out HB3.out (r := w.heap.size + 1) (by omega) HLT.out (.int .i64 p) (.slice (some ⟨gg, 0, none⟩) l.length c2)
      go_wp2_with fail
      refine bodyPost_ret (v := .tuple #[.agg #[.int .i64 p, .slice (some ⟨gg, 0, none⟩) l.length c2], .bool false]) ?_ rfl ⟨gg, c2, rfl, r1, r2⟩
      simp [results, Try.results229, go_sem, s0, s1]
  · have hg : isGB p l = true := by
      cases h : isGB p l with
      | false => exact absurd (.inl h) hbad
      | true => rfl
    have hok : (0 ≤ a ∧ 0 ≤ b) ∧ (a < p ∧ b < p) ∧ a ≠ b ∧ l.length < 24 := Classical.byContradiction fun h => hbad (.inr h)
    obtain rfl : RR = true := HRR.out.trans (add_yes hg hok).1
    have HLK := Lib.hid (HRL.out.trans (add_yes hg hok).2)
    have h1 : ¬ a < 0 := by omega
    have h2 : ¬ b < 0 := by omega
    have h3 : ¬ p ≤ a := by omega
    have h4 : ¬ p ≤ b := by omega
    have h5 : (a == b) = false := by simpa using hok.2.2.1
    have h6 : ¬ (24 : Int) ≤ (l.length : Int) := by omega
    rcases (show a < b ∨ b < a by omega) with hab | hab
    · rw [show min a b = a by omega, show max a b = b by omega] at HLK
      have hab' : ¬ b < a := by omega
      clear hbad hok
      go_wp2_with fail
      clear x0 x1
      refine (putW p (a, b) l (some aa) cap _ HL2.out hn).mono ?_
      rw [← HLK.out]
      rintro e w3 ⟨gg, c2, rfl, ho, hb⟩
      obtain ⟨_, z0, z1⟩ := HR2.out.kept hb
      have f0 := (hb.frozen (p := ⟨w.heap.size + 1, 0, none⟩) HR2.out.1).trans HF2.out.1
      have f1 := (hb.frozen (p := ⟨w.heap.size + 1, 1, none⟩) HR2.out.1).trans HF2.out.2
      have HB3 := Lib.hid (below_on HB2.out hb HB2.out.size)
      have HO3 := Lib.hid ho
      have HLT := Lib.hid HR2.out.1
      clear hb ho
      obtain ⟨s0, s1⟩ := ret_cells (p := p) (v := .slice (some ⟨gg, 0, none⟩) L.length c2) z0 z1
      obtain ⟨r1, r2⟩ := row_retW HO3.out HB3.out (r := w.heap.size + 1) (by omega) HLT.out (.int .i64 p) (.slice (some ⟨gg, 0, none⟩) L.length c2)
      go_wp2_with fail
      refine bodyPost_ret (v := .tuple #[.agg #[.int .i64 p, .slice (some ⟨gg, 0, none⟩) L.length c2], .bool true]) ?_ rfl ⟨gg, c2, rfl, r1, r2⟩
      simp [results, Try.results229, go_sem, s0, s1]
    · rw [show min a b = b by omega, show max a b = a by omega] at HLK
      have hab' : ¬ a < b := by omega
      clear hbad hok
      go_wp2_with fail
      clear x0 x1
      refine (putW p (b, a) l (some aa) cap _ HL2.out hn).mono ?_
      rw [← HLK.out]
      rintro e w3 ⟨gg, c2, rfl, ho, hb⟩
      obtain ⟨_, z0, z1⟩ := HR2.out.kept hb
      have f0 := (hb.frozen (p := ⟨w.heap.size + 1, 0, none⟩) HR2.out.1).trans HF2.out.1
      have f1 := (hb.frozen (p := ⟨w.heap.size + 1, 1, none⟩) HR2.out.1).trans HF2.out.2
      have HB3 := Lib.hid (below_on HB2.out hb HB2.out.size)
      have HO3 := Lib.hid ho
      have HLT := Lib.hid HR2.out.1
      clear hb ho
      obtain ⟨s0, s1⟩ := ret_cells (p := p) (v := .slice (some ⟨gg, 0, none⟩) L.length c2) z0 z1
      obtain ⟨r1, r2⟩ := row_retW HO3.out HB3.out (r := w.heap.size + 1) (by omega) HLT.out (.int .i64 p) (.slice (some ⟨gg, 0, none⟩) L.length c2)
      go_wp2_with fail
      refine bodyPost_ret (v := .tuple #[.agg #[.int .i64 p, .slice (some ⟨gg, 0, none⟩) L.length c2], .bool true]) ?_ rfl ⟨gg, c2, rfl, r1, r2⟩
      simp [results, Try.results229, go_sem, s0, s1]
end Go.Proofs.Ytdkpmaahinbhlaa
