/- What CompleteGraph answers, the specification's and the program's. No condition. -/
import Derived.Test.YtmanfpdneicgeaaCompl
import Derived.Test.YtmanfpdneicgeaaIn
namespace Go.Proofs.Ytmanfpdneicgeaa
open Go.RowKit

set_option maxHeartbeats 2000000 in
set_option maxRecDepth 100000 in
theorem specComplete (n : Int) (w : World) :
    Calls Try.prog 18 #[.int .i64 n] w (GraphR w (compP n) (compL n)) := by
  by_cases hn : 1 ≤ n ∧ n ≤ 7
  · rw [show compP n = n from if_pos hn, show compL n = allC n.toNat n.toNat from if_pos hn]
    obtain ⟨N, rfl⟩ : ∃ N : Nat, n = (N : Int) := ⟨n.toNat, by omega⟩
    obtain ⟨hn1, hn2⟩ := hn
    change Calls _ _ _ _ (GraphR w (N : Int) (allC N N))
    have hN1 : 1 ≤ N := by omega
    have hN7 : N ≤ 7 := by omega
    have d1 : ¬ (N : Int) < 1 := by omega
    have d2 : ¬ 7 < (N : Int) := by omega
    have hA := new_below w (.cells #[.int .i64 0, .slice none 0 0] 29)
    have HA := Lib.hid hA
    have HR := Lib.hid (box_new w 0 (.slice none 0 0) 29)
    have HG := Lib.hid (gbox_new w (N : Int))
    have HF := Lib.hid (show (w.alloc (.cells #[.int .i64 0, .slice none 0 0] 29)).frozen? ⟨w.heap.size, 0, none⟩ = false ∧ (w.alloc (.cells #[.int .i64 0, .slice none 0 0] 29)).frozen? ⟨w.heap.size, 1, none⟩ = false from ⟨World.frozen?_alloc_at _ _ _ _ rfl, World.frozen?_alloc_at _ _ _ _ rfl⟩)
    clear hA
    go_enter Try.func18, Try.ntmps18
    go_wp2_with fail
    refine (l1In_yes (N : Int) 1 7 _ (by omega) (by omega)).mono ?_
    rintro e w1 ⟨rfl, rfl⟩
    go_wp2_with fail
    generalize ((w.alloc (.cells #[.int .i64 0, .slice none 0 0] 29)).alloc (.cells #[.int .i64 (N : Int), .slice none 0 0] 29)) = w2 at *
    generalize (w.alloc (.cells #[.int .i64 0, .slice none 0 0] 29)) = w0 at *
    go_loopw [4] (fun i wr => ∃ a : Nat, a ≤ N ∧ i = .int .i64 a ∧ ∃ A c, GBox w.heap.size w0 wr (w.heap.size + 1) [w.heap.size] (N : Int) A c (allC N a)) (fun i _ => N - (intOf i).toNat)
    case atStart => exact ⟨0, by omega, rfl, _, _, HG.out⟩
    case round =>
      obtain ⟨a, ha, rfl, A, c, hst⟩ := hrel
      have HST := Lib.hid hst
      clear hst
      by_cases hlt : a < N
      · have hai : (a : Int) < (N : Int) := by omega
        go_wp2_with fail
        go_loopw [5] (fun i wr => ∃ b : Nat, a + 1 ≤ b ∧ b ≤ N ∧ i = .int .i64 b ∧ ∃ A c, GBox w.heap.size w0 wr (w.heap.size + 1) [w.heap.size] (N : Int) A c (allC N a ++ rowC a b)) (fun i _ => N - (intOf i).toNat)
        case atStart => exact ⟨a + 1, by omega, by omega, by go_num, A, c, by rw [rowC_nil, List.append_nil]; exact HST.out⟩
        case round =>
          obtain ⟨b, hb1, hb2, rfl, A, c, hst⟩ := hrel
          have HSB := Lib.hid hst
          obtain ⟨_, g1, g2⟩ := hst.1
          have gf := hst.2.1
          clear hst
          by_cases hbl : b < N
          · have hbi : (b : Int) < (N : Int) := by omega
            have HE := Lib.hid (rowC_succ a b hb1)
            have hll : (allC N a ++ rowC a b).length ≤ 1000 := by
              rw [List.length_append]
              have h1 := allC_len N a
              have h2 : a * N ≤ 7 * 7 := Nat.mul_le_mul (by omega) hN7
              have h3 := rowC_len a b
              omega
            obtain ⟨L, hL⟩ : ∃ L, L = allC N a ++ rowC a b := ⟨_, rfl⟩
            rw [← hL] at HSB g2 hll
            have HLL := Lib.hid hL
            clear hL
            have hbs : w.heap.size ≤ wr.heap.size := Nat.le_of_lt (Nat.lt_of_le_of_lt HSB.out.2.2.2.2.2.2 HSB.out.1.1)
            go_wp2_with (at_builtin; refine wpList_at _ rfl _ _ 27 rfl w.heap.size 53 (.agg #[.int .i64 0, .int .i64 0]) 2 16 Try.underlying27 infoBar rfl (by decide) _ _ _ rfl HSB.out.2.2.2.1 #[.int .i64 (a : Int), .int .i64 (b : Int)] 1 rfl (by simp [Value.oneCell']) _ _ rfl (by omega) (by unfold maxLen; omega) hbs ?_; intro v' w' ho hg hat _; obtain ⟨c0, c1, f1, A2, c2, rfl, hG2⟩ := HSB.out.push ((a : Int), (b : Int)) ho hg hat; have HG2 := Lib.hid hG2; clear ho hg hat hG2)
            go_roundw
            case rel => exact ⟨b + 1, by omega, by omega, by go_num, A2, c2, by rw [HE.out, ← List.append_assoc, ← HLL.out]; exact HG2.out⟩
            case measure => simp [intOf]; omega
          · obtain rfl : b = N := by omega
            go_wp2_with fail
            go_roundw
            case rel => exact ⟨a + 1, by omega, by go_num, A, c, HSB.out⟩
            case measure => simp [intOf]; omega
      · obtain rfl : a = N := by omega
        obtain ⟨_, g1, g2⟩ := HST.out.1
        have r0 := (HST.out.cell (o := w.heap.size) (k := 0) (by simp)).trans HR.out.2.1
        have r1 := (HST.out.cell (o := w.heap.size) (k := 1) (by simp)).trans HR.out.2.2
        have f0 := (HST.out.frozen (o := w.heap.size) (k := 0) (by simp)).trans HF.out.1
        have f1 := (HST.out.frozen (o := w.heap.size) (k := 1) (by simp)).trans HF.out.2
        have hr := HST.out.ret (o := w.heap.size) (by simp) (Nat.le_refl _) (.int .i64 (a : Int)) (.slice A (allC a a).length c)
        have HRT := Lib.hid hr
        have s0 : ((wr.setCell ⟨w.heap.size, 0, none⟩ (.int .i64 (a : Int))).setCell ⟨w.heap.size, 1, none⟩ (.slice A (allC a a).length c)).cell? ⟨w.heap.size, 0, none⟩ = some (.int .i64 (a : Int)) := by
          rw [World.cell?_setCell_other _ _ _ _ (by intro e; simp at e)]
          exact World.cell?_setCell_same _ _ _ r0
        have s1 : ((wr.setCell ⟨w.heap.size, 0, none⟩ (.int .i64 (a : Int))).setCell ⟨w.heap.size, 1, none⟩ (.slice A (allC a a).length c)).cell? ⟨w.heap.size, 1, none⟩ = some (.slice A (allC a a).length c) := by
          have r2 : (wr.setCell ⟨w.heap.size, 0, none⟩ (.int .i64 (a : Int))).cell? ⟨w.heap.size, 1, none⟩ = some (.slice none 0 0) := by
            rw [World.cell?_setCell_other _ _ _ _ (by intro e; simp at e)]
            exact r1
          exact World.cell?_setCell_same _ _ _ r2
        clear hr
        go_wp2_with fail
        refine bodyPost_ret (v := .agg #[.int .i64 (a : Int), .slice A (allC a a).length c]) ?_ rfl ⟨A, c, rfl, HRT.out.1.bars.at, HA.out.trans HRT.out.2⟩
        simp [results, Try.results18, go_sem, s0, s1]
  · rw [show compP n = 0 from if_neg hn, show compL n = [] from if_neg hn]
    have HR := Lib.hid (box_new w 0 (.slice none 0 0) 29)
    by_cases d1 : n < 1
    all_goals
      go_enter Try.func18, Try.ntmps18
      go_wp2_with fail
      refine (l1In_no n 1 7 _ (by omega)).mono ?_
      rintro e w1 ⟨rfl, rfl⟩
      go_wp2_with fail
      refine bodyPost_ret (v := .agg #[.int .i64 0, .slice none 0 0]) ?_ rfl ⟨none, 0, rfl, BarsAt.nil _ _ _, ((Below.refl _ _).alloc (Nat.le_refl _) _).alloc (by simp) _⟩
      simp [results, Try.results18, go_sem]

set_option maxHeartbeats 2000000 in
set_option maxRecDepth 100000 in
theorem implComplete (n : Int) (w : World) :
    Calls Try.prog 19 #[.int .i64 n] w (GraphO w (compP n) (compL n)) := by
  by_cases hn : 1 ≤ n ∧ n ≤ 7
  · rw [show compP n = n from if_pos hn, show compL n = allC n.toNat n.toNat from if_pos hn]
    obtain ⟨N, rfl⟩ : ∃ N : Nat, n = (N : Int) := ⟨n.toNat, by omega⟩
    obtain ⟨hn1, hn2⟩ := hn
    change Calls _ _ _ _ (GraphO w (N : Int) (allC N N))
    have hN1 : 1 ≤ N := by omega
    have hN7 : N ≤ 7 := by omega
    have d1 : ¬ (N : Int) < 1 := by omega
    have d2 : ¬ 7 < (N : Int) := by omega
    have hA := new_below w (.cells #[.int .i64 0, .slice none 0 0] 29)
    have HA := Lib.hid hA
    have HR := Lib.hid (box_new w 0 (.slice none 0 0) 29)
    have HG := Lib.hid (gbox_new w (N : Int))
    have HF := Lib.hid (show (w.alloc (.cells #[.int .i64 0, .slice none 0 0] 29)).frozen? ⟨w.heap.size, 0, none⟩ = false ∧ (w.alloc (.cells #[.int .i64 0, .slice none 0 0] 29)).frozen? ⟨w.heap.size, 1, none⟩ = false from ⟨World.frozen?_alloc_at _ _ _ _ rfl, World.frozen?_alloc_at _ _ _ _ rfl⟩)
    clear hA
    go_enter Try.func19, Try.ntmps19
    go_wp2_with fail
    generalize ((w.alloc (.cells #[.int .i64 0, .slice none 0 0] 29)).alloc (.cells #[.int .i64 (N : Int), .slice none 0 0] 29)) = w2 at *
    generalize (w.alloc (.cells #[.int .i64 0, .slice none 0 0] 29)) = w0 at *
    go_loopw [16] (fun i wr => ∃ a : Nat, a ≤ N ∧ i = .int .i64 a ∧ ∃ A c, GBox w.heap.size w0 wr (w.heap.size + 1) [w.heap.size] (N : Int) A c (allC N a)) (fun i _ => N - (intOf i).toNat)
    case atStart => exact ⟨0, by omega, rfl, _, _, HG.out⟩
    case round =>
      obtain ⟨a, ha, rfl, A, c, hst⟩ := hrel
      have HST := Lib.hid hst
      clear hst
      by_cases hlt : a < N
      · have hai : (a : Int) < (N : Int) := by omega
        go_wp2_with fail
        go_loopw [5] (fun i wr => ∃ b : Nat, a + 1 ≤ b ∧ b ≤ N ∧ i = .int .i64 b ∧ ∃ A c, GBox w.heap.size w0 wr (w.heap.size + 1) [w.heap.size] (N : Int) A c (allC N a ++ rowC a b)) (fun i _ => N - (intOf i).toNat)
        case atStart => exact ⟨a + 1, by omega, by omega, by go_num, A, c, by rw [rowC_nil, List.append_nil]; exact HST.out⟩
        case round =>
          obtain ⟨b, hb1, hb2, rfl, A, c, hst⟩ := hrel
          have HSB := Lib.hid hst
          obtain ⟨_, g1, g2⟩ := hst.1
          have gf := hst.2.1
          clear hst
          by_cases hbl : b < N
          · have hbi : (b : Int) < (N : Int) := by omega
            have HE := Lib.hid (rowC_succ a b hb1)
            have hll : (allC N a ++ rowC a b).length ≤ 1000 := by
              rw [List.length_append]
              have h1 := allC_len N a
              have h2 : a * N ≤ 7 * 7 := Nat.mul_le_mul (by omega) hN7
              have h3 := rowC_len a b
              omega
            obtain ⟨L, hL⟩ : ∃ L, L = allC N a ++ rowC a b := ⟨_, rfl⟩
            rw [← hL] at HSB g2 hll
            have HLL := Lib.hid hL
            clear hL
            have hbs : w.heap.size ≤ wr.heap.size := Nat.le_of_lt (Nat.lt_of_le_of_lt HSB.out.2.2.2.2.2.2 HSB.out.1.1)
            go_wp2_with (at_builtin; refine wpList_at _ rfl _ _ 27 rfl w.heap.size 53 (.agg #[.int .i64 0, .int .i64 0]) 2 16 Try.underlying27 infoBar rfl (by decide) _ _ _ rfl HSB.out.2.2.2.1 #[.int .i64 (a : Int), .int .i64 (b : Int)] 1 rfl (by simp [Value.oneCell']) _ _ rfl (by omega) (by unfold maxLen; omega) hbs ?_; intro v' w' ho hg hat _; obtain ⟨c0, c1, f1, A2, c2, rfl, hG2⟩ := HSB.out.push ((a : Int), (b : Int)) ho hg hat; have HG2 := Lib.hid hG2; clear ho hg hat hG2)
            go_roundw
            case rel => exact ⟨b + 1, by omega, by omega, by go_num, A2, c2, by rw [HE.out, ← List.append_assoc, ← HLL.out]; exact HG2.out⟩
            case measure => simp [intOf]; omega
          · obtain rfl : b = N := by omega
            go_wp2_with fail
            go_roundw
            case rel => exact ⟨a + 1, by omega, by go_num, A, c, HSB.out⟩
            case measure => simp [intOf]; omega
      · obtain rfl : a = N := by omega
        obtain ⟨_, g1, g2⟩ := HST.out.1
        have r0 := (HST.out.cell (o := w.heap.size) (k := 0) (by simp)).trans HR.out.2.1
        have r1 := (HST.out.cell (o := w.heap.size) (k := 1) (by simp)).trans HR.out.2.2
        have f0 := (HST.out.frozen (o := w.heap.size) (k := 0) (by simp)).trans HF.out.1
        have f1 := (HST.out.frozen (o := w.heap.size) (k := 1) (by simp)).trans HF.out.2
        have hr := HST.out.ret (o := w.heap.size) (by simp) (Nat.le_refl _) (.int .i64 (a : Int)) (.slice A (allC a a).length c)
        have HRT := Lib.hid hr
        have s0 : ((wr.setCell ⟨w.heap.size, 0, none⟩ (.int .i64 (a : Int))).setCell ⟨w.heap.size, 1, none⟩ (.slice A (allC a a).length c)).cell? ⟨w.heap.size, 0, none⟩ = some (.int .i64 (a : Int)) := by
          rw [World.cell?_setCell_other _ _ _ _ (by intro e; simp at e)]
          exact World.cell?_setCell_same _ _ _ r0
        have s1 : ((wr.setCell ⟨w.heap.size, 0, none⟩ (.int .i64 (a : Int))).setCell ⟨w.heap.size, 1, none⟩ (.slice A (allC a a).length c)).cell? ⟨w.heap.size, 1, none⟩ = some (.slice A (allC a a).length c) := by
          have r2 : (wr.setCell ⟨w.heap.size, 0, none⟩ (.int .i64 (a : Int))).cell? ⟨w.heap.size, 1, none⟩ = some (.slice none 0 0) := by
            rw [World.cell?_setCell_other _ _ _ _ (by intro e; simp at e)]
            exact r1
          exact World.cell?_setCell_same _ _ _ r2
        clear hr
        go_wp2_with fail
        refine bodyPost_ret (v := .agg #[.int .i64 (a : Int), .slice A (allC a a).length c]) ?_ rfl ⟨A, c, rfl, HRT.out.1, HA.out.trans HRT.out.2⟩
        simp [results, Try.results19, go_sem, s0, s1]
  · rw [show compP n = 0 from if_neg hn, show compL n = [] from if_neg hn]
    have HR := Lib.hid (box_new w 0 (.slice none 0 0) 29)
    by_cases d1 : n < 1
    all_goals
      go_enter Try.func19, Try.ntmps19
      go_wp2_with fail
      refine bodyPost_ret (v := .agg #[.int .i64 0, .slice none 0 0]) ?_ rfl ⟨none, 0, rfl, own_nil _ _ _ _, (Below.refl _ _).alloc (Nat.le_refl _) _⟩
      simp [results, Try.results19, go_sem]
end Go.Proofs.Ytmanfpdneicgeaa
