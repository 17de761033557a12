/- What spec.IsFramework answers. No condition. -/
import Derived.Test.YtehendofgcebcaaDoorOffs
import Derived.Test.YtehendofgcebcaaDoorFw
import Derived.Test.YtehendofgcebcaaDoorIn
namespace Go.Proofs.YtehendofgcebcaaDoor
open Go.RowKit
attribute [local go_sem ↓] eqlBar eqlPl guardBar guardPl

set_option maxHeartbeats 4000000 in
set_option maxRecDepth 100000 in
theorem specIsF (p : Int) (l m : List (Int × Int)) (A : Option Addr) (ca : Nat) (B : Option Addr) (cb : Nat) (lo hi : Nat) (w : World) (hl : FwIn w lo hi A l B m) (hn : l.length + m.length ≤ 1048576) :
    Calls Tryd.prog 16 #[.agg #[.int .i64 p, .slice A l.length ca, .slice B m.length cb]] w fun e w' => e = .returned (.bool (isFB p l m)) ∧ Below w.heap.size w w' := by
  have HF := Lib.hid (FbI.new (p := p) (ca := ca) (cb := cb) hl 35)
  clear hl
  by_cases hg : isGB p l = true
  · have hgg : IsG p l := Classical.byContradiction fun h => by rw [isGB_no h] at hg; cases hg
    have HGG := Lib.hid hgg
    have hp1 := hgg.1.1
    have hp8 := hgg.1.2
    have HC := Lib.hid fun (W : World) (h : BarsAt W W.heap.size A l) => specIsGraph' p l A ca W h (by omega)
    rw [hg] at HC
    clear hgg hg
    by_cases h6 : p ≤ 6
    · by_cases hm : (m.length : Int) = p
      · have HM := Lib.hid hm
        have hmp : ((m.length : Int) != p) = false := by simpa using hm
        have hm6 : m.length ≤ 6 := by omega
        clear hm
        by_cases h15 : l.length ≤ 15
        · go_enter Tryd.func16, Tryd.ntmps16
          go_wp2_with fail
          generalize (w.alloc (.cells #[.int .i64 p, .slice A l.length ca, .slice B m.length cb] 35)) = w1 at *
          refine (HC.out _ HF.out.f.b.at).mono ?_
          rintro e w2 ⟨rfl, hb⟩
          have HF2 := Lib.hid (HF.out.below hb)
          obtain ⟨_, x0, x1, x2⟩ := HF2.out.x
          clear hb
          go_wp2_with fail
          clear x0 x1 x2
          go_loopw [3] (fun i wr => ∃ k : Nat, k ≤ m.length ∧ i = .int .i64 k ∧ (∀ j, j < k → OnG (m.getD j (0, 0))) ∧ FbI w wr lo hi p A ca l B cb m) (fun i _ => m.length - (intOf i).toNat)
          case atStart => exact ⟨0, by omega, rfl, fun j hj => absurd hj (by omega), HF2.out⟩
          case round =>
            clear HF HF2
            obtain ⟨k, hk, rfl, hok, hf⟩ := hrel
            have HK := Lib.hid hok
            have HF := Lib.hid hf
            clear hok hf
            obtain ⟨_, x0, x1, x2⟩ := HF.out.x
            by_cases hlt : k < m.length
            · have hi : (k : Int) < (m.length : Int) := by omega
              obtain ⟨b, off, rfl, hbB, hcell⟩ := HF.out.place hlt
              obtain ⟨hc1, hc2⟩ := hcell k hlt
              clear hcell
              have HS := Lib.hid (show OnG (m.getD k (0, 0)) → ∀ j, j < k + 1 → OnG (m.getD j (0, 0)) from fun h j hj => by
                by_cases e : j = k
                · subst e; exact h
                · exact HK.out j (by omega))
              have HQ := Lib.hid (show ¬ OnG (m.getD k (0, 0)) → isFB p l m = false from fun h => isFB_no fun hF => h (hF.grid k hlt))
              obtain ⟨x, hx⟩ : ∃ x, m.getD k (0, 0) = x := ⟨_, rfl⟩
              rw [hx] at hc1 hc2 HS HQ
              clear hx HK
              obtain ⟨x, y⟩ := x
              simp only at hc1 hc2
              by_cases c1 : 0 ≤ x ∧ x ≤ 4
              · by_cases c2 : 0 ≤ y ∧ y ≤ 4
                · have HSS := Lib.hid (HS.out ⟨c1, c2⟩)
                  clear HS HQ
                  go_wp2_with fail
                  refine (l1In_yes _ _ _ _ c1.1 c1.2).mono ?_
                  rintro e w2 ⟨rfl, rfl⟩
                  go_wp2_with fail
                  refine (l1In_yes _ _ _ _ c2.1 c2.2).mono ?_
                  rintro e w2 ⟨rfl, rfl⟩
                  go_wp2_with fail
                  go_roundw
                  case rel => exact ⟨k + 1, by omega, by go_num, HSS.out, HF.out⟩
                  case measure => simp [intOf]; omega
                · have HQQ := Lib.hid (HQ.out fun h => c2 h.2)
                  have hc' : y < 0 ∨ 4 < y := by omega
                  clear HS HQ c2
                  go_wp2_with fail
                  refine (l1In_yes _ _ _ _ c1.1 c1.2).mono ?_
                  rintro e w2 ⟨rfl, rfl⟩
                  go_wp2_with fail
                  refine (l1In_no _ _ _ _ hc').mono ?_
                  rintro e w2 ⟨rfl, rfl⟩
                  go_wp2_with fail
                  go_ret
                  exact ⟨by rw [HQQ.out]; rfl, HF.out.b⟩
              · have HQQ := Lib.hid (HQ.out fun h => c1 h.1)
                have hc' : x < 0 ∨ 4 < x := by omega
                clear HS HQ c1
                go_wp2_with fail
                refine (l1In_no _ _ _ _ hc').mono ?_
                rintro e w2 ⟨rfl, rfl⟩
                go_wp2_with fail
                go_ret
                exact ⟨by rw [HQQ.out]; rfl, HF.out.b⟩
            · obtain rfl : k = m.length := by omega
              have HGR := Lib.hid HK.out
              clear HK
              go_wp2_with fail
              clear x0 x1 x2
              go_loopw [4] (fun i wr => ∃ k : Nat, k ≤ l.length ∧ i = .int .i64 k ∧ (∀ j, j < k → OkF l m j) ∧ FbI w wr lo hi p A ca l B cb m) (fun i _ => l.length - (intOf i).toNat)
              case atStart => exact ⟨0, by omega, rfl, fun j hj => absurd hj (by omega), HF.out⟩
              case round =>
                clear HF
                obtain ⟨k, hk, rfl, hok, hf⟩ := hrel
                have HK := Lib.hid hok
                have HF := Lib.hid hf
                clear hok hf
                by_cases hlt : k < l.length
                · have hi : (k : Int) < (l.length : Int) := by omega
                  obtain ⟨ba, oa, rfl, hba, hca⟩ := HF.out.bar hlt
                  obtain ⟨bb, ob, rfl, hbb, hcb⟩ := HF.out.place (k := 0) (by have := HM.out; omega)
                  have hend := HGG.out.2.2 k hlt
                  have HS := Lib.hid (show OkF l m k → ∀ j, j < k + 1 → OkF l m j from fun h j hj => by
                    by_cases e : j = k
                    · subst e; exact h
                    · exact HK.out j (by omega))
                  have HQ := Lib.hid (show ¬ OkF l m k → isFB p l m = false from fun h => isFB_no fun hF => h (hF.ok k hlt))
                  unfold OkF plc at HS HQ
                  have hbar := hca k hlt
                  obtain ⟨e1, e2, e3, _⟩ := hend
                  have hpl1 := hcb (l.getD k (0, 0)).1.toNat (by have := HM.out; omega)
                  have hpl2 := hcb (l.getD k (0, 0)).2.toNat (by have := HM.out; omega)
                  have hprev : 0 < k → wr.cell? ⟨ba, oa + (k - 1) * 2, none⟩ = some (.int .i64 (l.getD (k - 1) (0, 0)).1) ∧ wr.cell? ⟨ba, oa + (k - 1) * 2 + 1, none⟩ = some (.int .i64 (l.getD (k - 1) (0, 0)).2) := fun h0 => hca (k - 1) (by omega)
                  obtain ⟨x, hx⟩ : ∃ x, l.getD k (0, 0) = x := ⟨_, rfl⟩
                  obtain ⟨z, hz⟩ : ∃ z, l.getD (k - 1) (0, 0) = z := ⟨_, rfl⟩
                  rw [hx] at hbar hpl1 hpl2 e1 e2 e3
                  rw [hx, hz] at HS HQ
                  rw [hz] at hprev
                  clear hx hz hca hcb HK
                  obtain ⟨xa, xb⟩ := x
                  obtain ⟨a, rfl⟩ : ∃ a : Nat, xa = a := ⟨xa.toNat, by simp only at e1; omega⟩
                  obtain ⟨b, rfl⟩ : ∃ b : Nat, xb = b := ⟨xb.toNat, by simp only at e1 e2; omega⟩
                  simp only [Int.toNat_natCast] at e1 e2 e3 hbar hpl1 hpl2 HS HQ
                  have ha : (a : Int) < (m.length : Int) := by have := HM.out; omega
                  have hb' : (b : Int) < (m.length : Int) := by have := HM.out; omega
                  obtain ⟨P, hP⟩ : ∃ P, m.getD a (0, 0) = P := ⟨_, rfl⟩
                  obtain ⟨Q, hQ⟩ : ∃ Q, m.getD b (0, 0) = Q := ⟨_, rfl⟩
                  rw [hP] at hpl1 HS HQ
                  rw [hQ] at hpl2 HS HQ
                  clear hP hQ e1 e2 e3
                  obtain ⟨_, x0, x1, x2⟩ := HF.out.x
                  obtain ⟨hb1, hb2⟩ := hbar
                  go_wp2_with fail
                  clear x0 x1 x2 hb1 hb2
                  have hal := new_below wr (.cells #[.int .i64 (a : Int), .int .i64 (b : Int)] 80)
                  have HF2 := Lib.hid (HF.out.below hal)
                  have hy0 : (wr.alloc (.cells #[.int .i64 (a : Int), .int .i64 (b : Int)] 80)).cell? ⟨wr.heap.size, 0, none⟩ = some (.int .i64 (a : Int)) := by rw [World.cell?_alloc_at _ _ _ _ rfl]; rfl
                  have hy1 : (wr.alloc (.cells #[.int .i64 (a : Int), .int .i64 (b : Int)] 80)).cell? ⟨wr.heap.size, 1, none⟩ = some (.int .i64 (b : Int)) := by rw [World.cell?_alloc_at _ _ _ _ rfl]; rfl
                  have hp11 := (hal.cell (p := ⟨bb, ob + a * 2, none⟩) hbb).trans hpl1.1
                  have hp12 := (hal.cell (p := ⟨bb, ob + a * 2 + 1, none⟩) hbb).trans hpl1.2
                  have hp21 := (hal.cell (p := ⟨bb, ob + b * 2, none⟩) hbb).trans hpl2.1
                  have hp22 := (hal.cell (p := ⟨bb, ob + b * 2 + 1, none⟩) hbb).trans hpl2.2
                  have HPR := Lib.hid (fun h0 : 0 < k => (⟨(hal.cell (p := ⟨ba, oa + (k - 1) * 2, none⟩) hba).trans (hprev h0).1, (hal.cell (p := ⟨ba, oa + (k - 1) * 2 + 1, none⟩) hba).trans (hprev h0).2⟩ : _ ∧ _))
                  clear hprev hpl1 hpl2 hal HF
                  generalize (wr.alloc (.cells #[.int .i64 (a : Int), .int .i64 (b : Int)] 80)) = w2 at *
                  obtain ⟨_, x0, x1, x2⟩ := HF2.out.x
                  by_cases he : P = Q
                  · have hne := neB_no he
                    have HQQ := Lib.hid (HQ.out fun h => h.1 he)
                    clear HQ HS he
                    obtain ⟨P1, P2⟩ := P
                    obtain ⟨Q1, Q2⟩ := Q
                    go_quiet (fail)
                    go_wp2_with fail
                    go_ret
                    exact ⟨by rw [HQQ.out]; rfl, HF2.out.b.trans (below_drewN _ _ _)⟩
                  · have hne := neB_yes he
                    have HPQ := Lib.hid he
                    clear he
                    obtain ⟨P1, P2⟩ := P
                    obtain ⟨Q1, Q2⟩ := Q
                    by_cases c0 : k = 0
                    · have HSS := Lib.hid (HS.out ⟨HPQ.out, fun h => absurd h (by omega)⟩)
                      have d4 : decide ((0 : Int) < (k : Int)) = false := by simp; omega
                      have d4n : decide (0 < k) = false := by simp; omega
                      clear HS HQ c0
                      go_quiet (fail)
                      go_wp2_with fail
                      go_roundw
                      case rel => exact ⟨k + 1, by omega, by go_num, HSS.out, HF2.out.below (below_drewN _ _ _)⟩
                      case measure => simp [intOf]; omega
                    · have d4 : (0 : Int) < (k : Int) := by omega
                      have d4n : decide (0 < k) = true := by simp; omega
                      obtain ⟨hz1, hz2⟩ := HPR.out (by omega)
                      have htn : ((k : Int) - 1).toNat = k - 1 := by omega
                      have hwr : IntKind.i64.wrap ((k : Int) - 1) = (k : Int) - 1 := IntWalk.i64_in _ (by omega)
                      have hk1 : 0 ≤ (k : Int) - 1 := by omega
                      have hk3 : (1 : Int) ≤ (k : Int) := by omega
                      have hk4 : 1 ≤ k := by omega
                      have hk2 : (k : Int) - 1 < (l.length : Int) := by omega
                      by_cases he2 : z = ((a : Int), (b : Int))
                      · have hne2 := neB_no he2
                        have HQQ := Lib.hid (HQ.out fun h => h.2 (by omega) he2)
                        clear HQ HS he2
                        obtain ⟨z1, z2⟩ := z
                        go_quiet (fail)
                        go_wp2_with fail
                        go_ret
                        exact ⟨by rw [HQQ.out]; rfl, HF2.out.b.trans (below_drewN _ _ _)⟩
                      · have hne2 := neB_yes he2
                        have HSS := Lib.hid (HS.out ⟨HPQ.out, fun _ => he2⟩)
                        clear HQ HS he2
                        obtain ⟨z1, z2⟩ := z
                        go_quiet (fail)
                        go_wp2_with fail
                        go_roundw
                        case rel => exact ⟨k + 1, by omega, by go_num, HSS.out, HF2.out.below (below_drewN _ _ _)⟩
                        case measure => simp [intOf]; omega
                · obtain rfl : k = l.length := by omega
                  have HQ := Lib.hid (isFB_yes ⟨HGG.out, h6, HM.out, h15, HGR.out, HK.out⟩)
                  obtain ⟨_, x0, x1, x2⟩ := HF.out.x
                  go_wp2_with fail
                  go_ret
                  exact ⟨by rw [HQ.out]; rfl, HF.out.b⟩
        · have h15' : (15 : Int) < (l.length : Int) := by omega
          have HQ := Lib.hid (isFB_no (p := p) (l := l) (m := m) fun h => h15 h.bars)
          go_enter Tryd.func16, Tryd.ntmps16
          go_wp2_with fail
          generalize (w.alloc (.cells #[.int .i64 p, .slice A l.length ca, .slice B m.length cb] 35)) = w1 at *
          refine (HC.out _ HF.out.f.b.at).mono ?_
          rintro e w2 ⟨rfl, hb⟩
          have HF2 := Lib.hid (HF.out.below hb)
          obtain ⟨_, x0, x1, x2⟩ := HF2.out.x
          clear hb
          go_wp2_with fail
          go_ret
          exact ⟨by rw [HQ.out]; rfl, HF2.out.b⟩
      · have hmp : ((m.length : Int) != p) = true := by simpa using hm
        have HQ := Lib.hid (isFB_no (p := p) (l := l) (m := m) fun h => hm h.len)
        go_enter Tryd.func16, Tryd.ntmps16
        go_wp2_with fail
        generalize (w.alloc (.cells #[.int .i64 p, .slice A l.length ca, .slice B m.length cb] 35)) = w1 at *
        refine (HC.out _ HF.out.f.b.at).mono ?_
        rintro e w2 ⟨rfl, hb⟩
        have HF2 := Lib.hid (HF.out.below hb)
        obtain ⟨_, x0, x1, x2⟩ := HF2.out.x
        clear hb
        go_wp2_with fail
        go_ret
        exact ⟨by rw [HQ.out]; rfl, HF2.out.b⟩
    · have h6' : 6 < p := by omega
      have HQ := Lib.hid (isFB_no (p := p) (l := l) (m := m) fun h => h6 h.six)
      go_enter Tryd.func16, Tryd.ntmps16
      go_wp2_with fail
      generalize (w.alloc (.cells #[.int .i64 p, .slice A l.length ca, .slice B m.length cb] 35)) = w1 at *
      refine (HC.out _ HF.out.f.b.at).mono ?_
      rintro e w2 ⟨rfl, hb⟩
      have HF2 := Lib.hid (HF.out.below hb)
      obtain ⟨_, x0, x1, x2⟩ := HF2.out.x
      clear hb
      go_wp2_with fail
      go_ret
      exact ⟨by rw [HQ.out]; rfl, HF2.out.b⟩
  · have hgf : isGB p l = false := by simpa using hg
    have HC := Lib.hid fun (W : World) (h : BarsAt W W.heap.size A l) => specIsGraph' p l A ca W h (by omega)
    rw [hgf] at HC
    have HQ := Lib.hid (isFB_no (p := p) (l := l) (m := m) fun h => hg (isGB_yes h.g))
    go_enter Tryd.func16, Tryd.ntmps16
    go_wp2_with fail
    generalize (w.alloc (.cells #[.int .i64 p, .slice A l.length ca, .slice B m.length cb] 35)) = w1 at *
    refine (HC.out _ HF.out.f.b.at).mono ?_
    rintro e w2 ⟨rfl, hb⟩
    have HF2 := Lib.hid (HF.out.below hb)
    obtain ⟨_, x0, x1, x2⟩ := HF2.out.x
    clear hb
    go_wp2_with fail
    go_ret
    exact ⟨by rw [HQ.out]; rfl, HF2.out.b⟩
end Go.Proofs.YtehendofgcebcaaDoor
