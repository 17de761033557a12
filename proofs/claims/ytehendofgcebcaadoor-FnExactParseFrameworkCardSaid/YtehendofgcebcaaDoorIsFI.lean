/- What the program's IsFramework answers: the same as the specification's. No condition. -/
import Derived.Test.YtehendofgcebcaaDoorOffs
import Derived.Test.YtehendofgcebcaaDoorFw
import Derived.StillTailTactics
import Derived.Deep.QuietTactic
import Derived.BigQuiet
namespace Go.Proofs.YtehendofgcebcaaDoor
open Go.RowKit
attribute [local go_sem ↓] eqlBar eqlPl eqlOff guardBar guardPl

theorem guardOff (op : BinOp) (a b : Operand) (x y u v : Int) (w : World) : (eqGuard op 86 a b (.agg #[.int .i64 x, .int .i64 y]) (.agg #[.int .i64 u, .int .i64 v])).run Tryd.prog w = .ok () w :=
  run_eqGuard_agg w op 86 a b _ _ (by kernel_rfl)
attribute [local go_sem ↓] guardOff

/-- Two equal bars lie side by side. -/
def Twice (l : List (Int × Int)) : Prop := ∃ i, 0 < i ∧ i < l.length ∧ l.getD (i - 1) (0, 0) = l.getD i (0, 0)
open Classical in
noncomputable def twB (l : List (Int × Int)) : Bool := if Twice l then true else false
theorem twB_yes {l : List (Int × Int)} (h : Twice l) : twB l = true := by unfold twB; rw [if_pos h]
theorem twB_no {l : List (Int × Int)} (h : ¬ Twice l) : twB l = false := by unfold twB; rw [if_neg h]

set_option maxHeartbeats 2000000 in
set_option maxRecDepth 100000 in
theorem twice_c (p : Int) (l : List (Int × Int)) (A : Option Addr) (cap : Nat) (w : World) (hl : BarsAt w w.heap.size A l) (hn : l.length ≤ 1048576) :
    Calls Tryd.prog 46 #[.agg #[.int .i64 p, .slice A l.length cap]] w fun e w' => e = .returned (.bool (twB l)) ∧ Below w.heap.size w w' := by
  have hA := new_below w (.cells #[.int .i64 p, .slice A l.length cap] 32)
  have HA := Lib.hid hA
  have HX := Lib.hid (box_new w p (.slice A l.length cap) 32)
  have HL := Lib.hid (bars_in (hl.on hA))
  clear hl hA
  go_enter Tryd.func46, Tryd.ntmps46
  go_wp2_with fail
  generalize (w.alloc (.cells #[.int .i64 p, .slice A l.length cap] 32)) = w1 at *
  go_loopw [3] (fun i wr => ∃ k : Nat, 1 ≤ k ∧ (k ≤ l.length ∨ k = 1) ∧ i = .int .i64 k ∧ (∀ j, 0 < j → j < k → j < l.length → l.getD (j - 1) (0, 0) ≠ l.getD j (0, 0)) ∧ Below w.heap.size w wr ∧ Box wr w.heap.size p (.slice A l.length cap) ∧ BarsIn wr 0 w1.heap.size A l) (fun i _ => l.length - (intOf i).toNat)
  case atStart => exact ⟨1, by omega, .inr rfl, rfl, fun j h0 h1 _ => absurd h1 (by omega), HA.out, HX.out, HL.out⟩
  case round =>
    clear HA HX HL
    obtain ⟨k, h1, hk, rfl, hall, hb, hx, hl⟩ := hrel
    have HALL := Lib.hid hall
    have HB := Lib.hid hb
    have HX := Lib.hid hx
    have HL := Lib.hid hl
    clear hall hb hx hl
    obtain ⟨_, x0, x1⟩ := HX.out
    by_cases hlt : k < l.length
    · have hi : (k : Int) < (l.length : Int) := by omega
      obtain ⟨b, off, rfl, _, hbB, hcell⟩ := HL.out.2 (by omega)
      obtain ⟨hc1, hc2⟩ := hcell k hlt
      obtain ⟨hz1, hz2⟩ := hcell (k - 1) (by omega)
      clear hcell
      have HQ := Lib.hid (show l.getD (k - 1) (0, 0) = l.getD k (0, 0) → twB l = true from fun h => twB_yes ⟨k, by omega, hlt, h⟩)
      have HS := Lib.hid (show l.getD (k - 1) (0, 0) ≠ l.getD k (0, 0) → ∀ j, 0 < j → j < k + 1 → j < l.length → l.getD (j - 1) (0, 0) ≠ l.getD j (0, 0) from fun h j h0 hj hjl => by
        by_cases e : j = k
        · subst e; exact h
        · exact HALL.out j h0 (by omega) hjl)
      obtain ⟨x, hx⟩ : ∃ x, l.getD k (0, 0) = x := ⟨_, rfl⟩
      obtain ⟨z, hz⟩ : ∃ z, l.getD (k - 1) (0, 0) = z := ⟨_, rfl⟩
      rw [hx] at hc1 hc2 HQ HS
      rw [hz] at hz1 hz2 HQ HS
      clear hx hz HALL hk
      have htn : ((k : Int) - 1).toNat = k - 1 := by omega
      have hwr : IntKind.i64.wrap ((k : Int) - 1) = (k : Int) - 1 := IntWalk.i64_in _ (by omega)
      have hk1 : 0 ≤ (k : Int) - 1 := by omega
      have hk3 : (1 : Int) ≤ (k : Int) := by omega
      have hk2 : (k : Int) - 1 < (l.length : Int) := by omega
      by_cases he : x = z
      · have hne := neB_no he
        have HQQ := Lib.hid (HQ.out he.symm)
        clear HQ HS he
        obtain ⟨x, x'⟩ := x
        obtain ⟨z, z'⟩ := z
        go_wp2_with fail
        go_quiet (fail)
        go_wp2_with fail
        go_ret
        exact ⟨by rw [HQQ.out]; rfl, HB.out.trans (below_drewN _ _ _)⟩
      · have hne := neB_yes he
        have HSS := Lib.hid (HS.out fun h => he h.symm)
        clear HQ HS he
        obtain ⟨x, x'⟩ := x
        obtain ⟨z, z'⟩ := z
        go_wp2_with fail
        go_quiet (fail)
        go_wp2_with fail
        go_roundw
        case rel => exact ⟨k + 1, by omega, .inl (by omega), by go_num, HSS.out, HB.out.trans (below_drewN _ _ _), HX.out.kept (below_drewN _ _ _), HL.out.within (within_of (below_drewN _ _ _)) (.inr (Nat.zero_le _))⟩
        case measure => simp [intOf]; omega
    · have HQ := Lib.hid (twB_no (l := l) fun ⟨i, h0, hi, e⟩ => HALL.out i h0 (by omega) hi e)
      clear hk
      go_wp2_with fail
      go_ret
      exact ⟨by rw [HQ.out]; rfl, HB.out⟩

set_option maxHeartbeats 2000000 in
set_option maxRecDepth 100000 in
/-- The way between the ends of a bar of which both are joints of the grid. -/
theorem offOf_c (p : Int) (l m : List (Int × Int)) (A : Option Addr) (ca : Nat) (B : Option Addr) (cb : Nat) (lo hi : Nat) (a b : Nat) (w : World) (hl : FwIn w lo hi A l B m) (ha : a < m.length) (hb : b < m.length) (hga : OnG (m.getD a (0, 0))) (hgb : OnG (m.getD b (0, 0))) :
    Calls Tryd.prog 48 #[.agg #[.int .i64 p, .slice A l.length ca, .slice B m.length cb], .agg #[.int .i64 (a : Int), .int .i64 (b : Int)]] w fun e w' => e = .returned (.agg #[.int .i64 ((m.getD a (0, 0)).1 - (m.getD b (0, 0)).1), .int .i64 ((m.getD a (0, 0)).2 - (m.getD b (0, 0)).2)]) ∧ Below w.heap.size w w' := by
  have hf := FbI.new (p := p) (ca := ca) (cb := cb) hl 35
  have hs1 : (w.alloc (.cells #[.int .i64 p, .slice A l.length ca, .slice B m.length cb] 35)).heap.size = w.heap.size + 1 := by simp
  clear hl
  obtain ⟨P, hP⟩ : ∃ P, m.getD a (0, 0) = P := ⟨_, rfl⟩
  obtain ⟨Q, hQ⟩ : ∃ Q, m.getD b (0, 0) = Q := ⟨_, rfl⟩
  rw [hP] at hga ⊢
  rw [hQ] at hgb ⊢
  have HP := Lib.hid hP
  have HQ := Lib.hid hQ
  clear hP hQ
  obtain ⟨P1, P2⟩ := P
  obtain ⟨Q1, Q2⟩ := Q
  go_enter Tryd.func48, Tryd.ntmps48
  go_wp2_with fail
  generalize (w.alloc (.cells #[.int .i64 p, .slice A l.length ca, .slice B m.length cb] 35)) = w1 at *
  have hy := new_below w1 (.cells #[.int .i64 (a : Int), .int .i64 (b : Int)] 80)
  have hY := box_new w1 (a : Int) (.int .i64 (b : Int)) 80
  have hs2 : (w1.alloc (.cells #[.int .i64 (a : Int), .int .i64 (b : Int)] 80)).heap.size = w1.heap.size + 1 := by simp
  generalize (w1.alloc (.cells #[.int .i64 (a : Int), .int .i64 (b : Int)] 80)) = w2 at *
  have hz := new_below w2 (.cells #[.int .i64 0, .int .i64 0] 86)
  have hZ := box_new w2 0 (.int .i64 0) 86
  have hF : (w2.alloc (.cells #[.int .i64 0, .int .i64 0] 86)).frozen? ⟨w2.heap.size, 0, none⟩ = false ∧ (w2.alloc (.cells #[.int .i64 0, .int .i64 0] 86)).frozen? ⟨w2.heap.size, 1, none⟩ = false := ⟨World.frozen?_alloc_at _ _ _ _ rfl, World.frozen?_alloc_at _ _ _ _ rfl⟩
  generalize (w2.alloc (.cells #[.int .i64 0, .int .i64 0] 86)) = w3 at *
  have hY3 := hY.kept hz
  have hf3 := (hf.below hy).below hz
  rw [hs2, hs1] at hZ hF
  rw [hs1] at hY3
  have hdr : Below w3.heap.size w3 w3.drew := (Below.refl _ _).drew
  obtain ⟨blk, off, rfl, hblk, hcell⟩ := hf3.place ha
  obtain ⟨p1, p2⟩ := hcell a ha
  obtain ⟨q1, q2⟩ := hcell b hb
  have hai : (a : Int) < (m.length : Int) := by omega
  have hbi : (b : Int) < (m.length : Int) := by omega
  obtain ⟨_, x0, x1, x2⟩ := hf3.x
  obtain ⟨_, y0, y1⟩ := hY3
  have HFD := Lib.hid (hf3.below hdr)
  have HZD := Lib.hid (hZ.kept hdr)
  have HFR := Lib.hid (show w3.drew.frozen? ⟨w.heap.size + 1 + 1, 0, none⟩ = false ∧ w3.drew.frozen? ⟨w.heap.size + 1 + 1, 1, none⟩ = false from hF)
  clear hf hf3 hy hz hY hZ hF hdr hcell hs1 hs2
  rw [HP.out] at p1 p2
  rw [HQ.out] at q1 q2
  go_still_tail 12, (by kernel_rfl)
  change wpList _ _ _ _ _ w3.drew
  go_wp2_with fail
  refine (minus_c (P1, P2) (Q1, Q2) _ hga hgb).mono ?_
  rintro e w4 ⟨rfl, hb4⟩
  obtain ⟨_, z0, z1⟩ := HZD.out.kept hb4
  have f0 := (hb4.frozen (p := ⟨w.heap.size + 1 + 1, 0, none⟩) HZD.out.1).trans HFR.out.1
  have f1 := (hb4.frozen (p := ⟨w.heap.size + 1 + 1, 1, none⟩) HZD.out.1).trans HFR.out.2
  have HB4 := Lib.hid (HFD.out.below hb4).b
  have HZZ := Lib.hid (And.intro z0 z1)
  clear hb4
  go_wp2_with fail
  obtain ⟨s0, s1⟩ := ret_cells (p := P1 - Q1) (v := .int .i64 (P2 - Q2)) HZZ.out.1 HZZ.out.2
  have hW := (within_set w4 (w.heap.size + 1 + 1) 0 (.int .i64 (P1 - Q1))).trans (within_set _ (w.heap.size + 1 + 1) 1 (.int .i64 (P2 - Q2)))
  refine bodyPost_ret (v := .agg #[.int .i64 (P1 - Q1), .int .i64 (P2 - Q2)]) ?_ rfl ⟨rfl, within_on HB4.out hW HB4.out.size (.inl (by omega))⟩
  simp [results, Tryd.results48, go_sem, s0, s1]

/-- What the program's walk over a framework carries: the framework's box and its graph's. -/
structure FcI (w wr : World) (lo hi : Nat) (p : Int) (A : Option Addr) (ca : Nat) (l : List (Int × Int)) (B : Option Addr) (cb : Nat) (m : List (Int × Int)) : Prop where
  f : FbI w wr lo hi p A ca l B cb m
  g : Box wr (w.heap.size + 1) p (.slice A l.length ca)
theorem FcI.below {w a b : World} {lo hi : Nat} {p : Int} {A B : Option Addr} {ca cb : Nat} {l m : List (Int × Int)} (h : FcI w a lo hi p A ca l B cb m) (hb : Below a.heap.size a b) : FcI w b lo hi p A ca l B cb m :=
  ⟨h.f.below hb, h.g.kept hb⟩

set_option maxHeartbeats 4000000 in
set_option maxRecDepth 100000 in
theorem implIsF (p : Int) (l m : List (Int × Int)) (A : Option Addr) (ca : Nat) (B : Option Addr) (cb : Nat) (lo hi : Nat) (w : World) (hl : FwIn w lo hi A l B m) (hn : l.length + m.length ≤ 1048576) :
    Calls Tryd.prog 21 #[.agg #[.int .i64 p, .slice A l.length ca, .slice B m.length cb]] w fun e w' => e = .returned (.bool (isFB p l m)) ∧ Below w.heap.size w w' := by
  have hf := FbI.new (p := p) (ca := ca) (cb := cb) hl 35
  have hs1 : (w.alloc (.cells #[.int .i64 p, .slice A l.length ca, .slice B m.length cb] 35)).heap.size = w.heap.size + 1 := by simp
  have hy := new_below (w.alloc (.cells #[.int .i64 p, .slice A l.length ca, .slice B m.length cb] 35)) (.cells #[.int .i64 p, .slice A l.length ca] 32)
  have hY := box_new (w.alloc (.cells #[.int .i64 p, .slice A l.length ca, .slice B m.length cb] 35)) p (.slice A l.length ca) 32
  rw [hs1] at hY
  have HF := Lib.hid (show FcI w _ lo hi p A ca l B cb m from ⟨hf.below hy, hY⟩)
  clear hl hf hy hY hs1
  have HC := Lib.hid fun (W : World) (h : BarsAt W W.heap.size A l) => implIsGraph p l A ca W h (by omega)
  have HT := Lib.hid fun (W : World) (h : BarsAt W W.heap.size A l) => twice_c p l A ca W h (by omega)
  go_enter Tryd.func21, Tryd.ntmps21
  go_wp2_with fail
  generalize ((w.alloc (.cells #[.int .i64 p, .slice A l.length ca, .slice B m.length cb] 35)).alloc (.cells #[.int .i64 p, .slice A l.length ca] 32)) = w1 at *
  by_cases hg : isGB p l = true
  · have hgg : IsG p l := Classical.byContradiction fun h => by rw [isGB_no h] at hg; cases hg
    have HGG := Lib.hid hgg
    have hp1 := hgg.1.1
    have hp8 := hgg.1.2
    rw [hg] at HC
    clear hgg hg
    refine (HC.out _ HF.out.f.f.b.at).mono ?_
    rintro e w2 ⟨rfl, hb⟩
    have HF2 := Lib.hid (HF.out.below hb)
    obtain ⟨_, x0, x1⟩ := HF2.out.g
    clear hb HF HC
    by_cases h6 : p ≤ 6
    · by_cases h15 : l.length ≤ 15
      · go_wp2_with fail
        clear x0 x1
        by_cases ht : Twice l
        · have HQ := Lib.hid (isFB_no (p := p) (l := l) (m := m) fun h => by
            obtain ⟨i, h0, hi, e⟩ := ht
            exact (h.ok i hi).2 h0 e)
          rw [twB_yes ht] at HT
          clear ht
          refine (HT.out _ HF2.out.f.f.b.at).mono ?_
          rintro e w3 ⟨rfl, hb⟩
          have HF3 := Lib.hid (HF2.out.below hb)
          clear hb
          go_wp2_with fail
          go_ret
          exact ⟨by rw [HQ.out]; rfl, HF3.out.f.b⟩
        · have HTW := Lib.hid ht
          rw [twB_no ht] at HT
          clear ht
          refine (HT.out _ HF2.out.f.f.b.at).mono ?_
          rintro e w3 ⟨rfl, hb⟩
          have HF3 := Lib.hid (HF2.out.below hb)
          obtain ⟨_, x0, x1, x2⟩ := HF3.out.f.x
          obtain ⟨_, y0, y1⟩ := HF3.out.g
          clear hb HF2 HT
          by_cases hm : (m.length : Int) = p
          · have hmp : ((m.length : Int) != p) = false := by simpa using hm
            have HM := Lib.hid hm
            have hm6 : m.length ≤ 6 := by omega
            clear hm
            go_wp2_with fail
            clear x0 x1 x2 y0 y1
            go_loopw [37] (fun i wr => ∃ k : Nat, k ≤ m.length ∧ i = .int .i64 k ∧ (∀ j, j < k → OnG (m.getD j (0, 0))) ∧ FcI w wr lo hi p A ca l B cb m) (fun i _ => m.length - (intOf i).toNat)
            case atStart => exact ⟨0, by omega, rfl, fun j hj => absurd hj (by omega), HF3.out⟩
            case round =>
              clear HF3
              obtain ⟨k, hk, rfl, hok, hf⟩ := hrel
              have HK := Lib.hid hok
              have HF := Lib.hid hf
              clear hok hf
              by_cases hlt : k < m.length
              · have hi : (k : Int) < (m.length : Int) := by omega
                obtain ⟨b, off, rfl, hbB, hcell⟩ := HF.out.f.place hlt
                obtain ⟨hc1, hc2⟩ := hcell k hlt
                clear hcell
                have HS := Lib.hid (show OnG (m.getD k (0, 0)) → ∀ j, j < k + 1 → OnG (m.getD j (0, 0)) from fun h j hj => by
                  by_cases e : j = k
                  · subst e; exact h
                  · exact HK.out j (by omega))
                have HQ := Lib.hid (show ¬ OnG (m.getD k (0, 0)) → isFB p l m = false from fun h => isFB_no fun hF => h (hF.grid k hlt))
                obtain ⟨x, hx⟩ : ∃ x, m.getD k (0, 0) = x := ⟨_, rfl⟩
                rw [hx] at hc1 hc2 HS HQ
                clear hx HK
                go_wp2_with fail
                have hal := new_below wr (.cells #[.int .i64 x.1, .int .i64 x.2] 49)
                have HF1 := Lib.hid (HF.out.below hal)
                clear hal hc1 hc2
                generalize (wr.alloc (.cells #[.int .i64 x.1, .int .i64 x.2] 49)) = w4 at *
                by_cases ho : OnG x
                · have HO := Lib.hid (HS.out ho)
                  have hoc := onGrid_c x w4
                  rw [decide_eq_true ho] at hoc
                  clear ho HS HQ
                  refine hoc.mono ?_
                  clear hoc
                  rintro e w5 ⟨rfl, hb⟩
                  have HF5 := Lib.hid (HF1.out.below hb)
                  clear hb
                  go_wp2_with fail
                  go_roundw
                  case rel => exact ⟨k + 1, by omega, by go_num, HO.out, HF5.out⟩
                  case measure => simp [intOf]; omega
                · have HQQ := Lib.hid (HQ.out ho)
                  have hoc := onGrid_c x w4
                  rw [decide_eq_false ho] at hoc
                  clear ho HS HQ
                  refine hoc.mono ?_
                  clear hoc
                  rintro e w5 ⟨rfl, hb⟩
                  have HF5 := Lib.hid (HF1.out.below hb)
                  clear hb
                  go_wp2_with fail
                  go_ret
                  exact ⟨by rw [HQQ.out]; rfl, HF5.out.f.b⟩
              · obtain rfl : k = m.length := by omega
                have HGR := Lib.hid HK.out
                obtain ⟨_, y0, y1⟩ := HF.out.g
                clear HK
                go_wp2_with fail
                clear y0 y1
                go_loopw [48] (fun i wr => ∃ k : Nat, k ≤ l.length ∧ i = .int .i64 k ∧ (∀ j, j < k → plc m (l.getD j (0, 0)).1 ≠ plc m (l.getD j (0, 0)).2) ∧ FcI w wr lo hi p A ca l B cb m) (fun i _ => l.length - (intOf i).toNat)
                case atStart => exact ⟨0, by omega, rfl, fun j hj => absurd hj (by omega), HF.out⟩
                case round =>
                  clear HF
                  obtain ⟨k, hk, rfl, hok, hf⟩ := hrel
                  have HK := Lib.hid hok
                  have HF := Lib.hid hf
                  clear hok hf
                  by_cases hlt : k < l.length
                  · have hki : (k : Int) < (l.length : Int) := by omega
                    obtain ⟨ba, oa, rfl, hba, hca⟩ := HF.out.f.bar hlt
                    have hend := HGG.out.2.2 k hlt
                    have HS := Lib.hid (show plc m (l.getD k (0, 0)).1 ≠ plc m (l.getD k (0, 0)).2 → ∀ j, j < k + 1 → plc m (l.getD j (0, 0)).1 ≠ plc m (l.getD j (0, 0)).2 from fun h j hj => by
                      by_cases e : j = k
                      · subst e; exact h
                      · exact HK.out j (by omega))
                    have HQ := Lib.hid (show plc m (l.getD k (0, 0)).1 = plc m (l.getD k (0, 0)).2 → isFB p l m = false from fun h => isFB_no fun hF => (hF.ok k hlt).1 h)
                    unfold plc at HS HQ
                    obtain ⟨hb1, hb2⟩ := hca k hlt
                    obtain ⟨e1, e2, e3, _⟩ := hend
                    obtain ⟨x, hx⟩ : ∃ x, l.getD k (0, 0) = x := ⟨_, rfl⟩
                    rw [hx] at hb1 hb2 e1 e2 e3 HS HQ
                    clear hx hca HK
                    obtain ⟨xa, xb⟩ := x
                    obtain ⟨a, rfl⟩ : ∃ a : Nat, xa = a := ⟨xa.toNat, by simp only at e1; omega⟩
                    obtain ⟨b, rfl⟩ : ∃ b : Nat, xb = b := ⟨xb.toNat, by simp only at e1 e2; omega⟩
                    simp only [Int.toNat_natCast] at e1 e2 e3 hb1 hb2 HS HQ
                    have ha : a < m.length := by have := HM.out; omega
                    have hb' : b < m.length := by have := HM.out; omega
                    have hga := HGR.out a ha
                    have hgb := HGR.out b hb'
                    have HOF := Lib.hid fun (W : World) (h : FwIn W lo hi (some ⟨ba, oa, none⟩) l B m) => offOf_c p l m (some ⟨ba, oa, none⟩) ca B cb lo hi a b W h ha hb' hga hgb
                    clear hga hgb ha hb' e1 e2 e3
                    obtain ⟨P, hP⟩ : ∃ P, m.getD a (0, 0) = P := ⟨_, rfl⟩
                    obtain ⟨Q, hQ⟩ : ∃ Q, m.getD b (0, 0) = Q := ⟨_, rfl⟩
                    rw [hP, hQ] at HS HQ HOF
                    clear hP hQ
                    obtain ⟨_, x0, x1, x2⟩ := HF.out.f.x
                    go_wp2_with fail
                    clear x0 x1 x2 hb1 hb2
                    have hal := new_below wr (.cells #[.int .i64 (a : Int), .int .i64 (b : Int)] 80)
                    have HF1 := Lib.hid (HF.out.below hal)
                    clear hal HF
                    generalize (wr.alloc (.cells #[.int .i64 (a : Int), .int .i64 (b : Int)] 80)) = w4 at *
                    refine (HOF.out _ HF1.out.f.f).mono ?_
                    rintro e w5 ⟨rfl, hb⟩
                    have HF5 := Lib.hid (HF1.out.below hb)
                    clear hb HF1 HOF
                    obtain ⟨P1, P2⟩ := P
                    obtain ⟨Q1, Q2⟩ := Q
                    by_cases he : ((P1, P2) : Int × Int) = (Q1, Q2)
                    · have HQQ := Lib.hid (HQ.out he)
                      have hne : neB (P1 - Q1) (P2 - Q2) 0 0 = false := by
                        have h1 := congrArg Prod.fst he
                        have h2 := congrArg Prod.snd he
                        simp only at h1 h2
                        exact neB_no (a := (P1 - Q1, P2 - Q2)) (b := (0, 0)) (by rw [Prod.mk.injEq]; omega)
                      clear he HS HQ
                      go_wp2_with fail
                      go_ret
                      exact ⟨by rw [HQQ.out]; rfl, HF5.out.f.b⟩
                    · have HSS := Lib.hid (HS.out he)
                      have hne : neB (P1 - Q1) (P2 - Q2) 0 0 = true :=
                        neB_yes (a := (P1 - Q1, P2 - Q2)) (b := (0, 0)) (by
                          intro h
                          apply he
                          rw [Prod.mk.injEq] at h ⊢
                          omega)
                      clear he HS HQ
                      go_wp2_with fail
                      go_roundw
                      case rel => exact ⟨k + 1, by omega, by go_num, HSS.out, HF5.out⟩
                      case measure => simp [intOf]; omega
                  · obtain rfl : k = l.length := by omega
                    have HQ := Lib.hid (isFB_yes (p := p) (l := l) (m := m) ⟨HGG.out, h6, HM.out, h15, HGR.out, fun i hi => ⟨HK.out i hi, fun h0 e => HTW.out ⟨i, h0, hi, e⟩⟩⟩)
                    go_wp2_with fail
                    go_ret
                    exact ⟨by rw [HQ.out]; rfl, HF.out.f.b⟩
          · have hmp : ((m.length : Int) != p) = true := by simpa using hm
            have HQ := Lib.hid (isFB_no (p := p) (l := l) (m := m) fun h => hm h.len)
            clear hm
            go_wp2_with fail
            go_ret
            exact ⟨by rw [HQ.out]; rfl, HF3.out.f.b⟩
      · have h15' : (15 : Int) < (l.length : Int) := by omega
        have HQ := Lib.hid (isFB_no (p := p) (l := l) (m := m) fun h => h15 h.bars)
        go_wp2_with fail
        go_ret
        exact ⟨by rw [HQ.out]; rfl, HF2.out.f.b⟩
    · have h6' : 6 < p := by omega
      have HQ := Lib.hid (isFB_no (p := p) (l := l) (m := m) fun h => h6 h.six)
      go_wp2_with fail
      go_ret
      exact ⟨by rw [HQ.out]; rfl, HF2.out.f.b⟩
  · have hgf : isGB p l = false := by simpa using hg
    rw [hgf] at HC
    have HQ := Lib.hid (isFB_no (p := p) (l := l) (m := m) fun h => hg (isGB_yes h.g))
    clear hg
    refine (HC.out _ HF.out.f.f.b.at).mono ?_
    rintro e w2 ⟨rfl, hb⟩
    have HF2 := Lib.hid (HF.out.below hb)
    clear hb
    go_wp2_with fail
    go_ret
    exact ⟨by rw [HQ.out]; rfl, HF2.out.f.b⟩
end Go.Proofs.YtehendofgcebcaaDoor
