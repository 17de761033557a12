/- Rows of places compared and copied: slices.Equal and slices.Clone at places. No condition. -/
import Derived.Test.YtehendofgcebcaaEqual
import Derived.Test.YtehendofgcebcaaCopyS
import Derived.Test.YtehendofgcebcaaPlc
namespace Go.Proofs.Ytehendofgcebcaa
open Go.RowKit

theorem neqPl (x y u v : Int) (w : World) : (binOp .neq 76 (.agg #[.int .i64 x, .int .i64 y]) (.agg #[.int .i64 u, .int .i64 v])).run Try.prog w = .ok (.bool (neB x y u v)) w := by
  have u3 := Try.underlying3
  have a3 := Try.isAgg3
  have z3 := Try.sizeOf3
  have hS : Try.prog.underlying 76 = some (.struct (Try.prog.fieldsOf 76)) := by kernel_rfl
  have hp : Try.prog.stoodInHeld 76 = false := by kernel_rfl
  rw [run_neq_struct, show (10000 : Nat) = 9999 + 1 from rfl, run_equalIn_agg w 9999 76 _ _ hS hp]
  simp only [Program.fieldsOf, Try.underlying76]
  go_simp
  unfold neB
  by_cases h1 : x = u <;> by_cases h2 : y = v <;> simp [h1, h2]
theorem guardPl (op : BinOp) (a b : Operand) (x y u v : Int) (w : World) : (eqGuard op 76 a b (.agg #[.int .i64 x, .int .i64 y]) (.agg #[.int .i64 u, .int .i64 v])).run Try.prog w = .ok () w :=
  run_eqGuard_agg w op 76 a b _ _ (by kernel_rfl)
attribute [local go_sem ↓] neqPl guardPl
set_option maxHeartbeats 1000000 in
set_option maxRecDepth 100000 in
theorem slEqualP (l m : List (Int × Int)) (A A' : Option Addr) (cap cap' : Nat) (w : World) (hl : BarsAt w w.heap.size A l) (hm : BarsAt w w.heap.size A' m) (hn : l.length ≤ 1048576)  :
    Calls Try.prog 122 #[.slice A l.length cap, .slice A' m.length cap'] w fun e w' => e = .returned (.bool (sameL l m)) ∧ Below w.heap.size w w' := by
  have HL := Lib.hid hl
  have HM := Lib.hid hm
  clear hl hm
  by_cases hlen : l.length = m.length
  · have HE := Lib.hid (list_eq l m hlen)
    obtain ⟨n, e1⟩ : ∃ n, n = l.length := ⟨_, rfl⟩
    have e2 : n = m.length := by omega
    rw [← e1, ← e2]
    rw [← e1] at hn
    have E1 := Lib.hid e1
    have E2 := Lib.hid e2
    clear hlen e1 e2
    go_enter Try.func122, Try.ntmps122
    go_wp2_with fail
    go_loopw [13] (fun i wr => ∃ k : Nat, k ≤ n ∧ i = .int .i64 k ∧ (∀ j, j < k → l.getD j (0, 0) = m.getD j (0, 0)) ∧ Below w.heap.size w wr) (fun i _ => n - (intOf i).toNat)
    case atStart => exact ⟨0, by omega, rfl, fun j hj => absurd hj (by omega), Below.refl _ _⟩
    case round =>
      obtain ⟨k, hk, rfl, hall, hb⟩ := hrel
      have HB := Lib.hid hb
      have HALL := Lib.hid hall
      have hbs := hb.size
      clear hb hall
      by_cases hlt : k < n
      · have hi : (k : Int) < (n : Int) := by omega
        obtain ⟨b, off, rfl, hbB, hcell⟩ := HL.out (by have := E1.out; omega)
        obtain ⟨b', off', rfl, hbB', hcell'⟩ := HM.out (by have := E2.out; omega)
        have hc1 := (HB.out.cell (p := ⟨b, off + k * 2, none⟩) hbB).trans (hcell k (by have := E1.out; omega)).1
        have hc2 := (HB.out.cell (p := ⟨b, off + k * 2 + 1, none⟩) hbB).trans (hcell k (by have := E1.out; omega)).2
        have hc3 := (HB.out.cell (p := ⟨b', off' + k * 2, none⟩) hbB').trans (hcell' k (by have := E2.out; omega)).1
        have hc4 := (HB.out.cell (p := ⟨b', off' + k * 2 + 1, none⟩) hbB').trans (hcell' k (by have := E2.out; omega)).2
        clear hcell hcell'
        have HN := Lib.hid (fun h : l = m => (by rw [h] : l.getD k (0, 0) = m.getD k (0, 0)))
        have HS := Lib.hid (fun (h : l.getD k (0, 0) = m.getD k (0, 0)) (j : Nat) (hj : j < k + 1) => (if e : j = k then by rw [e]; exact h else HALL.out j (by omega) : l.getD j (0, 0) = m.getD j (0, 0)))
        obtain ⟨x, hx⟩ : ∃ x, l.getD k (0, 0) = x := ⟨_, rfl⟩
        obtain ⟨y, hy⟩ : ∃ y, m.getD k (0, 0) = y := ⟨_, rfl⟩
        rw [hx] at hc1 hc2
        rw [hy] at hc3 hc4
        by_cases he : x = y
        · have hne := neB_no he
          have HSS := Lib.hid (HS.out (by rw [hx, hy, he]))
          clear HN HS hx hy he
          obtain ⟨x, x'⟩ := x
          obtain ⟨y, y'⟩ := y
          go_wp2_with fail
          go_quiet (fail)
          go_wp2_with fail
          go_roundw
          case rel => exact ⟨k + 1, by omega, by go_num, HSS.out, HB.out.trans (below_drewN _ _ _)⟩
          case measure => simp [intOf]; omega
        · have hne := neB_yes he
          have HNN := Lib.hid (sameL_no (fun h : l = m => he (by rw [← hx, ← hy]; exact HN.out h)))
          clear HN HS hx hy he
          obtain ⟨x, x'⟩ := x
          obtain ⟨y, y'⟩ := y
          go_wp2_with fail
          go_quiet (fail)
          go_wp2_with fail
          go_ret
          exact ⟨by rw [HNN.out]; rfl, HB.out.trans (below_drewN _ _ _)⟩
      · obtain rfl : k = n := by omega
        have HY := Lib.hid (sameL_yes (HE.out fun j hj => HALL.out j (by have := E1.out; omega)))
        go_wp2_with fail
        go_ret
        exact ⟨by rw [HY.out]; rfl, HB.out⟩
  · have HNN := Lib.hid (sameL_no (fun h : l = m => hlen (by rw [h])))
    have hne : ¬ ((l.length : Int) = (m.length : Int)) := by omega
    go_enter Try.func122, Try.ntmps122
    go_wp2_with fail
    go_ret
    exact ⟨by rw [HNN.out]; rfl, Below.refl _ _⟩

/-- A row of bars of the call's own. -/
def RowP (w : World) (l : List (Int × Int)) (e : Ending) (w' : World) : Prop :=
  ∃ A2 c2, e = .returned (.slice A2 l.length c2) ∧ w'.ownsRow w.heap.size 76 2 (.slice A2 l.length c2) l.length (barCells l) ∧ Below w.heap.size w w'

set_option maxHeartbeats 2000000 in
set_option maxRecDepth 100000 in
theorem slCloneP (l : List (Int × Int)) (A : Option Addr) (cap : Nat) (w : World) (hl : BarsAt w w.heap.size A l) (hn : l.length ≤ 1048576) :
    Calls Try.prog 150 #[.slice A l.length cap] w (RowP w l) := by
  obtain ⟨i0, hi0, hz0, hz1, hz2⟩ := info_parts infoPlace
  have q : ∀ (w : World) (a : Option Addr) (n c n' c' : Nat), (binOp .eql 61 (.slice a n c) (.slice none n' c')).run Try.prog w = .ok (.bool a.isNone) w := fun w a n c n' c' => Go.Lib.run_eql_slice_nil w _ _ a n c n' c' Try.underlying61
  have hm := World.ownsRow_made (base := w.heap.size) (e := 76) (size := 2) w #[] 0 (Nat.le_refl _) (by unfold maxLen; omega) (by simp)
  have HM := Lib.hid hm
  clear hm
  cases A with
  | none =>
    have h0 : l = [] := by
      refine List.eq_nil_of_length_eq_zero (Nat.eq_zero_of_not_pos fun h => ?_)
      obtain ⟨b, off, e, _⟩ := hl h
      cases e
    subst h0
    clear hl
    go_enter Try.func150, Try.ntmps150
    go_wp2_with fail
    go_ret
    exact ⟨none, 0, rfl, ⟨rfl, .inl ⟨rfl, rfl⟩⟩, Below.refl _ _⟩
  | some a =>
    have HC := Lib.hid (show ∀ j u, (barCells l)[j]? = some u → (w.alloc (.cells #[] 76)).cell? (a.add j) = some u from fun j u hj => by
      have hlt : j < l.length * 2 := by
        have := (List.getElem?_eq_some_iff.1 hj).1
        rwa [barCells_len] at this
      obtain ⟨b, off, e, hb, hc⟩ := hl (by omega)
      cases e
      have hadd : (⟨b, off, none⟩ : Addr).add j = ⟨b, off + j, none⟩ := by unfold Addr.add; split <;> simp_all
      rw [hadd, World.cell?_alloc_past (w := w) _ b _ hb]
      exact barCells_at hc j u hj)
    clear hl
    go_enter Try.func150, Try.ntmps150
    go_wp2_with (at_builtin; refine wpList_append_own _ rfl _ _ 61 rfl w.heap.size 76 i0 _ 2 16 Try.underlying61 hi0 hz0 hz1 hz2 rfl (by omega) _ 0 [] rfl HM.out a l.length cap (barCells l) rfl (barCells_len l) HC.out (barCells_one l) (by unfold maxLen; omega) (by omega) (by simp) ?_; intro v' w' ho hg hnil; rw [Nat.zero_add, List.nil_append] at ho; obtain ⟨A2, c2, rfl⟩ := own_shape ho; have HO := Lib.hid ho; have HG := Lib.hid (show Below w.heap.size w w' from (new_below w _).grown hg (by simp) (fun k hk => by cases hk; exact Nat.le_refl _)); clear ho hg hnil)
    go_ret
    exact ⟨A2, c2, rfl, HO.out, HG.out⟩
end Go.Proofs.Ytehendofgcebcaa
