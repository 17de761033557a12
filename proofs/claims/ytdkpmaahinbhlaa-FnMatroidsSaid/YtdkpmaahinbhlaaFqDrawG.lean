/- A graph that is drawn bar by bar in a box, by a cursor: what stands meanwhile; what spec.l2Simple answers. No condition. -/
import Derived.Test.YtdkpmaahinbhlaaFqAddW
import Derived.Test.YtdkpmaahinbhlaaFqB1
namespace Go.Proofs.Ytdkpmaahinbhlaa
open Go.RowKit

/-- The answer's variable stands as it was laid. -/
def RetZ (W : World) (r : Nat) : Prop :=
  (W.cell? ⟨r, 0, none⟩ = some (.int .i64 0) ∧ W.cell? ⟨r, 1, none⟩ = some (.slice none 0 0)) ∧ W.frozen? ⟨r, 0, none⟩ = false ∧ W.frozen? ⟨r, 1, none⟩ = false
theorem RetZ.block {W W' : World} {r : Nat} (h : RetZ W r) (hb : W'.heap[r]? = W.heap[r]?) : RetZ W' r :=
  ⟨⟨(World.cell?_of_block (a := ⟨r, 0, none⟩) hb).trans h.1.1, (World.cell?_of_block (a := ⟨r, 1, none⟩) hb).trans h.1.2⟩, (World.frozen?_of_block (a := ⟨r, 0, none⟩) hb).trans h.2.1, (World.frozen?_of_block (a := ⟨r, 1, none⟩) hb).trans h.2.2⟩
theorem retz_new (w : World) : RetZ (w.alloc (.cells #[.int .i64 0, .slice none 0 0] 26)) w.heap.size := by
  have h := box_new w 0 (.slice none 0 0) 26
  exact ⟨⟨h.2.1, h.2.2⟩, World.frozen?_alloc_at _ _ _ _ rfl, World.frozen?_alloc_at _ _ _ _ rfl⟩
theorem GBox.self {B : Nat} {w0 wr : World} {bg : Nat} {os : List Nat} {p : Int} {A : Option Addr} {c : Nat} {l : List (Int × Int)} (h : GBox B w0 wr bg os p A c l) : GBox B wr wr bg os p A c l :=
  ⟨h.1, h.2.1, h.2.2.1, h.2.2.2.1, fun o ho => ⟨(h.2.2.2.2.1 o ho).1, rfl, (h.2.2.2.2.1 o ho).2.2⟩, Below.refl _ _, h.2.2.2.2.2.2⟩

/-- The graph stands in the box bg, the answer's variable is r, the cursor g. -/
structure DG (w wr : World) (B g bg r : Nat) (A0 : Option Addr) (len cap0 : Nat) (p : Int) (a c : Nat) (l : List (Int × Int)) : Prop where
  gb : GBox w.heap.size wr wr bg [r] p (some ⟨a, 0, none⟩) c l
  f0 : wr.frozen? ⟨bg, 0, none⟩ = false
  rz : RetZ wr r
  cu : CurIs wr B g A0 len cap0
  gr : w.grownBy wr (some g)
  hr : w.heap.size ≤ r
  hg : g < w.heap.size
section
variable {w wr w' : World} {B g bg r : Nat} {A0 : Option Addr} {len cap0 : Nat} {p : Int} {a c : Nat} {l : List (Int × Int)}
theorem DG.lo (h : DG w wr B g bg r A0 len cap0 p a c l) : w.heap.size ≤ bg ∧ bg < wr.heap.size ∧ w.heap.size ≤ a ∧ a < wr.heap.size ∧ r < wr.heap.size ∧ w.heap.size ≤ wr.heap.size ∧ r ≠ bg ∧ a ≠ bg ∧ a ≠ r := by
  have h1 := h.gb.2.2.2.1.lt a rfl
  have h2 := h.gb.2.2.2.2.1 r (by simp)
  have h3 := h.gb.2.2.1 ⟨a, 0, none⟩ rfl
  exact ⟨h.gb.2.2.2.2.2.2, h.gb.1.1, h1.1, h1.2, h2.1, h.gr.size, h2.2.2, h3.2, by simpa using h3.1⟩
/-- A draw. -/
theorem DG.drawn (h : DG w wr B g bg r A0 len cap0 p a c l) (hc : CurIs w' B g A0 len cap0) (hg2 : wr.grownBy w' (some g)) : DG w w' B g bg r A0 len cap0 p a c l := by
  have lo := h.lo
  have hlt := h.hg
  have hb := hg2.block bg lo.2.1 (by simp; omega)
  refine ⟨⟨⟨Nat.lt_of_lt_of_le lo.2.1 hg2.size, (World.cell?_of_block (a := ⟨bg, 0, none⟩) hb).trans h.gb.1.2.1, (World.cell?_of_block (a := ⟨bg, 1, none⟩) hb).trans h.gb.1.2.2⟩, (World.frozen?_of_block (a := ⟨bg, 1, none⟩) hb).trans h.gb.2.1, h.gb.2.2.1, h.gb.2.2.2.1.kept hg2 (.inr (by simp [Value.ownBlock]; omega)), fun o ho => ?_, Below.refl _ _, h.gb.2.2.2.2.2.2⟩, (World.frozen?_of_block (a := ⟨bg, 0, none⟩) hb).trans h.f0, h.rz.block (hg2.block r lo.2.2.2.2.1 (by have := h.hr; simp; omega)), hc, h.gr.trans_ hg2, h.hr, h.hg⟩
  have := h.gb.2.2.2.2.1 o ho
  exact ⟨Nat.lt_of_lt_of_le this.1 hg2.size, rfl, this.2.2⟩
/-- New blocks. -/
theorem DG.below (h : DG w wr B g bg r A0 len cap0 p a c l) (hb : Below wr.heap.size wr w') : DG w w' B g bg r A0 len cap0 p a c l := by
  have lo := h.lo
  exact ⟨(h.gb.below hb).self, (hb.frozen (p := ⟨bg, 0, none⟩) lo.2.1).trans h.f0, h.rz.block (hb.block r lo.2.2.2.2.1), h.cu.below hb (by have := h.hg; omega), grown_then_below h.gr (hb.mono lo.2.2.2.2.2.1), h.hr, h.hg⟩
/-- A bar. -/
theorem DG.push (h : DG w wr B g bg r A0 len cap0 p a c l) {v' : Value} (x : Int × Int)
    (ho : w'.ownsRow w.heap.size 108 2 v' (l.length + 1) (barCells l ++ [.int .i64 x.1, .int .i64 x.2])) (hg : wr.grownBy w' (Value.slice (some ⟨a, 0, none⟩) l.length c).ownBlock)
    (hat : v'.ownBlock = (Value.slice (some ⟨a, 0, none⟩) l.length c).ownBlock ∨ v'.ownBlock = some (wr.heap.size + 1)) :
    w'.cell? ⟨bg, 0, none⟩ = some (.int .i64 p) ∧ w'.cell? ⟨bg, 1, none⟩ = some (.slice (some ⟨a, 0, none⟩) l.length c) ∧ w'.frozen? ⟨bg, 1, none⟩ = false ∧ ∃ a2 c2, v' = .slice (some ⟨a2, 0, none⟩) (l.length + 1) c2 ∧ DG w (w'.setCell ⟨bg, 1, none⟩ v') B g bg r A0 len cap0 p a2 c2 (l ++ [x]) := by
  have lo := h.lo
  obtain ⟨k0, k1, k2, A2, c2, rfl, hG⟩ := h.gb.push x ho hg hat
  obtain ⟨a2, c3, e⟩ := own_pos ho (by omega)
  obtain ⟨rfl, rfl⟩ : A2 = some ⟨a2, 0, none⟩ ∧ c2 = c3 := by injection e with e1 _ e2; exact ⟨e1, e2⟩
  have hbl := hG.2.2.2.2.2.1
  have hr' := hG.2.2.2.2.1 r (by simp)
  refine ⟨k0, k1, k2, a2, c2, rfl, hG.self, ?_, h.rz.block hr'.2.1, h.cu.below hbl h.hg, grown_then_below h.gr hbl, h.hr, h.hg⟩
  rw [World.frozen?_setCell]
  exact (World.frozen?_of_block (a := ⟨bg, 0, none⟩) (hg.block bg lo.2.1 (by simp [Value.ownBlock]; omega))).trans h.f0
end

/-- A graph is drawn: P holds of it; it is a row of the call's own; beside the cursor nothing older is written. -/
def DrawG (w : World) (B g : Nat) (A0 : Option Addr) (len cap0 : Nat) (P : Int → List (Int × Int) → Prop) (e : Ending) (w' : World) : Prop :=
  ∃ p a c l, P p l ∧ e = .returned (.agg #[.int .i64 p, .slice (some ⟨a, 0, none⟩) l.length c]) ∧ w'.ownsRow w.heap.size 108 2 (.slice (some ⟨a, 0, none⟩) l.length c) l.length (barCells l) ∧ CurIs w' B g A0 len cap0 ∧ w.grownBy w' (some g)
/-- The answer's variable is written. -/
theorem DG.ret {w wr : World} {B g bg r : Nat} {A0 : Option Addr} {len cap0 : Nat} {p : Int} {a c : Nat} {l : List (Int × Int)} (h : DG w wr B g bg r A0 len cap0 p a c l) {P : Int → List (Int × Int) → Prop} (hP : P p l) (u v : Value) :
    DrawG w B g A0 len cap0 P (.returned (.agg #[.int .i64 p, .slice (some ⟨a, 0, none⟩) l.length c])) ((wr.setCell ⟨r, 0, none⟩ u).setCell ⟨r, 1, none⟩ v) := by
  obtain ⟨q1, q2⟩ := h.gb.retW (o := r) (by simp) h.hr u v
  exact ⟨p, a, c, l, hP, rfl, q1, h.cu.below q2 h.hg, grown_then_below h.gr q2⟩
/-- The bars' ends are small. -/
def SmallB (l : List (Int × Int)) : Prop := ∀ y ∈ l, (0 ≤ y.1 ∧ y.1 ≤ 8) ∧ 0 ≤ y.2 ∧ y.2 ≤ 8
theorem SmallB.snoc {l : List (Int × Int)} (h : SmallB l) {x : Int × Int} (hx : (0 ≤ x.1 ∧ x.1 ≤ 8) ∧ 0 ≤ x.2 ∧ x.2 ≤ 8) : SmallB (l ++ [x]) := fun y hy => by
  rcases List.mem_append.1 hy with hy | hy
  · exact h y hy
  · obtain rfl : y = x := by simpa using hy
    exact hx
theorem SmallB.nil : SmallB [] := fun y hy => by cases hy
theorem SmallB.wf {l : List (Int × Int)} (h : SmallB l) : WfB l := fun k hk => by
  have hm : l.getD k (0, 0) ∈ l := by
    have : l.getD k (0, 0) = l[k] := by simp [List.getD, List.getElem?_eq_getElem hk]
    rw [this]; exact List.getElem_mem hk
  have := h _ hm
  exact ⟨WalkArith.wf_i64 (by omega), WalkArith.wf_i64 (by omega)⟩

theorem below_row {w w' : World} (g : Nat) (hb : Below w.heap.size w w') : w.grownBy w' (some g) := ⟨hb.os, hb.tape, hb.output, hb.size, fun k hk _ => hb.block k hk⟩
/-- A graph without bars, just laid. -/
theorem DG.start (w : World) (p : Int) {B g : Nat} {A : Option Addr} {len cap : Nat} (hu : CurIs w B g A len cap) :
    DG w (((w.alloc (.cells #[.int .i64 0, .slice none 0 0] 26)).alloc (.cells #[] 108)).alloc (.cells #[.int .i64 p, .slice (some ⟨w.heap.size + 1, 0, none⟩) 0 0] 26)) B g (w.heap.size + 1 + 1) w.heap.size A len cap p (w.heap.size + 1) 0 [] := by
  have hz := retz_new w
  have hb1 := new_below w (.cells #[.int .i64 0, .slice none 0 0] 26)
  have hsz : (w.alloc (.cells #[.int .i64 0, .slice none 0 0] 26)).heap.size = w.heap.size + 1 := by simp
  have hgb := gbox_made (w.alloc (.cells #[.int .i64 0, .slice none 0 0] 26)) w.heap.size [w.heap.size] p (by omega) (fun o ho => by simp at ho; omega)
  rw [hsz] at hgb
  have hbl : Below w.heap.size w _ := hb1.trans hgb.2.2.2.2.2.1
  refine ⟨hgb.self, ?_, hz.block (hgb.2.2.2.2.1 w.heap.size (by simp)).2.1, hu.below hbl hu.lt, below_row g hbl, Nat.le_refl _, hu.lt⟩
  have hsz2 : ((w.alloc (.cells #[.int .i64 0, .slice none 0 0] 26)).alloc (.cells #[] 108)).heap.size = w.heap.size + 1 + 1 := by simp
  rw [← hsz2]
  exact World.frozen?_alloc_at _ _ _ _ rfl

set_option maxHeartbeats 4000000 in
set_option maxRecDepth 100000 in
theorem simple_c (n : Nat) (odd : Int) (w : World) (B g : Nat) (A : Option Addr) (len cap : Nat) (zs : Nat → Int) (hc : CodeIs w B A len zs) (hu : CurIs w B g A len cap) (hlen : len ≤ 140737488351232) (hBw : B ≤ w.heap.size) (hn : n ≤ 8) :
    Calls Try.prog 228 #[.pointer (some ⟨g, 0, none⟩), .int .i64 (n : Int), .int .i64 odd] w (DrawG w B g A len cap fun p l => p = (n : Int) ∧ l.length ≤ 24 ∧ SmallB l) := by
  have HC := Lib.hid hc
  have hBg := hu.1
  have HD := Lib.hid (DG.start w (n : Int) hu)
  clear hc hu
  go_enter Try.func228, Try.ntmps228
  go_wp2_with fail
  generalize (((w.alloc (.cells #[.int .i64 0, .slice none 0 0] 26)).alloc (.cells #[] 108)).alloc (.cells #[.int .i64 (n : Int), .slice (some ⟨w.heap.size + 1, 0, none⟩) 0 0] 26)) = w1 at *
  go_loopw [8] (fun i wr => ∃ ia : Nat, ia ≤ n ∧ i = .int .i64 ia ∧ ∃ a c l, DG w wr B g (w.heap.size + 1 + 1) w.heap.size A len cap (n : Int) a c l ∧ l.length ≤ 24 ∧ SmallB l) (fun i _ => n - (intOf i).toNat)
  case atStart => exact ⟨0, by omega, rfl, _, _, _, HD.out, by simp, SmallB.nil⟩
  case round =>
    obtain ⟨ia, hia, rfl, a0, c0, l0, hst, hl0, hsm⟩ := hrel
    have HST := Lib.hid hst
    have HSM := Lib.hid hsm
    clear hst hsm
    obtain ⟨wq, rfl⟩ : ∃ x, x = wr := ⟨wr, rfl⟩
    by_cases hlt : ia < n
    · have hii : (ia : Int) < (n : Int) := by omega
      go_wp2_with fail
      go_loopw [9] (fun i wr => ∃ ib : Nat, ib ≤ n ∧ ia < ib ∧ i = .int .i64 ib ∧ ∃ a c l, DG w wr B g (w.heap.size + 1 + 1) w.heap.size A len cap (n : Int) a c l ∧ l.length ≤ 24 ∧ SmallB l) (fun i _ => n - (intOf i).toNat)
      case atStart => exact ⟨ia + 1, by omega, by omega, by go_num, _, _, _, HST.out, hl0, HSM.out⟩
      case round =>
        obtain ⟨ib, hib, hab, rfl, a1, c1, l1, hst, hl1, hsm⟩ := hrel
        have HS := Lib.hid hst
        have HM := Lib.hid hsm
        clear hst hsm
        by_cases hlb : ib < n
        · have hbi : (ib : Int) < (n : Int) := by omega
          go_wp2_with fail
          refine (below_c 10 wr B g A len cap zs (HC.out.kept (grown_cur hBg hBw HS.out.gr)) HS.out.cu hlen (by omega) (by omega)).mono ?_
          rintro e w2 ⟨x, hx, rfl, hu2, hg2⟩
          have HD2 := Lib.hid (HS.out.drawn hu2 hg2)
          have hbs := HD2.out.lo.2.2.2.2.2.1
          clear hu2 hg2
          obtain ⟨_, g1, g2⟩ := HD2.out.gb.1
          have gf := HD2.out.gb.2.1
          by_cases hxo : x < odd
          · by_cases h24 : l1.length < 24
            · have h24' : (l1.length : Int) < 24 := by omega
              go_wp2_with (at_builtin; refine wpList_at _ rfl _ _ 24 rfl w.heap.size 108 (.agg #[.int .i64 0, .int .i64 0]) 2 16 Try.underlying24 infoBar rfl (by decide) _ _ _ rfl HD2.out.gb.2.2.2.1 #[.int .i64 (ia : Int), .int .i64 (ib : Int)] 1 rfl (by simp [Value.oneCell']) _ 1 (by simp [Act.eval]) (by omega) (by unfold maxLen; omega) hbs ?_; intro v' w' ho hg hat _; obtain ⟨k0, k1, k2, a2, c2, rfl, hG2⟩ := HD2.out.push ((ia : Int), (ib : Int)) ho hg hat; have HG2 := Lib.hid hG2; clear ho hg hat hG2)
              go_roundw
              case rel => exact ⟨ib + 1, by omega, by omega, by go_num, a2, c2, _, HG2.out, by simp; omega, HM.out.snoc (by show ((0 : Int) ≤ (ia : Int) ∧ (ia : Int) ≤ 8) ∧ (0 : Int) ≤ (ib : Int) ∧ (ib : Int) ≤ 8; omega)⟩
              case measure => simp [intOf]; omega
            · have h24' : ¬ (l1.length : Int) < 24 := by omega
              go_wp2_with fail
              go_roundw
              case rel => exact ⟨ib + 1, by omega, by omega, by go_num, a1, c1, l1, HD2.out, hl1, HM.out⟩
              case measure => simp [intOf]; omega
          · go_wp2_with fail
            go_roundw
            case rel => exact ⟨ib + 1, by omega, by omega, by go_num, a1, c1, l1, HD2.out, hl1, HM.out⟩
            case measure => simp [intOf]; omega
        · go_wp2_with fail
          go_roundw
          case rel => exact ⟨ia + 1, by omega, by go_num, a1, c1, l1, HS.out, hl1, HM.out⟩
          case measure => simp [intOf]; omega
    · obtain ⟨_, g1, g2⟩ := HST.out.gb.1
      obtain ⟨⟨r0, r1⟩, f0, f1⟩ := HST.out.rz
      obtain ⟨s0, s1⟩ := ret_cells (p := (n : Int)) (v := .slice (some ⟨a0, 0, none⟩) l0.length c0) r0 r1
      go_wp2_with fail
      refine bodyPost_ret ?_ rfl (HST.out.ret ⟨rfl, hl0, HSM.out⟩ (.int .i64 (n : Int)) (.slice (some ⟨a0, 0, none⟩) l0.length c0))
      simp [results, Try.results228, go_sem, s0, s1]
end Go.Proofs.Ytdkpmaahinbhlaa
