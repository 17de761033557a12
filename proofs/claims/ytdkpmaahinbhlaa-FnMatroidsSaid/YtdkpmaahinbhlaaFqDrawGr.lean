/- What spec.l2Graph draws: some graph with few bars whose ends are small. No condition. -/
import Derived.Test.YtdkpmaahinbhlaaFqDrawG
import Derived.Deep.RegionWith
namespace Go.Proofs.Ytdkpmaahinbhlaa
open Go.RowKit

section
variable {w wr w' : World} {B g bg r : Nat} {A0 : Option Addr} {len cap0 : Nat} {p : Int} {a c : Nat} {l : List (Int × Int)}
/-- A graph that a call has drawn is laid in a box. -/
theorem DG.box {w2 w3 : World} (hz : RetZ w2 w.heap.size) (h2 : w.grownBy w2 (some g)) (hs2 : w.heap.size < w2.heap.size) (hgw : g < w.heap.size)
    (ho : w3.ownsRow w2.heap.size 108 2 (.slice (some ⟨a, 0, none⟩) l.length c) l.length (barCells l)) (hu : CurIs w3 B g A0 len cap0) (h3 : w2.grownBy w3 (some g)) :
    DG w (w3.alloc (.cells #[.int .i64 p, .slice (some ⟨a, 0, none⟩) l.length c] 26)) B g w3.heap.size w.heap.size A0 len cap0 p a c l := by
  have hb := new_below w3 (.cells #[.int .i64 p, .slice (some ⟨a, 0, none⟩) l.length c] 26)
  have hlt := ho.lt a rfl
  have hs3 := h3.size
  have hx := box_new w3 p (.slice (some ⟨a, 0, none⟩) l.length c) 26
  refine ⟨⟨hx, World.frozen?_alloc_at _ _ _ _ rfl, fun a' e => ?_, own_below (own_base ho (by omega)) hb, fun o hoo => ?_, Below.refl _ _, by omega⟩, World.frozen?_alloc_at _ _ _ _ rfl, (hz.block (h3.block w.heap.size hs2 (by simp; omega))).block (hb.block w.heap.size (by omega)), hu.below hb (by omega), grown_then_below (h2.trans_ h3) (hb.mono (by omega)), Nat.le_refl _, hgw⟩
  · cases e
    exact ⟨by simp; omega, by show a ≠ w3.heap.size; omega⟩
  · obtain rfl : o = w.heap.size := by simpa using hoo
    exact ⟨by simp; omega, rfl, by omega⟩
/-- Another graph is written into the box. -/
theorem DG.put (h : DG w wr B g bg r A0 len cap0 p a c l) {q : Int} {a' c' base : Nat} {l' : List (Int × Int)} (ho : wr.ownsRow base 108 2 (.slice (some ⟨a', 0, none⟩) l'.length c') l'.length (barCells l')) (hb : w.heap.size ≤ base) (h1 : a' ≠ bg) (h2 : a' ≠ r) :
    DG w ((wr.setCell ⟨bg, 0, none⟩ (.int .i64 q)).setCell ⟨bg, 1, none⟩ (.slice (some ⟨a', 0, none⟩) l'.length c')) B g bg r A0 len cap0 q a' c' l' := by
  have lo := h.lo
  have hg := (grownBy_set wr bg 0 (.int .i64 q)).trans_ (grownBy_set (wr.setCell ⟨bg, 0, none⟩ (.int .i64 q)) bg 1 (.slice (some ⟨a', 0, none⟩) l'.length c'))
  have hbl : Below w.heap.size wr ((wr.setCell ⟨bg, 0, none⟩ (.int .i64 q)).setCell ⟨bg, 1, none⟩ (.slice (some ⟨a', 0, none⟩) l'.length c')) := (Below.refl _ wr).grown hg lo.2.2.2.2.2.1 fun k e => by cases e; exact lo.1
  have q0 : (wr.setCell ⟨bg, 0, none⟩ (.int .i64 q)).cell? ⟨bg, 0, none⟩ = some (.int .i64 q) := World.cell?_setCell_same _ _ _ h.gb.1.2.1
  have q1 : (wr.setCell ⟨bg, 0, none⟩ (.int .i64 q)).cell? ⟨bg, 1, none⟩ = some (.slice (some ⟨a, 0, none⟩) l.length c) := by
    rw [World.cell?_setCell_other _ _ _ _ (by intro e; simp at e)]
    exact h.gb.1.2.2
  refine ⟨⟨⟨by simpa using lo.2.1, ?_, World.cell?_setCell_same _ _ _ q1⟩, ?_, fun a'' e => ?_, (own_base ho hb).kept hg (.inr (by simp [Value.ownBlock]; omega)), fun o hoo => ?_, Below.refl _ _, lo.1⟩, ?_, h.rz.block (hg.block r lo.2.2.2.2.1 (by simp; omega)), h.cu.below hbl h.hg, grown_then_below h.gr hbl, h.hr, h.hg⟩
  · rw [World.cell?_setCell_other _ _ _ _ (by intro e; simp at e)]
    exact q0
  · rw [World.frozen?_setCell, World.frozen?_setCell]; exact h.gb.2.1
  · cases e
    exact ⟨by simp; omega, h1⟩
  · obtain rfl : o = r := by simpa using hoo
    exact ⟨by simpa using lo.2.2.2.2.1, rfl, lo.2.2.2.2.2.2.1⟩
  · rw [World.frozen?_setCell, World.frozen?_setCell]; exact h.f0
/-- Another number of points is written into the box. -/
theorem DG.points (h : DG w wr B g bg r A0 len cap0 p a c l) (q : Int) : DG w (wr.setCell ⟨bg, 0, none⟩ (.int .i64 q)) B g bg r A0 len cap0 q a c l := by
  have lo := h.lo
  have hg := grownBy_set wr bg 0 (.int .i64 q)
  have hbl : Below w.heap.size wr (wr.setCell ⟨bg, 0, none⟩ (.int .i64 q)) := (Below.refl _ wr).grown hg lo.2.2.2.2.2.1 fun k e => by cases e; exact lo.1
  refine ⟨⟨⟨by simpa using lo.2.1, World.cell?_setCell_same _ _ _ h.gb.1.2.1, ?_⟩, ?_, h.gb.2.2.1, h.gb.2.2.2.1.kept hg (.inr (by simp [Value.ownBlock]; omega)), fun o hoo => ?_, Below.refl _ _, lo.1⟩, ?_, h.rz.block (hg.block r lo.2.2.2.2.1 (by simp; omega)), h.cu.below hbl h.hg, grown_then_below h.gr hbl, h.hr, h.hg⟩
  · rw [World.cell?_setCell_other _ _ _ _ (by intro e; simp at e)]
    exact h.gb.1.2.2
  · rw [World.frozen?_setCell]; exact h.gb.2.1
  · obtain rfl : o = r := by simpa using hoo
    exact ⟨by simpa using lo.2.2.2.2.1, rfl, lo.2.2.2.2.2.2.1⟩
  · rw [World.frozen?_setCell]; exact h.f0
end
theorem insU_mem (x : Int × Int) : ∀ (l : List (Int × Int)) (y : Int × Int), y ∈ insU x l → y = x ∨ y ∈ l := by
  intro l
  induction l with
  | nil => intro y hy; exact .inl (by simpa [insU] using hy)
  | cons z t ih =>
    intro y hy
    unfold insU at hy
    split at hy
    · rcases List.mem_cons.1 hy with rfl | hy
      · exact .inr (List.mem_cons_self ..)
      · rcases ih y hy with h | h
        · exact .inl h
        · exact .inr (List.mem_cons_of_mem _ h)
    · rcases List.mem_cons.1 hy with rfl | hy
      · exact .inl rfl
      · exact .inr hy
theorem addL_small {p a b : Int} {l : List (Int × Int)} (hl : l.length ≤ 24) (hs : SmallB l) : (addL p a b l).length ≤ 24 ∧ SmallB (addL p a b l) := by
  by_cases h : isGB p l = true ∧ ((0 ≤ a ∧ 0 ≤ b) ∧ (a < p ∧ b < p) ∧ a ≠ b ∧ l.length < 24)
  · obtain ⟨h1, h2⟩ := h
    rw [(add_yes h1 h2).2]
    have hG : IsG p l := Classical.byContradiction fun g => by rw [isGB_no g] at h1; cases h1
    have hp := hG.1
    refine ⟨by rw [insU_len]; omega, fun y hy => ?_⟩
    rcases insU_mem _ _ _ hy with rfl | hy
    · refine ⟨⟨?_, ?_⟩, ?_, ?_⟩ <;> simp only <;> omega
    · exact hs y hy
  · rw [(add_no (by
      by_cases hg : isGB p l = true
      · exact .inr fun k => h ⟨hg, k⟩
      · exact .inl (by simpa using hg))).2]
    exact ⟨hl, hs⟩

set_option maxHeartbeats 4000000 in
set_option maxRecDepth 100000 in
theorem graph_c (w : World) (B g : Nat) (A : Option Addr) (len cap : Nat) (zs : Nat → Int) (hc : CodeIs w B A len zs) (hu : CurIs w B g A len cap) (hlen : len ≤ 140737488351232) (hBw : B ≤ w.heap.size) :
    Calls Try.prog 194 #[.pointer (some ⟨g, 0, none⟩)] w (DrawG w B g A len cap fun p l => (2 ≤ p ∧ p ≤ 6) ∧ l.length ≤ 24 ∧ SmallB l) := by
  have HC := Lib.hid hc
  have hBg := hu.1
  have hgw := hu.lt
  have hb1 := new_below w (.cells #[.int .i64 0, .slice none 0 0] 26)
  have HZ1 := Lib.hid (retz_new w)
  have HU1 := Lib.hid (hu.below hb1 hgw)
  have HG1 := Lib.hid (below_row g hb1)
  have hs1 : (w.alloc (.cells #[.int .i64 0, .slice none 0 0] 26)).heap.size = w.heap.size + 1 := by simp
  clear hc hu hb1
  go_enter Try.func194, Try.ntmps194
  go_wp2_with fail
  generalize (w.alloc (.cells #[.int .i64 0, .slice none 0 0] 26)) = w1 at *
  refine (below_c 5 w1 B g A len cap zs (HC.out.kept (grown_cur hBg hBw HG1.out)) HU1.out hlen (by omega) (by omega)).mono ?_
  rintro e w2 ⟨x, hx, rfl, hu2, hg2⟩
  have HU2 := Lib.hid hu2
  have HG2 := Lib.hid (HG1.out.trans_ hg2)
  have HZ2 := Lib.hid (HZ1.out.block (hg2.block w.heap.size (by omega) (by simp; omega)))
  have hs2 := hg2.size
  clear hu2 hg2
  obtain ⟨n, rfl⟩ : ∃ n : Nat, x = (n : Int) := ⟨x.toNat, by omega⟩
  go_wp2_with fail
  refine (below_c 4 w2 B g A len cap zs (HC.out.kept (grown_cur hBg hBw HG2.out)) HU2.out hlen (by omega) (by omega)).mono ?_
  rintro e w3 ⟨y, hy, rfl, hu3, hg3⟩
  have HU3 := Lib.hid hu3
  have HG3 := Lib.hid (HG2.out.trans_ hg3)
  have HZ3 := Lib.hid (HZ2.out.block (hg3.block w.heap.size (by omega) (by simp; omega)))
  have hs3 := hg3.size
  clear hu3 hg3
  have hsc := simple_c (n + 2) (5 + y) w3 B g A len cap zs (HC.out.kept (grown_cur hBg hBw HG3.out)) HU3.out hlen (by omega) (by omega)
  rw [show ((n + 2 : Nat) : Int) = 2 + (n : Int) by omega] at hsc
  have HSC := Lib.hid hsc
  clear hsc
  go_wp2_with fail
  refine HSC.out.mono ?_
  rintro e w4 ⟨p, a, c, l, ⟨rfl, hl, hsm⟩, rfl, ho, hu4, hg4⟩
  have HSM := Lib.hid hsm
  have HD5 := Lib.hid (DG.box (p := 2 + (n : Int)) HZ3.out HG3.out (by omega) hgw ho hu4 hg4)
  have hs4 := hg4.size
  clear hsm ho hu4 hg4
  go_wp2_with fail
  obtain ⟨bg, hbg⟩ : ∃ b, b = w4.heap.size := ⟨_, rfl⟩
  rw [← hbg] at HD5 ⊢
  clear hbg
  generalize (w4.alloc (.cells #[.int .i64 (2 + (n : Int)), .slice (some ⟨a, 0, none⟩) l.length c] 26)) = w5 at *
  refine (below_c 3 w5 B g A len cap zs (HC.out.kept (grown_cur hBg hBw HD5.out.gr)) HD5.out.cu hlen (by omega) (by omega)).mono ?_
  rintro e w6 ⟨u, hu, rfl, hu6, hg6⟩
  have HD6 := Lib.hid (HD5.out.drawn hu6 hg6)
  have hs6 := HD6.out.lo.2.2.2.2.2.1
  clear hu6 hg6
  go_wp2_with fail
  refine (below_c 2 w6 B g A len cap zs (HC.out.kept (grown_cur hBg hBw HD6.out.gr)) HD6.out.cu hlen (by omega) (by omega)).mono ?_
  rintro e w7 ⟨v, hv, rfl, hu7, hg7⟩
  have HD7 := Lib.hid (HD6.out.drawn hu7 hg7)
  have hs7 := HD7.out.lo.2.2.2.2.2.1
  clear hu7 hg7
  obtain ⟨K, hK, hK2⟩ : ∃ K : Nat, u * v = (K : Int) ∧ K ≤ 2 := by
    rcases (show v = 0 ∨ v = 1 by omega) with rfl | rfl
    · exact ⟨0, by simp, by omega⟩
    · exact ⟨u.toNat, by omega, by omega⟩
  go_wp2_with fail
  go_loopw [4] (fun i wr => ∃ k : Nat, k ≤ 2 ∧ i = .int .i64 k ∧ ∃ a c l, DG w wr B g bg w.heap.size A len cap (2 + (n : Int)) a c l ∧ l.length ≤ 24 ∧ SmallB l) (fun i _ => (intOf i).toNat)
  case atStart => exact ⟨K, hK2, rfl, a, c, l, HD7.out, hl, HSM.out⟩
  case round =>
    obtain ⟨k, hk2, rfl, a1, c1, l1, hst, hl1, hsm1⟩ := hrel
    have HS := Lib.hid hst
    have HM := Lib.hid hsm1
    have hsr := hst.lo.2.2.2.2.2.1
    obtain ⟨_, g1, g2⟩ := hst.gb.1
    clear hst hsm1
    by_cases hk : 0 < k
    · have hk' : (0 : Int) < (k : Int) := by omega
      go_wp2_with fail
      refine (below_c (2 + (n : Int)) wr B g A len cap zs (HC.out.kept (grown_cur hBg hBw HS.out.gr)) HS.out.cu hlen (by omega) (by omega)).mono ?_
      rintro e w8 ⟨xa, hxa, rfl, hu8, hg8⟩
      have HS8 := Lib.hid (HS.out.drawn hu8 hg8)
      have hs8 := HS8.out.lo.2.2.2.2.2.1
      clear hu8 hg8 g1 g2
      obtain ⟨_, g1, g2⟩ := HS8.out.gb.1
      go_wp2_with fail
      refine (below_c (2 + (n : Int)) w8 B g A len cap zs (HC.out.kept (grown_cur hBg hBw HS8.out.gr)) HS8.out.cu hlen (by omega) (by omega)).mono ?_
      rintro e w9 ⟨xb, hxb, rfl, hu9, hg9⟩
      have HS9 := Lib.hid (HS8.out.drawn hu9 hg9)
      have hs9 := HS9.out.lo
      clear hu9 hg9 g1 g2
      obtain ⟨_, g1, g2⟩ := HS9.out.gb.1
      go_wp2_with fail
      clear g1 g2
      refine (specAddW (2 + (n : Int)) xa xb l1 (some ⟨a1, 0, none⟩) c1 w9 (own_in HS9.out.gb.2.2.2.1).bars.at (by omega) ⟨_, rfl⟩).mono ?_
      have HAS := Lib.hid (addL_small (p := 2 + (n : Int)) (a := xa) (b := xb) hl1 HM.out)
      rintro e w10 ⟨a2, c2, rfl, ho, hb⟩
      have HS10 := Lib.hid (HS9.out.below hb)
      have h2 := (ho.lt a2 rfl).1
      have HP := Lib.hid (HS10.out.put (q := 2 + (n : Int)) ho (by omega) (by omega) (by omega))
      obtain ⟨_, g1, g2⟩ := HS10.out.gb.1
      have f0 := HS10.out.f0
      have f1 := HS10.out.gb.2.1
      clear ho hb
      go_wp2_with fail
      go_roundw
      case rel => exact ⟨k - 1, by omega, by go_num, a2, c2, _, HP.out, HAS.out.1, HAS.out.2⟩
      case measure => simp [intOf]; omega
    · obtain rfl : k = 0 := by omega
      obtain ⟨⟨r0, r1⟩, f0, f1⟩ := HS.out.rz
      obtain ⟨s0, s1⟩ := ret_cells (p := 2 + (n : Int)) (v := .slice (some ⟨a1, 0, none⟩) l1.length c1) r0 r1
      go_wp2_with fail
      refine bodyPost_ret ?_ rfl (HS.out.ret ⟨by omega, hl1, HM.out⟩ (.int .i64 (2 + (n : Int))) (.slice (some ⟨a1, 0, none⟩) l1.length c1))
      simp [results, Try.results194, go_sem, s0, s1]

end Go.Proofs.Ytdkpmaahinbhlaa
