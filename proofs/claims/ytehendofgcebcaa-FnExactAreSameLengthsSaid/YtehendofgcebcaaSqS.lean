/- What spec.SquareLengths answers. No condition. -/
import Derived.Test.YtehendofgcebcaaPushI
import Derived.Test.YtehendofgcebcaaIsFS
import Derived.Deep.RegionHeld3
namespace Go.Proofs.Ytehendofgcebcaa
open Go.RowKit

theorem sqD_le {a b : Int × Int} (ha : OnG a) (hb : OnG b) : 0 ≤ (a.1 - b.1) * (a.1 - b.1) ∧ (a.1 - b.1) * (a.1 - b.1) ≤ 16 ∧ 0 ≤ (a.2 - b.2) * (a.2 - b.2) ∧ (a.2 - b.2) * (a.2 - b.2) ≤ 16 := by
  obtain ⟨⟨a1, a2⟩, a3, a4⟩ := ha
  obtain ⟨⟨b1, b2⟩, b3, b4⟩ := hb
  have h1 := sq_le (a.1 - b.1) (by omega) (by omega)
  have h2 := sq_le (a.2 - b.2) (by omega) (by omega)
  exact ⟨h1.1, h1.2, h2.1, h2.2⟩

set_option maxHeartbeats 4000000 in
set_option maxRecDepth 100000 in
theorem specSq (p : Int) (l m : List (Int × Int)) (A : Option Addr) (ca : Nat) (B : Option Addr) (cb : Nat) (lo hi : Nat) (w : World) (hl : FwIn w lo hi A l B m) (hn : l.length + m.length ≤ 1048576) :
    Calls Try.prog 48 #[.agg #[.int .i64 p, .slice A l.length ca, .slice B m.length cb]] w (IntsO w (sqL p l m)) := by
  have hhi := hl.b.1
  have HC := Lib.hid fun (W : World) (h : FwIn W lo hi A l B m) => specIsF p l m A ca B cb lo hi W h hn
  have hf := FbI.new (p := p) (ca := ca) (cb := cb) hl 63
  have hs1 : (w.alloc (.cells #[.int .i64 p, .slice A l.length ca, .slice B m.length cb] 63)).heap.size = w.heap.size + 1 := by simp
  clear hl
  go_enter Try.func48, Try.ntmps48
  go_wp2_with fail
  generalize (w.alloc (.cells #[.int .i64 p, .slice A l.length ca, .slice B m.length cb] 63)) = w1 at *
  have HO := Lib.hid (World.ownsRow_made (base := w.heap.size + 1) (e := 3) (size := 1) w1 #[] 0 (by omega) (by unfold maxLen; omega) (by simp))
  have HF := Lib.hid (hf.below (new_below w1 (.cells #[] 3)))
  have hw1 : w1.heap.size = w.heap.size + 1 := hs1
  clear hf hs1
  rw [hw1] at HO
  generalize (w1.alloc (.cells #[] 3)) = w2 at *
  by_cases hg : isFB p l m = true
  · rw [hg] at HC
    have HS := Lib.hid (sqL_yes hg)
    have HI := Lib.hid (isFB_iff.1 hg)
    have h15 := HI.out.bars
    clear hg
    go_loopw [3, 4] (fun o i wr => ∃ k : Nat, k ≤ l.length ∧ i = .int .i64 k ∧ ∃ Ao co, o = .slice Ao ((l.take k).map (sqB m)).length co ∧ wr.ownsRow (w.heap.size + 1) 3 1 (.slice Ao ((l.take k).map (sqB m)).length co) ((l.take k).map (sqB m)).length (intCells ((l.take k).map (sqB m))) ∧ FbI w wr lo hi p A ca l B cb m) (fun _ i _ => l.length - (intOf i).toNat)
    case atStart => exact ⟨0, by omega, rfl, some ⟨w.heap.size + 1, 0, none⟩, 0, rfl, HO.out, HF.out⟩
    case round =>
      clear HF HO
      obtain ⟨k, hk, rfl, Ao, co, rfl, hown, hf⟩ := hrel
      have HF := Lib.hid hf
      have HO := Lib.hid hown
      clear hf hown
      obtain ⟨_, x0, x1, x2⟩ := HF.out.x
      obtain ⟨zs, hz⟩ : ∃ zs, (l.take k).map (sqB m) = zs := ⟨_, rfl⟩
      have hzl : zs.length ≤ 15 := by rw [← hz]; simp; omega
      rw [hz] at HO ⊢
      have HZ := Lib.hid hz
      clear hz
      by_cases hlt : k < l.length
      · have hki : (k : Int) < (l.length : Int) := by omega
        go_wp2_with fail
        refine (HC.out _ HF.out.f).mono ?_
        rintro e w3 ⟨rfl, hb⟩
        have HF3 := Lib.hid (HF.out.below hb)
        have HO3 := Lib.hid (own_below HO.out hb)
        clear hb HF HO x0 x1 x2
        obtain ⟨ba, oa, rfl, hba, hca⟩ := HF3.out.bar hlt
        obtain ⟨bb, ob, rfl, hbb, hcb⟩ := HF3.out.place (k := 0) (by have := HI.out.len; have := HI.out.g.1.1; omega)
        obtain ⟨e1, e2, e3⟩ := HI.out.ends hlt
        have hbar := hca k hlt
        have hlen := HI.out.len
        have hpl1 := hcb (l.getD k (0, 0)).1.toNat (by omega)
        have hpl2 := hcb (l.getD k (0, 0)).2.toNat (by omega)
        have hon1 := HI.out.on e1 (by omega)
        have hon2 := HI.out.on (v := (l.getD k (0, 0)).2) (by omega) e3
        have hnx := sq_succ m l k hlt
        rw [HZ.out] at hnx
        unfold sqB plc at hnx
        unfold plc at hon1 hon2
        obtain ⟨x, hx⟩ : ∃ x, l.getD k (0, 0) = x := ⟨_, rfl⟩
        rw [hx] at hbar hpl1 hpl2 e1 e2 e3 hon1 hon2 hnx
        clear hx hca hcb
        obtain ⟨xa, xb⟩ := x
        obtain ⟨a, rfl⟩ : ∃ a : Nat, xa = a := ⟨xa.toNat, by simp only at e1; omega⟩
        obtain ⟨b, rfl⟩ : ∃ b : Nat, xb = b := ⟨xb.toNat, by simp only at e1 e2; omega⟩
        simp only [Int.toNat_natCast] at e1 e2 e3 hbar hpl1 hpl2 hon1 hon2 hnx
        have ha : (a : Int) < (m.length : Int) := by omega
        have hb' : (b : Int) < (m.length : Int) := by omega
        obtain ⟨P, hP⟩ : ∃ P, m.getD a (0, 0) = P := ⟨_, rfl⟩
        obtain ⟨Q, hQ⟩ : ∃ Q, m.getD b (0, 0) = Q := ⟨_, rfl⟩
        rw [hP] at hpl1 hon1 hnx
        rw [hQ] at hpl2 hon2 hnx
        have HNX := Lib.hid hnx
        clear hP hQ e1 e2 e3 hnx hlen
        obtain ⟨s1, s2, s3, s4⟩ := sqD_le hon1 hon2
        obtain ⟨P1, P2⟩ := P
        obtain ⟨Q1, Q2⟩ := Q
        simp only at s1 s2 s3 s4
        obtain ⟨⟨o1, o2⟩, o3, o4⟩ := hon1
        obtain ⟨⟨n1, n2⟩, n3, n4⟩ := hon2
        simp only at o1 o2 o3 o4 n1 n2 n3 n4
        obtain ⟨hb1, hb2⟩ := hbar
        obtain ⟨hp1, hp2⟩ := hpl1
        have KK := Lib.hid (fun (W : World) (h : Below w3.heap.size w3 W) => (show W.cell? ⟨w.heap.size, 0, none⟩ = some (.int .i64 p) ∧ W.cell? ⟨w.heap.size, 1, none⟩ = some (.slice (some ⟨ba, oa, none⟩) l.length ca) ∧ W.cell? ⟨w.heap.size, 2, none⟩ = some (.slice (some ⟨bb, ob, none⟩) m.length cb) ∧ W.cell? ⟨ba, oa + k * 2, none⟩ = some (.int .i64 (a : Int)) ∧ W.cell? ⟨bb, ob + a * 2, none⟩ = some (.int .i64 P1) ∧ W.cell? ⟨bb, ob + a * 2 + 1, none⟩ = some (.int .i64 P2) from
          ⟨(HF3.out.below h).x.2.1, (HF3.out.below h).x.2.2.1, (HF3.out.below h).x.2.2.2, (h.cell (p := ⟨ba, oa + k * 2, none⟩) hba).trans hb1, (h.cell (p := ⟨bb, ob + a * 2, none⟩) hbb).trans hp1, (h.cell (p := ⟨bb, ob + a * 2 + 1, none⟩) hbb).trans hp2⟩))
        have HDR := Lib.hid (show Below w3.heap.size w3 w3.drew from (Below.refl _ _).drew)
        obtain ⟨_, x0, x1, x2⟩ := HF3.out.x
        go_wp2_with fail
        go_region_held3 (fun W' => W'.cell? ⟨w.heap.size, 0, none⟩ = some (.int .i64 p) ∧ W'.cell? ⟨w.heap.size, 1, none⟩ = some (.slice (some ⟨ba, oa, none⟩) l.length ca) ∧ W'.cell? ⟨w.heap.size, 2, none⟩ = some (.slice (some ⟨bb, ob, none⟩) m.length cb) ∧ W'.cell? ⟨ba, oa + k * 2, none⟩ = some (.int .i64 (a : Int)) ∧ W'.cell? ⟨bb, ob + a * 2, none⟩ = some (.int .i64 P1) ∧ W'.cell? ⟨bb, ob + a * 2 + 1, none⟩ = some (.int .i64 P2))
          (first | exact KK.out _ HDR.out | exact KK.out _ (below_on HDR.out (new_below _ _) HDR.out.size) | fail)
          (fail)
        go_wp2_with fail
        clear x0 x1 x2 KK HDR hb1 hp1 hp2
        have hal := (new_below w3 (.cells #[.int .i64 P1, .int .i64 P2] 76)).drew
        have hX := (box_new w3 P1 (.int .i64 P2) 76).kept (show Below _ _ (w3.alloc (.cells #[.int .i64 P1, .int .i64 P2] 76)).drew from (Below.refl _ _).drew)
        have HF4 := Lib.hid (HF3.out.below hal)
        have HO4 := Lib.hid (own_below HO3.out hal)
        have HX4 := Lib.hid hX
        have hb2' := (hal.cell (p := ⟨ba, oa + k * 2 + 1, none⟩) hba).trans hb2
        have hq1 := (hal.cell (p := ⟨bb, ob + b * 2, none⟩) hbb).trans hpl2.1
        have hq2 := (hal.cell (p := ⟨bb, ob + b * 2 + 1, none⟩) hbb).trans hpl2.2
        have hba4 := Nat.lt_of_lt_of_le hba hal.size
        have hbb4 := Nat.lt_of_lt_of_le hbb hal.size
        clear hal hX HF3 HO3 hpl2 hb2
        generalize (w3.alloc (.cells #[.int .i64 P1, .int .i64 P2] 76)).drew = w4 at *
        have KK := Lib.hid (fun (W : World) (h : Below w4.heap.size w4 W) => (show W.cell? ⟨w.heap.size, 0, none⟩ = some (.int .i64 p) ∧ W.cell? ⟨w.heap.size, 1, none⟩ = some (.slice (some ⟨ba, oa, none⟩) l.length ca) ∧ W.cell? ⟨w.heap.size, 2, none⟩ = some (.slice (some ⟨bb, ob, none⟩) m.length cb) ∧ W.cell? ⟨ba, oa + k * 2 + 1, none⟩ = some (.int .i64 (b : Int)) ∧ W.cell? ⟨bb, ob + b * 2, none⟩ = some (.int .i64 Q1) ∧ W.cell? ⟨bb, ob + b * 2 + 1, none⟩ = some (.int .i64 Q2) from
          ⟨(HF4.out.below h).x.2.1, (HF4.out.below h).x.2.2.1, (HF4.out.below h).x.2.2.2, (h.cell (p := ⟨ba, oa + k * 2 + 1, none⟩) hba4).trans hb2', (h.cell (p := ⟨bb, ob + b * 2, none⟩) hbb4).trans hq1, (h.cell (p := ⟨bb, ob + b * 2 + 1, none⟩) hbb4).trans hq2⟩))
        have HDR := Lib.hid (show Below w4.heap.size w4 w4.drew from (Below.refl _ _).drew)
        go_region_held3 (fun W' => W'.cell? ⟨w.heap.size, 0, none⟩ = some (.int .i64 p) ∧ W'.cell? ⟨w.heap.size, 1, none⟩ = some (.slice (some ⟨ba, oa, none⟩) l.length ca) ∧ W'.cell? ⟨w.heap.size, 2, none⟩ = some (.slice (some ⟨bb, ob, none⟩) m.length cb) ∧ W'.cell? ⟨ba, oa + k * 2 + 1, none⟩ = some (.int .i64 (b : Int)) ∧ W'.cell? ⟨bb, ob + b * 2, none⟩ = some (.int .i64 Q1) ∧ W'.cell? ⟨bb, ob + b * 2 + 1, none⟩ = some (.int .i64 Q2))
          (first | exact KK.out _ HDR.out | exact KK.out _ (below_on HDR.out (new_below _ _) HDR.out.size) | fail)
          (fail)
        clear KK HDR hb2' hq1 hq2
        have hal := (new_below w4 (.cells #[.int .i64 Q1, .int .i64 Q2] 76)).drew
        have hY := (box_new w4 Q1 (.int .i64 Q2) 76).kept (show Below _ _ (w4.alloc (.cells #[.int .i64 Q1, .int .i64 Q2] 76)).drew from (Below.refl _ _).drew)
        have HF5 := Lib.hid (HF4.out.below hal)
        have HO5 := Lib.hid (own_below HO4.out hal)
        have hsz5 := HF5.out.x.1
        obtain ⟨_, p0, p1⟩ := HX4.out.kept hal
        obtain ⟨_, q0, q1⟩ := hY
        clear hal HF4 HO4 HX4
        generalize (w4.alloc (.cells #[.int .i64 Q1, .int .i64 Q2] 76)).drew = w5 at *
        go_wp2_with (at_builtin; refine wpList_int w5 rfl _ _ rfl (w.heap.size + 1) Ao co zs ((P1 - Q1) * (P1 - Q1) + (P2 - Q2) * (P2 - Q2)) rfl HO5.out _ rfl (by omega) (by omega) ?_; intro A' c' w6 ho' hw'; have HO6 := Lib.hid ho'; have HF6 := Lib.hid (HF5.out.on hw' (Nat.le_refl _) hhi); clear ho' hw')
        have HN : List.map (sqB m) (List.take (k + 1) l) = zs ++ [(P1 - Q1) * (P1 - Q1) + (P2 - Q2) * (P2 - Q2)] := HNX.out
        go_roundw
        case rel => exact ⟨k + 1, by omega, by go_num, A', c', by rw [HN, List.length_append]; rfl, by rw [HN]; exact HO6.out, HF6.out⟩
        case measure => simp [intOf]; omega
      · obtain rfl : k = l.length := by omega
        have hzz := HZ.out
        rw [List.take_length] at hzz
        go_wp2_with fail
        go_ret
        refine ⟨Ao, co, ?_, ?_, HF.out.b⟩
        · rw [HS.out, hzz]; rfl
        · rw [HS.out, hzz]
          exact (own_ints' HO.out).widen (by omega) (Nat.le_refl _) (Nat.le_refl _)
  · have hgf : isFB p l m = false := by simpa using hg
    rw [hgf] at HC
    have HS := Lib.hid (sqL_no hgf)
    clear hg hgf
    go_loopw [3, 4] (fun o i wr => i = .int .i64 0 ∧ o = .slice (some ⟨w.heap.size + 1, 0, none⟩) 0 0 ∧ FbI w wr lo hi p A ca l B cb m) (fun _ _ _ => 0)
    case atStart => exact ⟨rfl, rfl, HF.out⟩
    case round =>
      clear HF
      obtain ⟨rfl, rfl, hf⟩ := hrel
      have HF := Lib.hid hf
      clear hf
      obtain ⟨_, x0, x1, x2⟩ := HF.out.x
      by_cases h0 : 0 < l.length
      · go_wp2_with fail
        refine (HC.out _ HF.out.f).mono ?_
        rintro e w3 ⟨rfl, hb⟩
        have HF3 := Lib.hid (HF.out.below hb)
        clear hb
        go_wp2_with fail
        go_ret
        exact ⟨some ⟨w.heap.size + 1, 0, none⟩, 0, by rw [HS.out]; rfl, by rw [HS.out]; exact ⟨Nat.le_refl _, .inl rfl⟩, HF3.out.b⟩
      · go_wp2_with fail
        go_ret
        exact ⟨some ⟨w.heap.size + 1, 0, none⟩, 0, by rw [HS.out]; rfl, by rw [HS.out]; exact ⟨Nat.le_refl _, .inl rfl⟩, HF.out.b⟩
end Go.Proofs.Ytehendofgcebcaa
