/- What spec.l2Put answers, as a row of the call's own that is not nil. No condition. -/
import Derived.Test.YtdkpmaahinbhlaaFqB1
import Derived.Test.YtdkpmaahinbhlaaFqCopyW
namespace Go.Proofs.Ytdkpmaahinbhlaa
open Go.RowKit

theorem own_pos {w : World} {base size : Nat} {e : TypeId} {v : Value} {n : Nat} {xs : List Value} (h : w.ownsRow base e size v n xs) (hn : 0 < n) : ∃ g c, v = .slice (some ⟨g, 0, none⟩) n c := by
  rcases h.2 with ⟨_, h1⟩ | ⟨g, c, _, h1, _⟩
  · omega
  · exact ⟨g, c, h1⟩
/-- The answer's variable is written: the row is still the call's own. -/
theorem GBox.retW {B : Nat} {w0 wr : World} {bg : Nat} {os : List Nat} {p : Int} {A : Option Addr} {c : Nat} {l : List (Int × Int)} (h : GBox B w0 wr bg os p A c l) {o : Nat} (ho : o ∈ os) (hB : B ≤ o) (u v : Value) :
    ((wr.setCell ⟨o, 0, none⟩ u).setCell ⟨o, 1, none⟩ v).ownsRow B 108 2 (.slice A l.length c) l.length (barCells l) ∧ Below B w0 ((wr.setCell ⟨o, 0, none⟩ u).setCell ⟨o, 1, none⟩ v) := by
  obtain ⟨h1, h2, h3, h4, h5, h6, h7⟩ := h
  have hg := (grownBy_set wr o 0 u).trans_ (grownBy_set (wr.setCell ⟨o, 0, none⟩ u) o 1 v)
  refine ⟨h4.kept hg ?_, h6.grown hg (Nat.le_of_lt (Nat.lt_of_le_of_lt h7 h1.1)) fun g e => by cases e; exact hB⟩
  cases A with
  | none => exact .inl rfl
  | some a => exact .inr (by simp [Value.ownBlock]; exact fun e => (h3 a rfl).1 (e ▸ ho))

set_option maxHeartbeats 4000000 in
set_option maxRecDepth 100000 in
theorem putW (p : Int) (x : Int × Int) (l : List (Int × Int)) (A : Option Addr) (cap : Nat) (w : World) (hl : BarsAt w w.heap.size A l) (hn : l.length ≤ 1048576) :
    Calls Try.prog 206 #[.agg #[.int .i64 p, .slice A l.length cap], .agg #[.int .i64 x.1, .int .i64 x.2]] w (GraphW w p (insU x l)) := by
  obtain ⟨i0, hi0, hz0, hz1, hz2⟩ := info_parts infoBar
  have hA1 := new_below w (.cells #[.int .i64 p, .slice A l.length cap] 26)
  have hA2 := new_below (w.alloc (.cells #[.int .i64 p, .slice A l.length cap] 26)) (.cells #[.int .i64 x.1, .int .i64 x.2] 108)
  have hA3 := new_below ((w.alloc (.cells #[.int .i64 p, .slice A l.length cap] 26)).alloc (.cells #[.int .i64 x.1, .int .i64 x.2] 108)) (.cells #[.int .i64 0, .slice none 0 0] 26)
  have hA12 := below_on hA1 hA2 hA1.size
  have hA := below_on hA12 hA3 hA12.size
  have hs1 : (w.alloc (.cells #[.int .i64 p, .slice A l.length cap] 26)).heap.size = w.heap.size + 1 := by simp
  have hs2 : ((w.alloc (.cells #[.int .i64 p, .slice A l.length cap] 26)).alloc (.cells #[.int .i64 x.1, .int .i64 x.2] 108)).heap.size = w.heap.size + 2 := by simp
  have hs3 : (((w.alloc (.cells #[.int .i64 p, .slice A l.length cap] 26)).alloc (.cells #[.int .i64 x.1, .int .i64 x.2] 108)).alloc (.cells #[.int .i64 0, .slice none 0 0] 26)).heap.size = w.heap.size + 3 := by simp
  have BX := Lib.hid (((box_new w p (.slice A l.length cap) 26).kept hA2).kept hA3)
  have hX := (box_new (w.alloc (.cells #[.int .i64 p, .slice A l.length cap] 26)) x.1 (.int .i64 x.2) 108).kept hA3
  have hR := box_new ((w.alloc (.cells #[.int .i64 p, .slice A l.length cap] 26)).alloc (.cells #[.int .i64 x.1, .int .i64 x.2] 108)) 0 (.slice none 0 0) 26
  have hF : (((w.alloc (.cells #[.int .i64 p, .slice A l.length cap] 26)).alloc (.cells #[.int .i64 x.1, .int .i64 x.2] 108)).alloc (.cells #[.int .i64 0, .slice none 0 0] 26)).frozen? ⟨((w.alloc (.cells #[.int .i64 p, .slice A l.length cap] 26)).alloc (.cells #[.int .i64 x.1, .int .i64 x.2] 108)).heap.size, 0, none⟩ = false ∧ (((w.alloc (.cells #[.int .i64 p, .slice A l.length cap] 26)).alloc (.cells #[.int .i64 x.1, .int .i64 x.2] 108)).alloc (.cells #[.int .i64 0, .slice none 0 0] 26)).frozen? ⟨((w.alloc (.cells #[.int .i64 p, .slice A l.length cap] 26)).alloc (.cells #[.int .i64 x.1, .int .i64 x.2] 108)).heap.size, 1, none⟩ = false := ⟨World.frozen?_alloc_at _ _ _ _ rfl, World.frozen?_alloc_at _ _ _ _ rfl⟩
  rw [hs1] at hX
  rw [hs2] at hR hF
  have hG := gbox_made (((w.alloc (.cells #[.int .i64 p, .slice A l.length cap] 26)).alloc (.cells #[.int .i64 x.1, .int .i64 x.2] 108)).alloc (.cells #[.int .i64 0, .slice none 0 0] 26)) w.heap.size [w.heap.size, w.heap.size + 1, w.heap.size + 2] p (by rw [hs3]; omega) (fun o ho => by rw [hs3]; simp at ho; omega)
  rw [hs3] at hG
  have HX := Lib.hid hX
  have HR := Lib.hid hR
  have HF := Lib.hid hF
  have HG := Lib.hid hG
  have HA := Lib.hid hA
  have HLW := Lib.hid hl
  clear hl hA1 hA2 hA3 hA12 hA hs1 hs2 hX hR hF hG
  go_enter Try.func206, Try.ntmps206
  go_wp2_with fail
  have HS3 := Lib.hid hs3
  clear hs3
  generalize (((((w.alloc (.cells #[.int .i64 p, .slice A l.length cap] 26)).alloc (.cells #[.int .i64 x.1, .int .i64 x.2] 108)).alloc (.cells #[.int .i64 0, .slice none 0 0] 26)).alloc (.cells #[] 108)).alloc (.cells #[.int .i64 p, .slice (some ⟨w.heap.size + 3, 0, none⟩) 0 0] 26)) = w1 at *
  generalize (((w.alloc (.cells #[.int .i64 p, .slice A l.length cap] 26)).alloc (.cells #[.int .i64 x.1, .int .i64 x.2] 108)).alloc (.cells #[.int .i64 0, .slice none 0 0] 26)) = w0 at *
  obtain ⟨x1, x2⟩ := x
  go_loopw [6, 7] (fun pl i wr => ∃ k : Nat, k ≤ l.length ∧ i = .int .i64 k ∧ ∃ b : Bool, pl = .bool b ∧ PutSt (x1, x2) (l.take k) b ∧ ∃ A' c', GBox w.heap.size w0 wr (w.heap.size + 3 + 1) [w.heap.size, w.heap.size + 1, w.heap.size + 2] p A' c' (putL (x1, x2) (l.take k) b)) (fun _ i _ => l.length - (intOf i).toNat)
  case atStart => exact ⟨0, by omega, rfl, false, rfl, ⟨fun _ y hy => by simp at hy, fun e => by cases e⟩, _, _, HG.out⟩
  case round =>
    obtain ⟨k, hk, rfl, b, rfl, hput, A', c', hst⟩ := hrel
    have HST := Lib.hid hst
    have HPUT := Lib.hid hput
    clear hst hput
    by_cases hlt : k < l.length
    · have hik : (k : Int) < (l.length : Int) := by omega
      obtain ⟨b0, off, rfl, hbB, hcell⟩ := HLW.out (by omega)
      have HCELL := Lib.hid hcell
      clear hcell
      have HT := Lib.hid (take_getD l (0, 0) k hlt)
      have hll := putL_len (x1, x2) (l.take k) b
      have hlk : (l.take k).length = k := by simp; omega
      obtain ⟨hlt0, g1, g2⟩ := HST.out.1
      have gf := HST.out.2.1
      have b1 := (HST.out.cell (o := w.heap.size) (k := 1) (by simp)).trans BX.out.2.2
      have e0 := (HST.out.cell (o := w.heap.size + 1) (k := 0) (by simp)).trans HX.out.2.1
      have e1 := (HST.out.cell (o := w.heap.size + 1) (k := 1) (by simp)).trans HX.out.2.2
      have HBW := Lib.hid (HA.out.trans HST.out.2.2.2.2.2.1)
      have hbs : w.heap.size ≤ wr.heap.size := Nat.le_of_lt (Nat.lt_of_le_of_lt HST.out.2.2.2.2.2.2 HST.out.1.1)
      have hc1 := (HBW.out.cell (p := ⟨b0, off + k * 2, none⟩) hbB).trans (HCELL.out k hlt).1
      have hc2 := (HBW.out.cell (p := ⟨b0, off + k * 2 + 1, none⟩) hbB).trans (HCELL.out k hlt).2
      obtain ⟨y, hy⟩ : ∃ y, l.getD k (0, 0) = y := ⟨_, rfl⟩
      have HY := Lib.hid hy
      have HT' := Lib.hid (show l.take (k + 1) = l.take k ++ [y] by rw [HT.out, hy])
      rw [hy] at hc1 hc2
      clear hy
      obtain ⟨y1, y2⟩ := y
      simp only at hc1 hc2
      obtain ⟨L, hL⟩ : ∃ L, L = putL (x1, x2) (l.take k) b := ⟨_, rfl⟩
      rw [← hL] at HST hll
      rw [← hL] at g2
      have HLD := Lib.hid hL
      clear hL
      cases b with
      | false =>
        rcases ha : aftB (y1, y2) (x1, x2) with _ | _
        · have HN := Lib.hid (put_now HPUT.out ha)
          go_wp2_with fail
          go_still_tail 9, (by kernel_rfl)
          change wpList _ _ _ _ _ wr.drew
          have hdr : Below wr.heap.size wr wr.drew := (Below.refl _ _).drew
          have HSD := Lib.hid (HST.out.below hdr)
          clear hdr g1 g2 gf b1 e0 e1 hc1 hc2
          generalize wr.drew = w2 at *
          go_wp2_with fail
          refine (after_no (y1, y2) (x1, x2) _ ha).mono ?_
          rintro e w3 ⟨rfl, hb3⟩
          have HSE := Lib.hid (HSD.out.below hb3)
          clear hb3
          obtain ⟨hlt0, g1, g2⟩ := HSE.out.1
          have gf := HSE.out.2.1
          have b1 := (HSE.out.cell (o := w.heap.size) (k := 1) (by simp)).trans BX.out.2.2
          have e0 := (HSE.out.cell (o := w.heap.size + 1) (k := 0) (by simp)).trans HX.out.2.1
          have e1 := (HSE.out.cell (o := w.heap.size + 1) (k := 1) (by simp)).trans HX.out.2.2
          have HBW := Lib.hid (HA.out.trans HSE.out.2.2.2.2.2.1)
          have hbs : w.heap.size ≤ w3.heap.size := Nat.le_of_lt (Nat.lt_of_le_of_lt HSE.out.2.2.2.2.2.2 HSE.out.1.1)
          have hc1 := (HBW.out.cell (p := ⟨b0, off + k * 2, none⟩) hbB).trans (HCELL.out k hlt).1
          have hc2 := (HBW.out.cell (p := ⟨b0, off + k * 2 + 1, none⟩) hbB).trans (HCELL.out k hlt).2
          rw [HY.out] at hc1 hc2
          simp only at hc1 hc2
          go_wp2_with (at_builtin; refine wpList_at _ rfl _ _ 24 rfl w.heap.size 108 (.agg #[.int .i64 0, .int .i64 0]) 2 16 Try.underlying24 infoBar rfl (by decide) _ _ _ rfl HSE.out.2.2.2.1 #[.int .i64 x1, .int .i64 x2] 1 rfl (by simp [Value.oneCell']) _ 1 rfl (by omega) (by unfold maxLen; omega) hbs ?_; intro v' w' ho hg hat _; obtain ⟨c0, c1, f1, A2, c2, rfl, hG2⟩ := HSE.out.push (x1, x2) ho hg hat; have HGX := Lib.hid hG2; clear ho hg hat hG2)
          clear hlt0 g1 g2 gf b1 e0 e1 hbs hc1 hc2 c0 c1 f1
          generalize w'.setCell ⟨w.heap.size + 3 + 1, 1, none⟩ (.slice A2 (L.length + 1) c2) = w4 at *
          obtain ⟨L2, hL2⟩ : ∃ L2, L2 = L ++ [(x1, x2)] := ⟨_, rfl⟩
          have hl2 : L.length + 1 = L2.length := by rw [hL2]; simp
          rw [← hL2] at HGX
          rw [hl2]
          have HL2 := Lib.hid hL2
          clear hL2
          obtain ⟨hlt0, g1, g2⟩ := HGX.out.1
          have gf := HGX.out.2.1
          have b1 := (HGX.out.cell (o := w.heap.size) (k := 1) (by simp)).trans BX.out.2.2
          have e0 := (HGX.out.cell (o := w.heap.size + 1) (k := 0) (by simp)).trans HX.out.2.1
          have e1 := (HGX.out.cell (o := w.heap.size + 1) (k := 1) (by simp)).trans HX.out.2.2
          have HBW := Lib.hid (HA.out.trans HGX.out.2.2.2.2.2.1)
          have hbs : w.heap.size ≤ w4.heap.size := Nat.le_of_lt (Nat.lt_of_le_of_lt HGX.out.2.2.2.2.2.2 HGX.out.1.1)
          have hc1 := (HBW.out.cell (p := ⟨b0, off + k * 2, none⟩) hbB).trans (HCELL.out k hlt).1
          have hc2 := (HBW.out.cell (p := ⟨b0, off + k * 2 + 1, none⟩) hbB).trans (HCELL.out k hlt).2
          rw [HY.out] at hc1 hc2
          simp only at hc1 hc2
          go_region_law (refine step_append_lies _ (by rfl) _ _ _ (by rfl) w.heap.size 108 i0 _ 2 16 Try.underlying24 hi0 hz0 hz1 hz2 rfl (by omega) _ L2.length (barCells L2) (by rfl) ((HGX.out.2.2.2.1.alloc _).drew) ⟨w4.heap.size, 0, none⟩ 1 1 [.int .i64 y1, .int .i64 y2] (by rfl) (by rfl) (World.news_of_block (cs := #[.int .i64 y1, .int .i64 y2]) (t := 108) (fr := (0, 0)) (heap_alloc_new w4 _)) (by simp [Value.oneCell']) (by omega) (by unfold maxLen; omega) (by omega) (by simp; omega) (w4.heap.size + 1) (by simp) ?_; intro gg cap2 w1' hown1 hgrow hat hlt; obtain ⟨c0, c1, f1, hG2⟩ := HGX.out.push2 (y1, y2) hown1 hgrow hat; have HG2 := Lib.hid hG2; clear hown1 hgrow hat hG2)
          all_goals
            go_wp2_with fail
            go_roundw
            case rel => exact ⟨k + 1, by omega, by go_num, true, rfl, by rw [HT'.out]; exact HN.out.1, _, cap2, by rw [HT'.out, HN.out.2, ← HLD.out, ← HL2.out]; first | exact HG2.out | exact HG2.out.drew⟩
            case measure => simp [intOf]; omega
        · have HN := Lib.hid (put_yes HPUT.out ha)
          go_wp2_with fail
          go_still_tail 9, (by kernel_rfl)
          change wpList _ _ _ _ _ wr.drew
          have hdr : Below wr.heap.size wr wr.drew := (Below.refl _ _).drew
          have HSD := Lib.hid (HST.out.below hdr)
          clear hdr g1 g2 gf b1 e0 e1 hc1 hc2
          generalize wr.drew = w2 at *
          go_wp2_with fail
          refine (after_yes (y1, y2) (x1, x2) _ ha).mono ?_
          rintro e w3 ⟨rfl, hb3⟩
          have HSE := Lib.hid (HSD.out.below hb3)
          clear hb3
          obtain ⟨hlt0, g1, g2⟩ := HSE.out.1
          have gf := HSE.out.2.1
          have b1 := (HSE.out.cell (o := w.heap.size) (k := 1) (by simp)).trans BX.out.2.2
          have e0 := (HSE.out.cell (o := w.heap.size + 1) (k := 0) (by simp)).trans HX.out.2.1
          have e1 := (HSE.out.cell (o := w.heap.size + 1) (k := 1) (by simp)).trans HX.out.2.2
          have HBW := Lib.hid (HA.out.trans HSE.out.2.2.2.2.2.1)
          have hbs : w.heap.size ≤ w3.heap.size := Nat.le_of_lt (Nat.lt_of_le_of_lt HSE.out.2.2.2.2.2.2 HSE.out.1.1)
          have hc1 := (HBW.out.cell (p := ⟨b0, off + k * 2, none⟩) hbB).trans (HCELL.out k hlt).1
          have hc2 := (HBW.out.cell (p := ⟨b0, off + k * 2 + 1, none⟩) hbB).trans (HCELL.out k hlt).2
          rw [HY.out] at hc1 hc2
          simp only at hc1 hc2
          go_wp2_with fail
          go_region_law (refine step_append_lies _ (by rfl) _ _ _ (by rfl) w.heap.size 108 i0 _ 2 16 Try.underlying24 hi0 hz0 hz1 hz2 rfl (by omega) _ L.length (barCells L) (by rfl) ((HSE.out.2.2.2.1.alloc _).drew) ⟨w3.heap.size, 0, none⟩ 1 1 [.int .i64 y1, .int .i64 y2] (by rfl) (by rfl) (World.news_of_block (cs := #[.int .i64 y1, .int .i64 y2]) (t := 108) (fr := (0, 0)) (heap_alloc_new w3 _)) (by simp [Value.oneCell']) (by omega) (by unfold maxLen; omega) (by omega) (by simp; omega) (w3.heap.size + 1) (by simp) ?_; intro gg cap2 w1' hown1 hgrow hat hlt; obtain ⟨c0, c1, f1, hG2⟩ := HSE.out.push2 (y1, y2) hown1 hgrow hat; have HG2 := Lib.hid hG2; clear hown1 hgrow hat hG2)
          all_goals
            go_wp2_with fail
            go_roundw
            case rel => exact ⟨k + 1, by omega, by go_num, false, rfl, by rw [HT'.out]; exact HN.out.1, _, cap2, by rw [HT'.out, HN.out.2, ← HLD.out]; first | exact HG2.out | exact HG2.out.drew⟩
            case measure => simp [intOf]; omega
      | true =>
        have HN := Lib.hid (put_past (y := (y1, y2)) HPUT.out)
        go_wp2_with fail
        go_quiet (fail)
        have HSE := Lib.hid (HST.out.below (below_drewN wr.heap.size wr nq))
        clear hlt0 g1 g2 gf b1 e0 e1 hbs hc1 hc2
        generalize wr.drewN nq = w3 at *
        obtain ⟨hlt0, g1, g2⟩ := HSE.out.1
        have gf := HSE.out.2.1
        have b1 := (HSE.out.cell (o := w.heap.size) (k := 1) (by simp)).trans BX.out.2.2
        have e0 := (HSE.out.cell (o := w.heap.size + 1) (k := 0) (by simp)).trans HX.out.2.1
        have e1 := (HSE.out.cell (o := w.heap.size + 1) (k := 1) (by simp)).trans HX.out.2.2
        have HBW := Lib.hid (HA.out.trans HSE.out.2.2.2.2.2.1)
        have hbs : w.heap.size ≤ w3.heap.size := Nat.le_of_lt (Nat.lt_of_le_of_lt HSE.out.2.2.2.2.2.2 HSE.out.1.1)
        have hc1 := (HBW.out.cell (p := ⟨b0, off + k * 2, none⟩) hbB).trans (HCELL.out k hlt).1
        have hc2 := (HBW.out.cell (p := ⟨b0, off + k * 2 + 1, none⟩) hbB).trans (HCELL.out k hlt).2
        rw [HY.out] at hc1 hc2
        simp only at hc1 hc2
        go_wp2_with fail
        go_region_law (refine step_append_lies _ (by rfl) _ _ _ (by rfl) w.heap.size 108 i0 _ 2 16 Try.underlying24 hi0 hz0 hz1 hz2 rfl (by omega) _ L.length (barCells L) (by rfl) ((HSE.out.2.2.2.1.alloc _).drew) ⟨w3.heap.size, 0, none⟩ 1 1 [.int .i64 y1, .int .i64 y2] (by rfl) (by rfl) (World.news_of_block (cs := #[.int .i64 y1, .int .i64 y2]) (t := 108) (fr := (0, 0)) (heap_alloc_new w3 _)) (by simp [Value.oneCell']) (by omega) (by unfold maxLen; omega) (by omega) (by simp; omega) (w3.heap.size + 1) (by simp) ?_; intro gg cap2 w1' hown1 hgrow hat hlt; obtain ⟨c0, c1, f1, hG2⟩ := HSE.out.push2 (y1, y2) hown1 hgrow hat; have HG2 := Lib.hid hG2; clear hown1 hgrow hat hG2)
        all_goals
          go_wp2_with fail
          go_roundw
          case rel => exact ⟨k + 1, by omega, by go_num, true, rfl, by rw [HT'.out]; exact HN.out.1, _, cap2, by rw [HT'.out, HN.out.2, ← HLD.out]; first | exact HG2.out | exact HG2.out.drew⟩
          case measure => simp [intOf]; omega
    · obtain rfl : k = l.length := by omega
      have HTL := Lib.hid (List.take_length (l := l))
      have r0 := (HST.out.cell (o := w.heap.size + 2) (k := 0) (by simp)).trans HR.out.2.1
      have r1 := (HST.out.cell (o := w.heap.size + 2) (k := 1) (by simp)).trans HR.out.2.2
      have f0 := (HST.out.frozen (o := w.heap.size + 2) (k := 0) (by simp)).trans HF.out.1
      have f1 := (HST.out.frozen (o := w.heap.size + 2) (k := 1) (by simp)).trans HF.out.2
      have b1 := (HST.out.cell (o := w.heap.size) (k := 1) (by simp)).trans BX.out.2.2
      have e0 := (HST.out.cell (o := w.heap.size + 1) (k := 0) (by simp)).trans HX.out.2.1
      have e1 := (HST.out.cell (o := w.heap.size + 1) (k := 1) (by simp)).trans HX.out.2.2
      obtain ⟨hlt0, g1, g2⟩ := HST.out.1
      have gf := HST.out.2.1
      have hbs : w.heap.size ≤ wr.heap.size := Nat.le_of_lt (Nat.lt_of_le_of_lt HST.out.2.2.2.2.2.2 HST.out.1.1)
      have hll := putL_len (x1, x2) (l.take l.length) b
      have hlk : (l.take l.length).length = l.length := by simp
      obtain ⟨L, hL⟩ : ∃ L, L = putL (x1, x2) (l.take l.length) b := ⟨_, rfl⟩
      rw [← hL] at HST hll g2
      have HLD := Lib.hid hL
      clear hL
      cases b with
      | true =>
        have HE := Lib.hid (show insU (x1, x2) l = L by rw [HLD.out, HTL.out]; rfl)
        have hpos : 0 < L.length := by rw [← HE.out, insU_len]; omega
        obtain ⟨gg, cc, ee⟩ := own_pos HST.out.2.2.2.1 hpos
        obtain ⟨rfl, rfl⟩ : A' = some ⟨gg, 0, none⟩ ∧ c' = cc := by injection ee with e1 _ e2; exact ⟨e1, e2⟩
        obtain ⟨s0, s1⟩ := ret_cells (p := p) (v := .slice (some ⟨gg, 0, none⟩) L.length c') r0 r1
        obtain ⟨q1, q2⟩ := HST.out.retW (o := w.heap.size + 2) (by simp) (by omega) (.int .i64 p) (.slice (some ⟨gg, 0, none⟩) L.length c')
        have HQ1 := Lib.hid q1
        have HQ2 := Lib.hid q2
        clear q1 q2
        go_wp2_with fail
        refine bodyPost_ret (v := .agg #[.int .i64 p, .slice (some ⟨gg, 0, none⟩) L.length c']) ?_ rfl ⟨gg, c', by rw [HE.out], by rw [HE.out]; exact HQ1.out, HA.out.trans HQ2.out⟩
        simp [results, Try.results206, go_sem, s0, s1]
      | false =>
        have HE := Lib.hid (show insU (x1, x2) l = L ++ [(x1, x2)] by rw [HLD.out, HTL.out]; have := HPUT.out; rw [HTL.out] at this; exact put_end this)
        go_wp2_with (at_builtin; refine wpList_at _ rfl _ _ 24 rfl w.heap.size 108 (.agg #[.int .i64 0, .int .i64 0]) 2 16 Try.underlying24 infoBar rfl (by decide) _ _ _ rfl HST.out.2.2.2.1 #[.int .i64 x1, .int .i64 x2] 1 rfl (by simp [Value.oneCell']) _ 1 rfl (by omega) (by unfold maxLen; omega) hbs ?_; intro v' w' ho hg hat _; obtain ⟨c0, c1, f1', A2, c2, rfl, hG2⟩ := HST.out.push (x1, x2) ho hg hat; have HGX := Lib.hid hG2; clear ho hg hat; have r0' := (hG2.cell (o := w.heap.size + 2) (k := 0) (by simp)).trans HR.out.2.1; have r1' := (hG2.cell (o := w.heap.size + 2) (k := 1) (by simp)).trans HR.out.2.2; have f0' := (hG2.frozen (o := w.heap.size + 2) (k := 0) (by simp)).trans HF.out.1; have f1'' := (hG2.frozen (o := w.heap.size + 2) (k := 1) (by simp)).trans HF.out.2; obtain ⟨_, g1', g2'⟩ := hG2.1; rw [List.length_append, List.length_singleton] at g2'; clear hG2)
        obtain ⟨gg, cc, ee⟩ := own_pos HGX.out.2.2.2.1 (by simp)
        obtain ⟨rfl, rfl⟩ : A2 = some ⟨gg, 0, none⟩ ∧ c2 = cc := by injection ee with e1 _ e2; exact ⟨e1, e2⟩
        obtain ⟨s0, s1⟩ := ret_cells (p := p) (v := .slice (some ⟨gg, 0, none⟩) (L.length + 1) c2) r0' r1'
        obtain ⟨q1, q2⟩ := HGX.out.retW (o := w.heap.size + 2) (by simp) (by omega) (.int .i64 p) (.slice (some ⟨gg, 0, none⟩) (L.length + 1) c2)
        refine bodyPost_ret (v := .agg #[.int .i64 p, .slice (some ⟨gg, 0, none⟩) (L.length + 1) c2]) ?_ rfl ⟨gg, c2, by rw [HE.out, List.length_append, List.length_singleton], by rw [HE.out]; have q1' := q1; rw [List.length_append, List.length_singleton] at q1' ⊢; exact q1', HA.out.trans q2⟩
        simp [results, Try.results206, go_sem, s0, s1]
end Go.Proofs.Ytdkpmaahinbhlaa
