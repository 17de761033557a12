/- slices.Insert, the third road: there is room: the bars behind the place move up. No condition. -/
import Derived.Test.YtdkpmaahinbhlaaFzInsert
import Derived.Test.YtdkpmaahinbhlaaFzRemove
namespace Go.Proofs.Ytdkpmaahinbhlaa
open Go.RowKit

theorem own_extend {w : World} {base g n c : Nat} {xs : List Value} (h : w.ownsRow base 108 2 (.slice (some ⟨g, 0, none⟩) n c) n xs) (hc : n + 1 ≤ c) : ∃ ys : List Value, w.ownsRow base 108 2 (.slice (some ⟨g, 0, none⟩) (n + 1) c) (n + 1) ys ∧ ys.length = (n + 1) * 2 ∧ ∀ j, j < n * 2 → ys[j]? = xs[j]? := by
  rcases h.2 with ⟨h', _⟩ | ⟨g', cap', cur, h', hb, hg, hnc, hcm, hcs, htake⟩
  · cases h'
  · cases h'
    have hl : cur.toList.length = c * 2 := by simpa using hcs
    refine ⟨cur.toList.take ((n + 1) * 2), ⟨by rw [List.length_take, hl]; omega, .inr ⟨g, c, cur, rfl, hb, hg, hc, hcm, hcs, rfl⟩⟩, by rw [List.length_take, hl]; omega, fun j hj => ?_⟩
    rw [← htake, List.getElem?_take, List.getElem?_take, if_pos (by omega), if_pos hj]

set_option maxHeartbeats 2000000 in
set_option maxRecDepth 100000 in
theorem insert_shift (l : List (Int × Int)) (x : Int × Int) (i c base vb g : Nat) (w : World) (hown : w.ownsRow base 108 2 (.slice (some ⟨g, 0, none⟩) l.length c) l.length (barCells l)) (hi : i < l.length) (hn : l.length ≤ 24) (hc : l.length + 1 ≤ c) (hvg : vb ≠ g) (hv : w.heap[vb]? = some (.cells #[.int .i64 x.1, .int .i64 x.2] 108 (0, 0))) :
    Calls Try.prog 248 #[.slice (some ⟨g, 0, none⟩) l.length c, .int .i64 (i : Int), .slice (some ⟨vb, 0, none⟩) 1 1] w (InsP w base g (l.take i ++ x :: l.drop i)) := by
  have hcm := (own_caps hown).2
  have hvw : vb < w.heap.size := (Array.getElem?_eq_some_iff.1 hv).1
  have hgw : g < w.heap.size := (hown.lt g rfl).2
  have hbg : base ≤ g := (hown.lt g rfl).1
  obtain ⟨L, hL⟩ : ∃ L, L = l.take i ++ x :: l.drop i := ⟨_, rfl⟩
  have hLn : l.length + 1 = L.length := by rw [hL, ins_len l i x (by omega)]
  have hlb := barCells_len l
  have hLb : barCells L = (barCells l).take (i * 2) ++ ([.int .i64 x.1, .int .i64 x.2] ++ (barCells l).drop (i * 2)) := by
    rw [hL, barCells_append, barCells_take, show x :: l.drop i = [x] ++ l.drop i from rfl, barCells_append, barCells_drop]
    rfl
  rw [← hL]
  obtain ⟨XS, hx1, hXl, hXg⟩ := own_extend hown hc
  have hov : ∀ lb cb, (callFunc 252 #[.slice (some ⟨vb, 0, none⟩) 1 1, .slice (some ⟨g, (i + 1) * 2, none⟩) lb cb]).run Try.prog w = .ok (.value (.bool false)) w := fun lb cb => by
    obtain ⟨cur, hcur, hcs⟩ : ∃ cur : Array Value, w.heap[g]? = some (.cells cur 108 (0, 0)) ∧ cur.size = c * 2 := by
      rcases hown.2 with ⟨h', _⟩ | ⟨g', cap', cur, h', _, hg, _, _, hcs, _⟩
      · cases h'
      · cases h'; exact ⟨cur, hg, hcs⟩
    rw [run_callFunc_extern Try.func252 (by kernel_rfl) (by kernel_rfl) (by kernel_rfl) (e := Extern.SlicesOverlaps.overlaps #[24, 24] #[4]) (by kernel_rfl),
      Go.Lib.run_overlaps_apart w 24 4 108 Try.underlying24 2 Try.sizeOf108 ⟨vb, 0, none⟩ ⟨g, (i + 1) * 2, none⟩ 1 1 lb cb hvg 108 108 2 (c * 2) (by simp [World.shape?, hv]) (by simp [World.shape?, hcur, hcs]) (by omega) (frozen_of_row w vb 0 _ _ hv) (frozen_of_row w vb 2 _ _ hv)]
    rfl
  have hx1d : w.drew.ownsRow base 108 2 (.slice (some ⟨g, 0, none⟩) (l.length + 1) c) (l.length + 1) XS := hx1.drew
  obtain ⟨ys, hy1, hy2, hy3, hy4⟩ := own_setCells ((barCells l).drop (i * 2)) ((i + 1) * 2) w.drew XS hx1d
  have hcp1 : ∀ ty dl dc sl sc, Nat.min sl dl = l.length - i → (Builtin.copy_ #[24, 24] ty #[.slice (some ⟨g, (i + 1) * 2, none⟩) dl dc, .slice (some ⟨g, i * 2, none⟩) sl sc]).run Try.prog w.drew = .ok (goInt ((l.length - i : Nat) : Int)) (w.drew.setCells g ((i + 1) * 2) ((barCells l).drop (i * 2))) := fun ty dl dc sl sc hm =>
    copy_bars _ ty g ((i + 1) * 2) dl dc ⟨g, i * 2, none⟩ sl sc (l.length - i) _ hm (by rw [List.length_drop]; omega)
      (fun j v hj => by
        have hjl := (List.getElem?_eq_some_iff.1 hj).1
        rw [List.length_drop] at hjl
        rw [Addr.add_lit, hx1d.cellAt _ (by omega), hXg _ (by omega)]
        rwa [List.getElem?_drop] at hj)
      (fun j hj => by rw [List.length_drop] at hj; rw [hx1d.cellAt _ (by omega), List.getElem?_eq_getElem (by omega)]; rfl) (fun j _ => hx1d.frozenAt _) (fun v hv => barCells_one l v (List.mem_of_mem_drop hv))
  obtain ⟨W1, hW1⟩ : ∃ W1, W1 = w.drew.setCells g ((i + 1) * 2) ((barCells l).drop (i * 2)) := ⟨_, rfl⟩
  rw [← hW1] at hcp1 hy1 hy2
  obtain ⟨zs, hz1', hz2', hz3, hz4⟩ := own_setCells [.int .i64 x.1, .int .i64 x.2] (i * 2) W1 ys hy1
  have hcp2 : ∀ ty dl dc, Nat.min 1 dl = 1 → (Builtin.copy_ #[24, 24] ty #[.slice (some ⟨g, i * 2, none⟩) dl dc, .slice (some ⟨vb, 0, none⟩) 1 1]).run Try.prog W1 = .ok (goInt 1) (W1.setCells g (i * 2) [.int .i64 x.1, .int .i64 x.2]) := fun ty dl dc hm =>
    copy_bars _ ty g (i * 2) dl dc ⟨vb, 0, none⟩ 1 1 1 _ hm rfl
      (fun j v hj => by
        have h1 : W1.cell? ⟨vb, j, none⟩ = w.drew.cell? ⟨vb, j, none⟩ := World.cell?_of_block (a := ⟨vb, j, none⟩) (hy2.block vb hvw (by simp; exact hvg))
        rw [Addr.add_lit, Nat.zero_add, h1]
        refine (cell_of_row w vb j _ _ _ hv).trans ?_
        simpa using hj)
      (fun j hj => by rw [hy1.cellAt _ (by simp at hj; omega), List.getElem?_eq_getElem (by simp at hj; omega)]; rfl) (fun j _ => hy1.frozenAt _) (by simp [Value.oneCell'])
  have hfin : zs = barCells L := by
    apply List.ext_getElem?
    intro j
    by_cases hj : j < (l.length + 1) * 2
    · rw [hz4 j (by omega), hLb]
      by_cases c1 : i * 2 ≤ j ∧ j < i * 2 + 2
      · rw [if_pos (by simp; omega), List.getElem?_append_right (by rw [List.length_take]; omega), List.getElem?_append_left (by rw [List.length_take]; simp; omega)]
        congr 1
        rw [List.length_take]
        omega
      · rw [if_neg (by simp; omega), hy4 j (by omega), List.length_drop, hlb]
        by_cases c2 : (i + 1) * 2 ≤ j
        · rw [if_pos (by omega), List.getElem?_append_right (by rw [List.length_take]; omega), List.getElem?_append_right (by rw [List.length_take]; simp; omega)]
          congr 1
          rw [List.length_take]
          simp
          omega
        · rw [if_neg (by omega), hXg j (by omega), List.getElem?_append_left (by rw [List.length_take]; omega), List.getElem?_take, if_pos (by omega)]
    · rw [List.getElem?_eq_none (by omega), List.getElem?_eq_none (by rw [barCells_len]; omega)]
  rw [hfin, hLn] at hz1'
  obtain ⟨W2, hW2⟩ : ∃ W2, W2 = W1.setCells g (i * 2) [.int .i64 x.1, .int .i64 x.2] := ⟨_, rfl⟩
  rw [← hW2] at hcp2 hz1' hz2'
  have hg0 : w.grownBy w.drew (some g) := ⟨rfl, rfl, rfl, Nat.le_refl _, fun _ _ _ => rfl⟩
  have HO := Lib.hid hz1'
  have HB := Lib.hid ((hg0.trans_ hy2).trans_ hz2')
  have HOV := Lib.hid hov
  have HC1 := Lib.hid hcp1
  have HC2 := Lib.hid hcp2
  have HLN := Lib.hid hLn
  have k0 : (0 : Int) ≤ (i : Int) := by omega
  have k1 : (i : Int) ≤ (l.length : Int) := by omega
  have k2 : ¬ ((i : Int) = (l.length : Int)) := by omega
  have k2' : ¬ (i = l.length) := by omega
  have k3 : ¬ (c = i) := by omega
  have k5 : ¬ (c = i + 1) := by omega
  have k6 : (i : Int) ≤ (l.length : Int) + 1 := by omega
  have k7 : (i : Int) + 1 ≤ (l.length : Int) + 1 := by omega
  have k8 : (0 : Int) ≤ (i : Int) + 1 := by omega
  have k9 : ((i : Int) + 1).toNat = i + 1 := by omega
  have kd : ((l.length : Int) + 1).toNat = l.length + 1 := by omega
  have ke : (l.length : Int) + 1 ≤ (c : Int) := by omega
  have ke' : ¬ (c : Int) < (l.length : Int) + 1 := by omega
  have kf : (0 : Int) ≤ (l.length : Int) + 1 := by omega
  have ka : IntKind.i64.wrap ((l.length : Int) + 1) = (l.length : Int) + 1 := IntWalk.i64_in _ (by omega)
  have kc : IntKind.i64.wrap ((i : Int) + 1) = (i : Int) + 1 := IntWalk.i64_in _ (by omega)
  have hov' := HOV.out
  clear hown hv hvw hgw hbg hL hLn hlb hLb hx1 hXl hXg hov hx1d hy1 hy2 hy3 hy4 hcp1 hW1 hz1' hz2' hz3 hz4 hcp2 hfin hW2 hg0
  go_enter Try.func248, Try.ntmps248
  go_wp2_with (simp only [hov'])
  go_region_law (refine step_copy_runI rfl _ _ 24 24 rfl (.slice (some ⟨g, (i + 1) * 2, none⟩) (l.length + 1 - (i + 1)) (c - (i + 1))) (.slice (some ⟨g, i * 2, none⟩) (l.length + 1 - i) (c - i)) (by simp [Act.eval, Act.put]) (by simp [Act.eval, Act.put]) (HC1.out 3 (l.length + 1 - (i + 1)) (c - (i + 1)) (l.length + 1 - i) (c - i) (by simp only [Nat.min_def]; split <;> omega)) ?_)
  all_goals
    go_wp2_with (with_reducible refine wpList_copy_runI _ rfl _ _ 24 24 rfl _ _ rfl rfl (HC2.out _ _ _ (by simp only [Nat.min_def]; split <;> omega)) ?_)
    go_ret
    exact ⟨some ⟨g, 0, none⟩, c, by rw [← HLN.out]; rfl, HO.out, HB.out, fun a e => by cases e; exact .inl rfl⟩
end Go.Proofs.Ytdkpmaahinbhlaa
