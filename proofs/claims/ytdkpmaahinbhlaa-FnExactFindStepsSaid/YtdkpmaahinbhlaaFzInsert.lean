/- What slices.Insert does with one bar and a row of the call's own. No condition. -/
import Derived.Test.YtdkpmaahinbhlaaFzDelete
import Derived.Test.YtdkpmaahinbhlaaFzSearch
import Derived.Shelf.Spec.SlicesInsert
import Derived.Lib.AppendZerosOnto
import Derived.Lib.Overlaps
import Derived.Laws.Externs
import Derived.Deep.DeepCutAuto
namespace Go.Proofs.Ytdkpmaahinbhlaa
open Go.RowKit

/-- A copy of bars. -/
theorem copy_bars (w : World) (ty : TypeId) (b o dLen dCap : Nat) (a : Addr) (sLen sCap k : Nat) (cs : List Value) (hk : Nat.min sLen dLen = k) (hl : cs.length = k * 2)
    (hsrc : ∀ j v, cs[j]? = some v → w.cell? (a.add j) = some v) (hc : ∀ j, j < cs.length → (w.cell? ⟨b, o + j, none⟩).isSome = true) (hf : ∀ j, j < cs.length → w.frozen? ⟨b, o + j, none⟩ = false) (h1 : ∀ v ∈ cs, v.oneCell' = true) :
    (Builtin.copy_ #[24, 24] ty #[.slice (some ⟨b, o, none⟩) dLen dCap, .slice (some a) sLen sCap]).run Try.prog w = .ok (goInt k) (w.setCells b o cs) := by
  have hu := Try.underlying24
  have hst := run_storeCells_cells (P := Try.prog) b o cs 0 w (by simpa using hc) (by simpa using hf) h1
  obtain ⟨i, hi, _, hz1, _⟩ := info_parts infoBar
  have hfc := run_firstCells_some (P := Try.prog) w 2 k a sLen sCap cs hl hsrc
  simp [Builtin.copy_, run_underlying hu, Builtin.lenOf, sizeOf, typeInfo, hi, hz1, hk, hfc, hst]

/-- A row of the call's own, one bar longer, somewhere. -/
def InsP (w : World) (base g : Nat) (L : List (Int × Int)) (e : Ending) (w' : World) : Prop :=
  ∃ A3 c3, e = .returned (.slice A3 L.length c3) ∧ w'.ownsRow base 108 2 (.slice A3 L.length c3) L.length (barCells L) ∧ w.grownBy w' (some g) ∧ ∀ a, A3 = some a → a.block = g ∨ w.heap.size ≤ a.block
theorem ins_len (l : List (Int × Int)) (i : Nat) (x : Int × Int) (hi : i ≤ l.length) : (l.take i ++ x :: l.drop i).length = l.length + 1 := by simp; omega

set_option maxHeartbeats 2000000 in
set_option maxRecDepth 100000 in
theorem insert_end (l : List (Int × Int)) (x : Int × Int) (A : Option Addr) (c base vb g : Nat) (w : World) (hown : w.ownsRow base 108 2 (.slice A l.length c) l.length (barCells l)) (hA : ∀ a, A = some a → a.block = g) (hbase : base ≤ w.heap.size) (hn : l.length ≤ 24) (hv : w.heap[vb]? = some (.cells #[.int .i64 x.1, .int .i64 x.2] 108 (0, 0))) :
    Calls Try.prog 248 #[.slice A l.length c, .int .i64 (l.length : Int), .slice (some ⟨vb, 0, none⟩) 1 1] w (InsP w base g (l ++ [x])) := by
  obtain ⟨i0, hi0, hz0, hz1, hz2⟩ := info_parts infoBar
  have hvc : ∀ j u, [Value.int .i64 x.1, .int .i64 x.2][j]? = some u → w.cell? ((⟨vb, 0, none⟩ : Addr).add j) = some u := fun j u hj => by
    rw [Addr.add_lit, Nat.zero_add, cell_of_row w vb j _ _ _ hv]
    simpa using hj
  obtain ⟨L, hL⟩ : ∃ L, L = l ++ [x] := ⟨_, rfl⟩
  have hLn : l.length + 1 = L.length := by rw [hL]; simp
  have hLb : barCells l ++ [.int .i64 x.1, .int .i64 x.2] = barCells L := by rw [hL, barCells_append]; rfl
  rw [← hL]
  have HV := Lib.hid hvc
  have HO := Lib.hid hown
  have HAA := Lib.hid hA
  have HLB := Lib.hid hLb
  have h0 : (0 : Int) ≤ (l.length : Int) := by omega
  have hcc : l.length ≤ c := by
    rcases hown.2 with ⟨_, h''⟩ | ⟨g', cap', cur, h', _, _, h'', _⟩
    · omega
    · simp only [Value.slice.injEq] at h'; omega
  clear hvc hown hA hL hLb hv
  cases A with
  | none =>
    go_enter Try.func248, Try.ntmps248
    go_wp2_with (at_builtin; refine wpList_append_own_at _ rfl _ _ 24 rfl base 108 i0 _ 2 16 Try.underlying24 hi0 hz0 hz1 hz2 rfl (by omega) _ l.length (barCells l) rfl HO.out ⟨vb, 0, none⟩ 1 1 [.int .i64 x.1, .int .i64 x.2] rfl rfl HV.out (by simp [Value.oneCell']) (by unfold maxLen; omega) (by omega) hbase ?_; intro v' w' ho hg _ hat; rw [HLB.out, hLn] at ho; obtain ⟨A3, c3, rfl⟩ := own_shape ho; have HO2 := Lib.hid ho; have HG := Lib.hid hg; have HAT := Lib.hid hat; clear ho hg hat)
    go_ret
    refine ⟨A3, c3, rfl, HO2.out, ⟨HG.out.os, HG.out.tape, HG.out.output, HG.out.size, fun k hk _ => HG.out.block k hk (fun e => by cases e)⟩, fun a e => ?_⟩
    subst e
    rcases HAT.out with h | h
    · cases h
    · exact .inr (Nat.le_of_eq (Option.some.inj h).symm)
  | some a =>
    have hag := HAA.out a rfl
    go_enter Try.func248, Try.ntmps248
    go_wp2_with (at_builtin; refine wpList_append_own_at _ rfl _ _ 24 rfl base 108 i0 _ 2 16 Try.underlying24 hi0 hz0 hz1 hz2 rfl (by omega) _ l.length (barCells l) rfl HO.out ⟨vb, 0, none⟩ 1 1 [.int .i64 x.1, .int .i64 x.2] rfl rfl HV.out (by simp [Value.oneCell']) (by unfold maxLen; omega) (by omega) hbase ?_; intro v' w' ho hg _ hat; rw [HLB.out, hLn] at ho; obtain ⟨A3, c3, rfl⟩ := own_shape ho; have HO2 := Lib.hid ho; have HG := Lib.hid hg; have HAT := Lib.hid hat; clear ho hg hat)
    all_goals
      go_ret
      refine ⟨A3, c3, rfl, HO2.out, by rw [← hag]; exact HG.out, fun a' e => ?_⟩
      subst e
      rcases HAT.out with h | h
      · exact .inl ((Option.some.inj h).trans hag)
      · exact .inr (Nat.le_of_eq (Option.some.inj h).symm)
theorem zero_bars (k : Nat) : (Builtin.zeroCells (Value.agg #[.int .i64 0, .int .i64 0]).cells k).size = k * 2 := by simp [Builtin.zeroCells, Value.cells]

set_option maxHeartbeats 1000000 in
set_option maxRecDepth 100000 in
/-- There is no room. -/
theorem insert_grow (l : List (Int × Int)) (x : Int × Int) (i base vb g : Nat) (w : World) (hown : w.ownsRow base 108 2 (.slice (some ⟨g, 0, none⟩) l.length l.length) l.length (barCells l)) (hbase : base ≤ w.heap.size) (hi : i < l.length) (hn : l.length ≤ 24) (hv : w.heap[vb]? = some (.cells #[.int .i64 x.1, .int .i64 x.2] 108 (0, 0))) :
    Calls Try.prog 248 #[.slice (some ⟨g, 0, none⟩) l.length l.length, .int .i64 (i : Int), .slice (some ⟨vb, 0, none⟩) 1 1] w (InsP w base g (l.take i ++ x :: l.drop i)) := by
  obtain ⟨i0, hi0, hz0, hz1, hz2⟩ := info_parts infoBar
  have hvw : vb < w.heap.size := (Array.getElem?_eq_some_iff.1 hv).1
  have hgw : g < w.heap.size := (hown.lt g rfl).2
  obtain ⟨L, hL⟩ : ∃ L, L = l.take i ++ x :: l.drop i := ⟨_, rfl⟩
  have hLn : l.length + 1 = L.length := by rw [hL, ins_len l i x (by omega)]
  have hLb : barCells L = (barCells l).take (i * 2) ++ ([.int .i64 x.1, .int .i64 x.2] ++ (barCells l).drop (i * 2)) := by
    rw [hL, barCells_append, barCells_take, show x :: l.drop i = [x] ++ l.drop i from rfl, barCells_append, barCells_drop]
    rfl
  rw [← hL]
  obtain ⟨G, hG⟩ : ∃ G, G = grownCap w (l.length + 1) l.length 108 := ⟨_, rfl⟩
  have hGn : l.length + 1 ≤ G := by rw [hG]; exact grownCap_ge w _ _ _
  have hG63 : G ≤ maxLen := by
    have := grownCap_le_maxLen w (l.length + 1) l.length 108 (by unfold maxLen; omega)
    rw [← hG] at this
    exact this
  obtain ⟨ROW, hROW⟩ : ∃ ROW : Array Value, ROW = ((barCells l).take (i * 2)).toArray ++ Builtin.zeroCells (Value.agg #[.int .i64 0, .int .i64 0]).cells (l.length + 1 - i) ++ Builtin.zeroCells (Value.agg #[.int .i64 0, .int .i64 0]).cells (G - (l.length + 1)) := ⟨_, rfl⟩
  have hlb := barCells_len l
  have hRs : ROW.size = G * 2 := by
    rw [hROW, Array.size_append, Array.size_append, zero_bars, zero_bars]
    simp
    omega
  have hRl : ROW.toList.length = G * 2 := by simpa using hRs
  have hrz : ∀ ty, (Builtin.append_ #[24, 3] ty #[.slice (some ⟨g, 0, none⟩) i l.length, .int .i64 ((l.length : Int) + 1 - (i : Int))]).run Try.prog w = .ok (.slice (some ⟨w.heap.size, 0, none⟩) (l.length + 1) G) (w.drew.alloc (.cells ROW 108)) := fun ty => by
    have hold : (Builtin.firstCells i0.size i (.slice (some ⟨g, 0, none⟩) i l.length)).run Try.prog w.drew = .ok ((barCells l).take (i * 2)).toArray w.drew := by
      rw [hz1]
      refine run_firstCells_some w.drew 2 i ⟨g, 0, none⟩ i l.length ((barCells l).take (i * 2)) (by rw [List.length_take]; omega) fun j v hj => ?_
      rw [List.getElem?_take] at hj
      split at hj
      · rw [Addr.add_lit, Nat.zero_add]
        exact (hown.cellAt j (by omega)).trans hj
      · cases hj
    have h := Go.Lib.run_append_grow_zeros w 24 3 ty 108 i0 _ .i64 .i64 Try.underlying24 Try.underlying3 hi0 hz0 (some ⟨g, 0, none⟩) i l.length ((barCells l).take (i * 2)) hold (l.length + 1 - i) (by omega) (by omega) (by omega) (by omega) (by rw [hz2]; omega) (by rw [hz2]; exact growslice_fits (by omega) (by omega))
    rw [show i + (l.length + 1 - i) = l.length + 1 by omega, ← hG, ← hROW] at h
    rw [show (l.length : Int) + 1 - (i : Int) = ((l.length + 1 - i : Nat) : Int) by omega]
    exact h
  have hown1 : (w.drew.alloc (.cells ROW 108)).ownsRow base 108 2 (.slice (some ⟨w.heap.size, 0, none⟩) (l.length + 1) G) (l.length + 1) (ROW.toList.take ((l.length + 1) * 2)) :=
    ⟨by rw [List.length_take, hRl]; omega, .inr ⟨w.heap.size, G, ROW, rfl, hbase, heap_alloc_new w.drew _, hGn, hG63, hRs, rfl⟩⟩
  obtain ⟨XS, hXS⟩ : ∃ XS, XS = ROW.toList.take ((l.length + 1) * 2) := ⟨_, rfl⟩
  have hXl : XS.length = (l.length + 1) * 2 := by rw [hXS, List.length_take, hRl]; omega
  have hXg : ∀ j, j < i * 2 → XS[j]? = (barCells l)[j]? := fun j hj => by
    rw [hXS, List.getElem?_take, if_pos (by omega), Array.getElem?_toList, hROW, Array.append_assoc, Array.getElem?_append, if_pos (by simp; omega)]
    simp [hj]
  rw [← hXS] at hown1
  have hwd : Below w.heap.size w (w.drew.alloc (.cells ROW 108)) := ((Below.refl _ _).drew).alloc (Nat.le_refl _) _
  obtain ⟨W1, hW1⟩ : ∃ W1, W1 = w.drew.alloc (.cells ROW 108) := ⟨_, rfl⟩
  rw [← hW1] at hrz hown1 hwd
  obtain ⟨ys, hy1, hy2, hy3, hy4⟩ := own_setCells [.int .i64 x.1, .int .i64 x.2] (i * 2) _ XS hown1
  have hcp1 : ∀ ty dl dc, Nat.min 1 dl = 1 → (Builtin.copy_ #[24, 24] ty #[.slice (some ⟨w.heap.size, i * 2, none⟩) dl dc, .slice (some ⟨vb, 0, none⟩) 1 1]).run Try.prog W1 = .ok (goInt 1) (W1.setCells w.heap.size (i * 2) [.int .i64 x.1, .int .i64 x.2]) := fun ty dl dc hm =>
    copy_bars _ ty w.heap.size (i * 2) dl dc ⟨vb, 0, none⟩ 1 1 1 _ hm rfl
      (fun j v hj => by
        rw [Addr.add_lit, Nat.zero_add, (hwd.cell (p := ⟨vb, j, none⟩) hvw), cell_of_row w vb j _ _ _ hv]
        simpa using hj)
      (fun j hj => by rw [hown1.cellAt _ (by simp at hj; omega), List.getElem?_eq_getElem (by simp at hj; omega)]; rfl) (fun j _ => hown1.frozenAt _) (by simp [Value.oneCell'])
  obtain ⟨W2, hW2⟩ : ∃ W2, W2 = W1.setCells w.heap.size (i * 2) [.int .i64 x.1, .int .i64 x.2] := ⟨_, rfl⟩
  rw [← hW2] at hcp1 hy1 hy2
  have hy1d : W2.drew.ownsRow base 108 2 (.slice (some ⟨w.heap.size, 0, none⟩) (l.length + 1) G) (l.length + 1) ys := hy1.drew
  obtain ⟨zs, hz1', hz2', hz3, hz4⟩ := own_setCells ((barCells l).drop (i * 2)) ((i + 1) * 2) W2.drew ys hy1d
  have hgW2 : ∀ j, W2.drew.cell? ⟨g, j, none⟩ = w.cell? ⟨g, j, none⟩ := fun j => by
    have h1 : W2.cell? ⟨g, j, none⟩ = W1.cell? ⟨g, j, none⟩ := World.cell?_of_block (a := ⟨g, j, none⟩) (hy2.block g (Nat.lt_of_lt_of_le hgw hwd.size) (by simp; omega))
    exact h1.trans (hwd.cell (p := ⟨g, j, none⟩) hgw)
  have hcp2 : ∀ ty dl dc sc, Nat.min (l.length - i) dl = l.length - i → (Builtin.copy_ #[24, 24] ty #[.slice (some ⟨w.heap.size, (i + 1) * 2, none⟩) dl dc, .slice (some ⟨g, i * 2, none⟩) (l.length - i) sc]).run Try.prog W2.drew = .ok (goInt ((l.length - i : Nat) : Int)) (W2.drew.setCells w.heap.size ((i + 1) * 2) ((barCells l).drop (i * 2))) := fun ty dl dc sc hm =>
    copy_bars _ ty w.heap.size ((i + 1) * 2) dl dc ⟨g, i * 2, none⟩ (l.length - i) sc (l.length - i) _ hm (by rw [List.length_drop]; omega)
      (fun j v hj => by
        rw [Addr.add_lit, hgW2, hown.cellAt _ (by have := (List.getElem?_eq_some_iff.1 hj).1; rw [List.length_drop] at this; omega)]
        rwa [List.getElem?_drop] at hj)
      (fun j hj => by rw [List.length_drop] at hj; rw [hy1d.cellAt _ (by omega), List.getElem?_eq_getElem (by omega)]; rfl) (fun j _ => hy1d.frozenAt _) (fun v hv => barCells_one l v (List.mem_of_mem_drop hv))
  have hfin : zs = barCells L := by
    apply List.ext_getElem?
    intro j
    by_cases hj : j < (l.length + 1) * 2
    · rw [hz4 j (by omega), hLb, List.length_drop, hlb]
      by_cases c1 : (i + 1) * 2 ≤ j
      · rw [if_pos (by omega), List.getElem?_append_right (by rw [List.length_take]; omega), List.getElem?_append_right (by rw [List.length_take]; simp; omega)]
        congr 1
        rw [List.length_take]
        simp
        omega
      · rw [if_neg (by omega), hy4 j (by omega)]
        by_cases c2 : i * 2 ≤ j
        · rw [if_pos (by simp; omega), List.getElem?_append_right (by rw [List.length_take]; omega), List.getElem?_append_left (by rw [List.length_take]; simp; omega)]
          congr 1
          rw [List.length_take]
          omega
        · rw [if_neg (by omega), hXg j (by omega), List.getElem?_append_left (by rw [List.length_take]; omega), List.getElem?_take, if_pos (by omega)]
    · rw [List.getElem?_eq_none (by omega), List.getElem?_eq_none (by rw [barCells_len]; omega)]
  rw [hfin, hLn] at hz1'
  obtain ⟨W3, hW3⟩ : ∃ W3, W3 = W2.drew.setCells w.heap.size ((i + 1) * 2) ((barCells l).drop (i * 2)) := ⟨_, rfl⟩
  rw [← hW3] at hcp2 hz1' hz2'
  have HO := Lib.hid hz1'
  have hbel : Below w.heap.size w W3 := ((hwd.grown hy2 hwd.size (fun k hk => by cases hk; exact Nat.le_refl _)).drew).grown hz2' (Nat.le_trans hwd.size hy2.size) (fun k hk => by cases hk; exact Nat.le_refl _)
  have HB := Lib.hid hbel
  have hRZ := Lib.hid hrz
  have HC1 := Lib.hid hcp1
  have HC2 := Lib.hid hcp2
  have HLN := Lib.hid hLn
  have k0 : (0 : Int) ≤ (i : Int) := by omega
  have k1 : (i : Int) ≤ (l.length : Int) := by omega
  have k2 : ¬ ((i : Int) = (l.length : Int)) := by omega
  have k2' : ¬ (i = l.length) := by omega
  have k3 : ¬ (l.length = i) := by omega
  have k4 : ¬ (G = i) := by omega
  have k5 : ¬ (G = i + 1) := by omega
  have k6 : (i : Int) ≤ (l.length : Int) + 1 := by omega
  have k7 : (i : Int) + 1 ≤ (l.length : Int) + 1 := by omega
  have k8 : (0 : Int) ≤ (i : Int) + 1 := by omega
  have k9 : ((i : Int) + 1).toNat = i + 1 := by omega
  have ka : IntKind.i64.wrap ((l.length : Int) + 1) = (l.length : Int) + 1 := IntWalk.i64_in _ (by omega)
  have kb : IntKind.i64.wrap ((l.length : Int) + 1 - (i : Int)) = (l.length : Int) + 1 - (i : Int) := IntWalk.i64_in _ (by omega)
  have kc : IntKind.i64.wrap ((i : Int) + 1) = (i : Int) + 1 := IntWalk.i64_in _ (by omega)
  clear hown hbase hv hvw hgw hL hLn hLb hG hGn hG63 hROW hlb hRs hRl hrz hown1 hXS hXl hXg hwd hW1 hy1 hy2 hy3 hy4 hcp1 hW2 hy1d hz1' hz2' hz3 hz4 hgW2 hcp2 hfin hW3 hbel
  go_enter Try.func248, Try.ntmps248
  go_upto_region 10 with (at_builtin; refine Go.Lib.wpList_append_run _ rfl _ _ _ _ rfl _ _ rfl rfl _ _ (hRZ.out _) ?_)
  go_wp2_with (with_reducible refine wpList_copy_runI _ rfl _ _ 24 24 rfl _ _ rfl rfl (HC1.out _ _ _ (by simp only [Nat.min_def]; split <;> omega)) ?_)
  go_region_law (refine step_copy_runI rfl _ _ 24 24 rfl (.slice (some ⟨w.heap.size, (i + 1) * 2, none⟩) (l.length + 1 - (i + 1)) (G - (i + 1))) (.slice (some ⟨g, i * 2, none⟩) (l.length - i) (l.length - i)) (by simp [Act.eval, Act.put]) (by simp [Act.eval, Act.put]) (HC2.out 3 (l.length + 1 - (i + 1)) (G - (i + 1)) (l.length - i) (by simp only [Nat.min_def]; split <;> omega)) ?_)
  all_goals
    go_wp2_with fail
    go_ret
    exact ⟨some ⟨w.heap.size, 0, none⟩, G, by rw [← HLN.out]; rfl, HO.out, ⟨HB.out.os, HB.out.tape, HB.out.output, HB.out.size, fun k hk _ => HB.out.block k hk⟩, fun a e => by cases e; exact .inr (Nat.le_refl _)⟩
end Go.Proofs.Ytdkpmaahinbhlaa
