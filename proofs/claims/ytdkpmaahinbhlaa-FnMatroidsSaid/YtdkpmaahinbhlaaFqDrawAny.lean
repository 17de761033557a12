/- What spec.l2Any draws: some graph with few bars whose ends are small. No condition. -/
import Derived.Test.YtdkpmaahinbhlaaFqDrawGr
import Derived.Deep.RegionLaw
namespace Go.Proofs.Ytdkpmaahinbhlaa
open Go.RowKit

/-- Several cells, just laid, appended onto a row of the call's own, as one step of a region that draws its order: what is written, and where the row lies then. -/
theorem step_at {P : Program} (w : World) {ops : Array Oper} {o : Oper} {a : Act} {K : Act → World → Prop} {Q : Exit → Act → World → Prop} {E : Prop} (hgd : o.guard = none) (s x : Operand) (t : TypeId)
    (ho : o.op = .call { callee := .builtin .append, args := #[s, x], argTypes := #[t, t] })
    (base : Nat) (e : TypeId) (z : Value) (size bytes : Nat) (ht : P.underlying t = some (.slice e)) (hinfo : (P.info? e).map (fun i => (i.zero, i.size, i.bytes)) = some (some z, size, bytes)) (hzs : z.cells.size = size) (hsz : 0 < size)
    (v : Value) (n : Nat) (xs : List Value) (hs : a.eval s = v) (hown : w.ownsRow base e size v n xs) (us : Array Value) (m : Nat) (hm : us.size = m * size) (hu : ∀ u ∈ us.toList, u.oneCell' = true) (tb : TypeId) (c : Nat) (hx : a.eval x = .slice (some ⟨w.heap.size, 0, none⟩) m c)
    (hbytes : (n + m) * bytes ≤ 140737488355328) (h63 : n + m ≤ maxLen) (hbase : base ≤ w.heap.size)
    (h : ∀ v' w', w'.ownsRow base e size v' (n + m) (xs ++ us.toList) → w.grownBy w' v.ownBlock → (v'.ownBlock = v.ownBlock ∨ v'.ownBlock = some (w.heap.size + 1)) → K (a.put o.dst v') w') :
    if Region.wanted o (yielded ops a.tmps) = true then Oper.wp P o a (w.alloc (.cells us tb)) K Q else E := by
  obtain ⟨i, hi, hz0, hz1, hz2⟩ := info_parts hinfo
  have hw : Region.wanted o (yielded ops a.tmps) = true := by simp [Region.wanted, hgd]
  rw [if_pos hw]
  obtain ⟨v', w', hr, h2, h3, _, h5⟩ := run_append_own_at (P := P) (w.alloc (.cells us tb)) base t o.type e i z size bytes ht hi hz0 hz1 hz2 hzs hsz v n xs (hown.alloc _) ⟨w.heap.size, 0, none⟩ m c us.toList (by simpa using hm) (fun j y hj => by
    have : (⟨w.heap.size, 0, none⟩ : Addr).add j = ⟨w.heap.size, j, none⟩ := by unfold Addr.add; split <;> simp_all
    rw [this, World.cell?_alloc_at _ _ _ _ rfl]
    simpa using hj) hu h63 hbytes (by simp; omega)
  unfold Oper.wp execOp
  simp only [ho, resolve, invoke, builtin, Sem.run_bind, Sem.run_pure, Result.andThen_ok, List.map_toArray, List.map_cons, List.map_nil, hs, hx, hr]
  exact h v' w' h2 ((World.grownBy_alloc w (.cells us tb) v.ownBlock).trans_ h3) (by simpa using h5)

/-- What spec.l2Any draws. -/
def AnyP (_p : Int) (l : List (Int × Int)) : Prop := l.length ≤ 25 ∧ SmallB l

set_option maxHeartbeats 4000000 in
set_option maxRecDepth 100000 in
theorem any_c (w : World) (B g : Nat) (A : Option Addr) (len cap : Nat) (zs : Nat → Int) (hc : CodeIs w B A len zs) (hu : CurIs w B g A len cap) (hlen : len ≤ 140737488351232) (hBw : B ≤ w.heap.size) :
    Calls Try.prog 129 #[.pointer (some ⟨g, 0, none⟩)] w (DrawG w B g A len cap AnyP) := by
  have HC := Lib.hid hc
  have hBg := hu.1
  have hgw := hu.lt
  have hb1 := new_below w (.cells #[.int .i64 0, .slice none 0 0] 26)
  have HZ1 := Lib.hid (retz_new w)
  have HU1 := Lib.hid (hu.below hb1 hgw)
  have HG1 := Lib.hid (below_row g hb1)
  have hs1 : (w.alloc (.cells #[.int .i64 0, .slice none 0 0] 26)).heap.size = w.heap.size + 1 := by simp
  clear hc hu hb1
  go_enter Try.func129, Try.ntmps129
  go_wp2_with fail
  generalize (w.alloc (.cells #[.int .i64 0, .slice none 0 0] 26)) = w1 at *
  refine (graph_c w1 B g A len cap zs (HC.out.kept (grown_cur hBg hBw HG1.out)) HU1.out hlen (by omega)).mono ?_
  rintro e w4 ⟨p, a, c, l, ⟨hp, hl, hsm⟩, rfl, ho, hu4, hg4⟩
  have HSM := Lib.hid hsm
  have HD5 := Lib.hid (DG.box (p := p) HZ1.out HG1.out (by omega) hgw ho hu4 hg4)
  have hs4 := hg4.size
  clear hsm ho hu4 hg4
  go_wp2_with fail
  obtain ⟨bg, hbg⟩ : ∃ b, b = w4.heap.size := ⟨_, rfl⟩
  rw [← hbg] at HD5 ⊢
  clear hbg
  generalize (w4.alloc (.cells #[.int .i64 p, .slice (some ⟨a, 0, none⟩) l.length c] 26)) = w5 at *
  refine (below_c 16 w5 B g A len cap zs (HC.out.kept (grown_cur hBg hBw HD5.out.gr)) HD5.out.cu hlen (by omega) (by omega)).mono ?_
  rintro e w6 ⟨u, hu, rfl, hu6, hg6⟩
  have HD6 := Lib.hid (HD5.out.drawn hu6 hg6)
  have hs6 := HD6.out.lo
  clear hu6 hg6
  obtain ⟨_, g1, g2⟩ := HD6.out.gb.1
  by_cases h0 : u = 0
  · subst h0
    have hal := new_below w6 (.cells #[.int .i64 0, .int .i64 (-1), .int .i64 9, .int .i64 3] 3)
    have HD7 := Lib.hid (HD6.out.below hal)
    have hnw := heap_alloc_new w6 (.cells #[.int .i64 0, .int .i64 (-1), .int .i64 9, .int .i64 3] 3)
    have hs7 := HD7.out.lo
    clear g1 g2 hal
    go_wp2_with fail
    have hpk := pickInt_c [0, -1, 9, 3] w6.heap.size _ B g A len cap zs (HC.out.kept (grown_cur hBg hBw HD7.out.gr)) HD7.out.cu hlen (by omega) (by decide) hnw (by omega) (by decide) (by intro x hx; simp at hx; unfold InI64; omega)
    refine hpk.mono ?_
    rintro e w8 ⟨q, _, rfl, hu8, hg8⟩
    have HD8 := Lib.hid (HD7.out.drawn hu8 hg8)
    have HD9 := Lib.hid (HD8.out.points q)
    clear hu8 hg8 hpk hnw
    obtain ⟨_, g1, g2⟩ := HD8.out.gb.1
    have gf := HD8.out.f0
    obtain ⟨⟨r0, r1⟩, f0, f1⟩ := HD9.out.rz
    obtain ⟨s0, s1⟩ := ret_cells (p := q) (v := .slice (some ⟨a, 0, none⟩) l.length c) r0 r1
    go_wp2_with fail
    refine bodyPost_ret ?_ rfl (HD9.out.ret ⟨by omega, HSM.out⟩ (.int .i64 q) (.slice (some ⟨a, 0, none⟩) l.length c))
    simp [results, Try.results129, go_sem, s0, s1]
  · by_cases h1 : u = 1
    · subst h1
      have HDD := Lib.hid (HD6.out.below ((Below.refl _ w6).drew))
      have HCD := Lib.hid (HC.out.kept (grown_cur hBg hBw HDD.out.gr))
      go_wp2_with fail
      refine wp_region_any (by kernel_rfl) ?_
      change wpAny _ _ _ _ _ _ _ (World.drew _)
      refine wpAny_take (i := 0) (v := .pointer (some ⟨bg, 1, none⟩)) rfl (by kernel_rfl) (by kernel_rfl) (by kernel_rfl) (fun _ _ _ h => h) (Or.inl ⟨by rfl, fun w => by go_simp⟩) ?_
      refine wpAny_take (i := 2) (v := .pointer (some ⟨g, 0, none⟩)) rfl (by kernel_rfl) (by kernel_rfl) (by kernel_rfl) (fun _ _ _ h => h) (Or.inl ⟨by rfl, fun w => by go_simp⟩) ?_
      refine wpAny_take (i := 4) (v := .pointer (some ⟨g, 0, none⟩)) rfl (by kernel_rfl) (by kernel_rfl) (by kernel_rfl) (fun _ _ _ h => h) (Or.inl ⟨by rfl, fun w => by go_simp⟩) ?_
      refine wpAny_ready (rs := [1, 3]) (by kernel_rfl) (by simp) (AllReady.cons rfl (fun K hK => ?_) (AllReady.cons rfl (fun K hK => ?_) AllReady.nil))
      · go_simp
        refine hK _ _ ?_
        clear hK K
        refine wpAny_ready (rs := [3]) (by kernel_rfl) (by simp) (AllReady.cons rfl (fun K hK => ?_) AllReady.nil)
        go_simp
        go_wp2_with (go_at_call 121; refine (below_c 3 _ B g A len cap zs ?_ ?_ hlen (by omega) (by omega)).mono ?_; (exact HCD.out); (exact HDD.out.cu); rintro e w7 ⟨x1, hx1, rfl, hu7, hg7⟩; have HD7 := Lib.hid (HDD.out.drawn hu7 hg7); have HC7 := Lib.hid (HC.out.kept (grown_cur hBg hBw HD7.out.gr)); obtain ⟨_, y1, y2⟩ := HD7.out.gb.1; clear hu7 hg7)
        refine wpAny_ready (rs := [5]) (by kernel_rfl) (by simp) (AllReady.cons rfl (fun K hK => ?_) AllReady.nil)
        go_simp
        go_wp2_with (go_at_call 121; refine (below_c 9 _ B g A len cap zs ?_ ?_ hlen (by omega) (by omega)).mono ?_; (exact HC7.out); (exact HD7.out.cu); rintro e w8 ⟨x2, hx2, rfl, hu8, hg8⟩; have HD8 := Lib.hid (HD7.out.drawn hu8 hg8); obtain ⟨_, z1, z2⟩ := HD8.out.gb.1; have gf8 := HD8.out.gb.2.1; clear hu8 hg8)
        refine wpAny_take (i := 6) (v := .agg #[.int .i64 x1, .int .i64 x2]) rfl (by kernel_rfl) (by kernel_rfl) (by kernel_rfl) (fun _ _ _ h => h) (Or.inl ⟨by rfl, fun w => by go_simp⟩) ?_
        refine wpAny_ready (rs := [7]) (by kernel_rfl) (by simp) (AllReady.cons rfl (fun K hK => ?_) AllReady.nil)
        have z3 := (new_below w8 (.cells #[.int .i64 x1, .int .i64 x2] 108)).cell (p := ⟨bg, 1, none⟩) HD8.out.lo.2.1
        rw [z2] at z3
        go_simp
        refine hK _ _ ?_
        clear hK K
        refine wpAny_ready (rs := [8]) (by kernel_rfl) (by simp) (AllReady.cons rfl (fun K hK => ?_) AllReady.nil)
        refine step_at _ (by rfl) _ _ 24 (by rfl) w.heap.size 108 (.agg #[.int .i64 0, .int .i64 0]) 2 16 Try.underlying24 infoBar (by rfl) (by omega) _ _ _ (by rfl) HD8.out.gb.2.2.2.1 #[.int .i64 x1, .int .i64 x2] 1 (by rfl) (by simp [Value.oneCell']) _ 1 (by simp [Act.eval]) (by omega) (by unfold maxLen; omega) HD8.out.lo.2.2.2.2.2.1 ?_
        intro v' w9 ho hg hat
        obtain ⟨k0, k1, k2, a2, c2, rfl, hG⟩ := HD8.out.push (x1, x2) ho hg hat
        have HG9 := Lib.hid hG
        clear ho hg hat hG
        refine hK _ _ ?_
        clear hK K
        refine wpAny_take (i := 9) (v := .pointer (some ⟨bg, 1, none⟩)) rfl (by kernel_rfl) (by kernel_rfl) (by kernel_rfl) (fun _ _ _ h => h) (Or.inl ⟨by rfl, fun w => by go_simp⟩) ?_
        refine wpAny_ready (rs := [10]) (by kernel_rfl) (by simp) (AllReady.cons rfl (fun K hK => ?_) AllReady.nil)
        go_simp
        refine hK _ _ ?_
        clear hK K
        refine wpAny_done (by kernel_rfl) ?_ _
        have HSN := Lib.hid (HSM.out.snoc (x := (x1, x2)) (by simp only; omega))
        obtain ⟨_, q1, q2⟩ := HG9.out.gb.1
        obtain ⟨⟨r0, r1⟩, f0, f1⟩ := HG9.out.rz
        obtain ⟨s0, s1⟩ := ret_cells (p := p) (v := .slice (some ⟨a2, 0, none⟩) (l.length + 1) c2) r0 r1
        go_wp2_with fail
        have hret := HG9.out.ret (P := AnyP) ⟨by simp; omega, HSN.out⟩ (.int .i64 p) (.slice (some ⟨a2, 0, none⟩) (l.length + 1) c2)
        rw [List.length_append, List.length_singleton] at hret
        refine bodyPost_ret ?_ rfl hret
        simp [results, Try.results129, go_sem, s0, s1]
      · go_simp
        go_wp2_with (go_at_call 121; refine (below_c 3 _ B g A len cap zs ?_ ?_ hlen (by omega) (by omega)).mono ?_; (exact HCD.out); (exact HDD.out.cu); rintro e w7 ⟨x1, hx1, rfl, hu7, hg7⟩; have HD7 := Lib.hid (HDD.out.drawn hu7 hg7); have HC7 := Lib.hid (HC.out.kept (grown_cur hBg hBw HD7.out.gr)); obtain ⟨_, y1, y2⟩ := HD7.out.gb.1; clear hu7 hg7)
        refine wpAny_ready (rs := [1, 5]) (by kernel_rfl) (by simp) (AllReady.cons rfl (fun K hK => ?_) (AllReady.cons rfl (fun K hK => ?_) AllReady.nil))
        · go_simp
          refine hK _ _ ?_
          clear hK K
          refine wpAny_ready (rs := [5]) (by kernel_rfl) (by simp) (AllReady.cons rfl (fun K hK => ?_) AllReady.nil)
          go_simp
          go_wp2_with (go_at_call 121; refine (below_c 9 _ B g A len cap zs ?_ ?_ hlen (by omega) (by omega)).mono ?_; (exact HC7.out); (exact HD7.out.cu); rintro e w8 ⟨x2, hx2, rfl, hu8, hg8⟩; have HD8 := Lib.hid (HD7.out.drawn hu8 hg8); obtain ⟨_, z1, z2⟩ := HD8.out.gb.1; have gf8 := HD8.out.gb.2.1; clear hu8 hg8)
          refine wpAny_take (i := 6) (v := .agg #[.int .i64 x1, .int .i64 x2]) rfl (by kernel_rfl) (by kernel_rfl) (by kernel_rfl) (fun _ _ _ h => h) (Or.inl ⟨by rfl, fun w => by go_simp⟩) ?_
          refine wpAny_ready (rs := [7]) (by kernel_rfl) (by simp) (AllReady.cons rfl (fun K hK => ?_) AllReady.nil)
          have z3 := (new_below w8 (.cells #[.int .i64 x1, .int .i64 x2] 108)).cell (p := ⟨bg, 1, none⟩) HD8.out.lo.2.1
          rw [z2] at z3
          go_simp
          refine hK _ _ ?_
          clear hK K
          refine wpAny_ready (rs := [8]) (by kernel_rfl) (by simp) (AllReady.cons rfl (fun K hK => ?_) AllReady.nil)
          refine step_at _ (by rfl) _ _ 24 (by rfl) w.heap.size 108 (.agg #[.int .i64 0, .int .i64 0]) 2 16 Try.underlying24 infoBar (by rfl) (by omega) _ _ _ (by rfl) HD8.out.gb.2.2.2.1 #[.int .i64 x1, .int .i64 x2] 1 (by rfl) (by simp [Value.oneCell']) _ 1 (by simp [Act.eval]) (by omega) (by unfold maxLen; omega) HD8.out.lo.2.2.2.2.2.1 ?_
          intro v' w9 ho hg hat
          obtain ⟨k0, k1, k2, a2, c2, rfl, hG⟩ := HD8.out.push (x1, x2) ho hg hat
          have HG9 := Lib.hid hG
          clear ho hg hat hG
          refine hK _ _ ?_
          clear hK K
          refine wpAny_take (i := 9) (v := .pointer (some ⟨bg, 1, none⟩)) rfl (by kernel_rfl) (by kernel_rfl) (by kernel_rfl) (fun _ _ _ h => h) (Or.inl ⟨by rfl, fun w => by go_simp⟩) ?_
          refine wpAny_ready (rs := [10]) (by kernel_rfl) (by simp) (AllReady.cons rfl (fun K hK => ?_) AllReady.nil)
          go_simp
          refine hK _ _ ?_
          clear hK K
          refine wpAny_done (by kernel_rfl) ?_ _
          have HSN := Lib.hid (HSM.out.snoc (x := (x1, x2)) (by simp only; omega))
          obtain ⟨_, q1, q2⟩ := HG9.out.gb.1
          obtain ⟨⟨r0, r1⟩, f0, f1⟩ := HG9.out.rz
          obtain ⟨s0, s1⟩ := ret_cells (p := p) (v := .slice (some ⟨a2, 0, none⟩) (l.length + 1) c2) r0 r1
          go_wp2_with fail
          have hret := HG9.out.ret (P := AnyP) ⟨by simp; omega, HSN.out⟩ (.int .i64 p) (.slice (some ⟨a2, 0, none⟩) (l.length + 1) c2)
          rw [List.length_append, List.length_singleton] at hret
          refine bodyPost_ret ?_ rfl hret
          simp [results, Try.results129, go_sem, s0, s1]
        · go_simp
          go_wp2_with (go_at_call 121; refine (below_c 9 _ B g A len cap zs ?_ ?_ hlen (by omega) (by omega)).mono ?_; (exact HC7.out); (exact HD7.out.cu); rintro e w8 ⟨x2, hx2, rfl, hu8, hg8⟩; have HD8 := Lib.hid (HD7.out.drawn hu8 hg8); obtain ⟨_, z1, z2⟩ := HD8.out.gb.1; have gf8 := HD8.out.gb.2.1; clear hu8 hg8)
          refine wpAny_take (i := 6) (v := .agg #[.int .i64 x1, .int .i64 x2]) rfl (by kernel_rfl) (by kernel_rfl) (by kernel_rfl) (fun _ _ _ h => h) (Or.inl ⟨by rfl, fun w => by go_simp⟩) ?_
          refine wpAny_ready (rs := [1, 7]) (by kernel_rfl) (by simp) (AllReady.cons rfl (fun K hK => ?_) (AllReady.cons rfl (fun K hK => ?_) AllReady.nil))
          · go_simp
            refine hK _ _ ?_
            clear hK K
            refine wpAny_ready (rs := [7]) (by kernel_rfl) (by simp) (AllReady.cons rfl (fun K hK => ?_) AllReady.nil)
            have z3 := (new_below w8 (.cells #[.int .i64 x1, .int .i64 x2] 108)).cell (p := ⟨bg, 1, none⟩) HD8.out.lo.2.1
            rw [z2] at z3
            go_simp
            refine hK _ _ ?_
            clear hK K
            refine wpAny_ready (rs := [8]) (by kernel_rfl) (by simp) (AllReady.cons rfl (fun K hK => ?_) AllReady.nil)
            refine step_at _ (by rfl) _ _ 24 (by rfl) w.heap.size 108 (.agg #[.int .i64 0, .int .i64 0]) 2 16 Try.underlying24 infoBar (by rfl) (by omega) _ _ _ (by rfl) HD8.out.gb.2.2.2.1 #[.int .i64 x1, .int .i64 x2] 1 (by rfl) (by simp [Value.oneCell']) _ 1 (by simp [Act.eval]) (by omega) (by unfold maxLen; omega) HD8.out.lo.2.2.2.2.2.1 ?_
            intro v' w9 ho hg hat
            obtain ⟨k0, k1, k2, a2, c2, rfl, hG⟩ := HD8.out.push (x1, x2) ho hg hat
            have HG9 := Lib.hid hG
            clear ho hg hat hG
            refine hK _ _ ?_
            clear hK K
            refine wpAny_take (i := 9) (v := .pointer (some ⟨bg, 1, none⟩)) rfl (by kernel_rfl) (by kernel_rfl) (by kernel_rfl) (fun _ _ _ h => h) (Or.inl ⟨by rfl, fun w => by go_simp⟩) ?_
            refine wpAny_ready (rs := [10]) (by kernel_rfl) (by simp) (AllReady.cons rfl (fun K hK => ?_) AllReady.nil)
            go_simp
            refine hK _ _ ?_
            clear hK K
            refine wpAny_done (by kernel_rfl) ?_ _
            have HSN := Lib.hid (HSM.out.snoc (x := (x1, x2)) (by simp only; omega))
            obtain ⟨_, q1, q2⟩ := HG9.out.gb.1
            obtain ⟨⟨r0, r1⟩, f0, f1⟩ := HG9.out.rz
            obtain ⟨s0, s1⟩ := ret_cells (p := p) (v := .slice (some ⟨a2, 0, none⟩) (l.length + 1) c2) r0 r1
            go_wp2_with fail
            have hret := HG9.out.ret (P := AnyP) ⟨by simp; omega, HSN.out⟩ (.int .i64 p) (.slice (some ⟨a2, 0, none⟩) (l.length + 1) c2)
            rw [List.length_append, List.length_singleton] at hret
            refine bodyPost_ret ?_ rfl hret
            simp [results, Try.results129, go_sem, s0, s1]
          · have z3 := (new_below w8 (.cells #[.int .i64 x1, .int .i64 x2] 108)).cell (p := ⟨bg, 1, none⟩) HD8.out.lo.2.1
            rw [z2] at z3
            go_simp
            refine hK _ _ ?_
            clear hK K
            refine wpAny_ready (rs := [1]) (by kernel_rfl) (by simp) (AllReady.cons rfl (fun K hK => ?_) AllReady.nil)
            go_simp
            refine hK _ _ ?_
            clear hK K
            refine wpAny_ready (rs := [8]) (by kernel_rfl) (by simp) (AllReady.cons rfl (fun K hK => ?_) AllReady.nil)
            refine step_at _ (by rfl) _ _ 24 (by rfl) w.heap.size 108 (.agg #[.int .i64 0, .int .i64 0]) 2 16 Try.underlying24 infoBar (by rfl) (by omega) _ _ _ (by rfl) HD8.out.gb.2.2.2.1 #[.int .i64 x1, .int .i64 x2] 1 (by rfl) (by simp [Value.oneCell']) _ 1 (by simp [Act.eval]) (by omega) (by unfold maxLen; omega) HD8.out.lo.2.2.2.2.2.1 ?_
            intro v' w9 ho hg hat
            obtain ⟨k0, k1, k2, a2, c2, rfl, hG⟩ := HD8.out.push (x1, x2) ho hg hat
            have HG9 := Lib.hid hG
            clear ho hg hat hG
            refine hK _ _ ?_
            clear hK K
            refine wpAny_take (i := 9) (v := .pointer (some ⟨bg, 1, none⟩)) rfl (by kernel_rfl) (by kernel_rfl) (by kernel_rfl) (fun _ _ _ h => h) (Or.inl ⟨by rfl, fun w => by go_simp⟩) ?_
            refine wpAny_ready (rs := [10]) (by kernel_rfl) (by simp) (AllReady.cons rfl (fun K hK => ?_) AllReady.nil)
            go_simp
            refine hK _ _ ?_
            clear hK K
            refine wpAny_done (by kernel_rfl) ?_ _
            have HSN := Lib.hid (HSM.out.snoc (x := (x1, x2)) (by simp only; omega))
            obtain ⟨_, q1, q2⟩ := HG9.out.gb.1
            obtain ⟨⟨r0, r1⟩, f0, f1⟩ := HG9.out.rz
            obtain ⟨s0, s1⟩ := ret_cells (p := p) (v := .slice (some ⟨a2, 0, none⟩) (l.length + 1) c2) r0 r1
            go_wp2_with fail
            have hret := HG9.out.ret (P := AnyP) ⟨by simp; omega, HSN.out⟩ (.int .i64 p) (.slice (some ⟨a2, 0, none⟩) (l.length + 1) c2)
            rw [List.length_append, List.length_singleton] at hret
            refine bodyPost_ret ?_ rfl hret
            simp [results, Try.results129, go_sem, s0, s1]
    · have h0' : (u == 0) = false := by simpa using h0
      have h1' : (u == 1) = false := by simpa using h1
      obtain ⟨⟨r0, r1⟩, f0, f1⟩ := HD6.out.rz
      obtain ⟨s0, s1⟩ := ret_cells (p := p) (v := .slice (some ⟨a, 0, none⟩) l.length c) r0 r1
      go_wp2_with fail
      refine bodyPost_ret ?_ rfl (HD6.out.ret ⟨by omega, HSM.out⟩ (.int .i64 p) (.slice (some ⟨a, 0, none⟩) l.length c))
      simp [results, Try.results129, go_sem, s0, s1]
end Go.Proofs.Ytdkpmaahinbhlaa
