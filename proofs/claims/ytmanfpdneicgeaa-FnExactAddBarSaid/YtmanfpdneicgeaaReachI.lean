/- What the program's ReachOf answers: the same as the specification's. No condition. -/
import Derived.Test.YtmanfpdneicgeaaReach
namespace Go.Proofs.Ytmanfpdneicgeaa
open Go.RowKit

/-- Is v a point of the graph? -/
def ptB (p v : Int) : Bool := decide (0 ≤ v) && decide (v < p)
theorem hasPoint_c (p v : Int) (A : Option Addr) (n cap : Nat) (w : World) :
    Calls Try.prog 55 #[.agg #[.int .i64 p, .slice A n cap], .int .i64 v] w fun e w' => e = .returned (.bool (ptB p v)) ∧ Below w.heap.size w w' := by
  by_cases h0 : 0 ≤ v
  · by_cases h1 : v < p
    · have HP := Lib.hid (show ptB p v = true by simp [ptB, h0, h1])
      go_enter Try.func55, Try.ntmps55
      go_wp2
      go_ret
      exact ⟨by rw [HP.out]; rfl, new_below _ _⟩
    · have HP := Lib.hid (show ptB p v = false by simp [ptB, h1])
      go_enter Try.func55, Try.ntmps55
      go_wp2
      go_ret
      exact ⟨by rw [HP.out]; rfl, new_below _ _⟩
  · have HP := Lib.hid (show ptB p v = false by simp [ptB, h0])
    go_enter Try.func55, Try.ntmps55
    go_wp2
    go_ret
    exact ⟨by rw [HP.out]; rfl, new_below _ _⟩

/-- Where the walk stands: the array of what is reached, the graph in its box. -/
def ReachSi (w wr : World) (P : Nat) (n : Nat) (A : Option Addr) (cap ga : Nat) (S : Nat → Bool) : Prop :=
  wr.ownsRow w.heap.size 70 1 (.slice (some ⟨ga, 0, none⟩) 8 8) 8 (boolCells 8 S) ∧ Box wr w.heap.size (P : Int) (.slice A n cap) ∧ Below w.heap.size w wr ∧ w.heap.size < ga
theorem ReachSi.set1 {w wr : World} {P n : Nat} {A : Option Addr} {cap ga : Nat} {S S' : Nat → Bool} (h : ReachSi w wr P n A cap ga S) (a : Nat) (u : Value) (hs : (boolCells 8 S).set a u = boolCells 8 S') : ReachSi w (wr.setCell ⟨ga, a, none⟩ u) P n A cap ga S' := by
  obtain ⟨h1, h2, h4, h5⟩ := h
  have s1 := h1.stored a u
  rw [hs] at s1
  have hlt := h1.lt ga rfl
  exact ⟨s1.1, h2.grown s1.2 (by omega), h4.grown s1.2 (Nat.le_trans h4.size (Nat.le_refl _)) (fun k hk => by cases hk; exact hlt.1), h5⟩
theorem ReachSi.set {w wr : World} {P n : Nat} {A : Option Addr} {cap ga : Nat} {S S' : Nat → Bool} (h : ReachSi w wr P n A cap ga S) (a b : Nat) (u u' : Value) (hs : ((boolCells 8 S).set a u).set b u' = boolCells 8 S') : ReachSi w ((wr.setCell ⟨ga, a, none⟩ u).setCell ⟨ga, b, none⟩ u') P n A cap ga S' := by
  obtain ⟨h1, h2, h4, h5⟩ := h
  have s1 := h1.stored a u
  have s2 := s1.1.stored b u'
  have hg := s1.2.trans_ s2.2
  rw [hs] at s2
  have hlt := h1.lt ga rfl
  exact ⟨s2.1, h2.grown hg (by omega), h4.grown hg (Nat.le_trans h4.size (Nat.le_refl _)) (fun k hk => by cases hk; exact hlt.1), h5⟩
theorem ReachSi.below {w wr w' : World} {P n : Nat} {A : Option Addr} {cap ga : Nat} {S : Nat → Bool} (h : ReachSi w wr P n A cap ga S) (hb : Below wr.heap.size wr w') : ReachSi w w' P n A cap ga S :=
  ⟨own_below h.1 hb, h.2.1.kept hb, below_on h.2.2.1 hb h.2.2.1.size, h.2.2.2⟩
theorem ReachSi.start {w w2 : World} {P n : Nat} {A : Option Addr} {cap : Nat} (hb : Below w.heap.size w w2) (hx : Box w2 w.heap.size (P : Int) (.slice A n cap)) {S : Nat → Bool} (us : Array Value) (hus : us.toList = boolCells 8 S) : ReachSi w (w2.alloc (.cells us 70)) P n A cap w2.heap.size S := by
  have hal := new_below w2 (.cells us 70)
  have hsz : us.size = 8 := by
    have := congrArg List.length hus
    simpa [boolCells, rowB] using this
  refine ⟨⟨by simp [boolCells, rowB], .inr ⟨w2.heap.size, 8, us, rfl, hb.size, heap_alloc_new w2 _, Nat.le_refl _, by unfold maxLen; omega, by omega, ?_⟩⟩, hx.kept hal, below_on hb hal hb.size, hx.1⟩
  rw [hus]
  rfl
/-- Where the walk stands that collects the answers. -/
def OutSi (w wr : World) (P n : Nat) (A : Option Addr) (cap ga : Nat) (S : Nat → Bool) (k : Nat) (v : Value) : Prop :=
  wr.ownsRow w.heap.size 3 1 v (outF k S).length (intCells (outF k S)) ∧ (∀ a, v.ownBlock = some a → a ≠ ga ∧ a ≠ w.heap.size) ∧ ReachSi w wr P n A cap ga S
theorem OutSi.no {w wr : World} {P n : Nat} {A : Option Addr} {cap ga : Nat} {S : Nat → Bool} {k : Nat} {v : Value} (h : OutSi w wr P n A cap ga S k v) (hs : S k = false) : OutSi w wr P n A cap ga S (k + 1) v := by
  have e : outF (k + 1) S = outF k S := by rw [outF_succ, hs]; simp
  unfold OutSi at *
  rw [e]
  exact h
theorem OutSi.yes {w wr w' : World} {P n : Nat} {A : Option Addr} {cap ga : Nat} {S : Nat → Bool} {k : Nat} {v v' : Value} (h : OutSi w wr P n A cap ga S k v) (hs : S k = true)
    (ho : w'.ownsRow w.heap.size 3 1 v' ((outF k S).length + 1) (intCells (outF k S) ++ [.int .i64 k])) (hg : wr.grownBy w' v.ownBlock)
    (hat : v'.ownBlock = v.ownBlock ∨ v'.ownBlock = some (wr.heap.size + 1)) : OutSi w w' P n A cap ga S (k + 1) v' := by
  have e : outF (k + 1) S = outF k S ++ [(k : Int)] := by rw [outF_succ, hs]; simp
  have e2 : (outF (k + 1) S).length = (outF k S).length + 1 := by rw [e]; simp
  obtain ⟨h1, h2, h3, h4, h5, h6⟩ := h
  have hgs := h3.lt ga rfl
  unfold OutSi
  rw [e2, e]
  refine ⟨by rw [show intCells (outF k S ++ [(k : Int)]) = intCells (outF k S) ++ [.int .i64 k] by simp [intCells]]; exact ho, fun a ea => ?_, h3.kept hg ?_, ?_, h5.grown hg (Nat.le_trans h5.size (Nat.le_refl _)) fun g hgg => (h1.lt g hgg).1, h6⟩
  · rcases hat with hat | hat
    · exact h2 a (hat ▸ ea)
    · rw [hat] at ea
      cases ea
      have := h4.1
      exact ⟨by omega, by omega⟩
  · exact .inr fun hc => (h2 ga hc.symm).1 rfl
  · refine ⟨Nat.lt_of_lt_of_le h4.1 hg.size, ?_, ?_⟩
    · exact (World.cell?_of_block (hg.block w.heap.size h4.1 fun hc => (h2 _ hc.symm).2 rfl)).trans h4.2.1
    · exact (World.cell?_of_block (a := ⟨w.heap.size, 1, none⟩) (hg.block w.heap.size h4.1 fun hc => (h2 _ hc.symm).2 rfl)).trans h4.2.2

set_option maxHeartbeats 4000000 in
set_option maxRecDepth 100000 in
theorem implReach (p v : Int) (l : List (Int × Int)) (A : Option Addr) (cap : Nat) (w : World) (hl : BarsAt w w.heap.size A l) (hn : l.length ≤ 1048576) :
    Calls Try.prog 29 #[.agg #[.int .i64 p, .slice A l.length cap], .int .i64 v] w (IntsO w (reachL p l v)) := by
  have hA := new_below w (.cells #[.int .i64 p, .slice A l.length cap] 29)
  have HA := Lib.hid hA
  have HLW := Lib.hid hl
  have HL := Lib.hid (hl.on hA)
  have BX := Lib.hid (box_new w p (.slice A l.length cap) 29)
  clear hl hA
  by_cases hbad : isGB p l = false ∨ v < 0 ∨ p ≤ v
  · have HR := Lib.hid (reachL_no hbad)
    rcases hg : isGB p l with _ | _
    · clear hbad
      go_enter Try.func29, Try.ntmps29
      go_wp2_with fail
      generalize (w.alloc (.cells #[.int .i64 p, .slice A l.length cap] 29)) = w1 at *
      refine (implIsGraph p l A cap _ HL.out hn).mono ?_
      rintro e w2 ⟨rfl, hb⟩
      have HB := Lib.hid (below_on HA.out hb HA.out.size)
      clear hb
      go_wp2_with fail
      go_ret
      exact ⟨none, 0, by rw [HR.out]; rfl, by rw [HR.out]; exact ⟨Nat.le_refl _, .inl rfl⟩, HB.out⟩
    · have hv : ptB p v = false := by
        rcases hbad with h | h
        · rw [hg] at h; cases h
        · unfold ptB
          rcases h with h | h
          · simp; omega
          · simp; omega
      clear hbad
      go_enter Try.func29, Try.ntmps29
      go_wp2_with fail
      generalize (w.alloc (.cells #[.int .i64 p, .slice A l.length cap] 29)) = w1 at *
      refine (implIsGraph p l A cap _ HL.out hn).mono ?_
      rintro e w2 ⟨rfl, hb⟩
      have HB := Lib.hid (below_on HA.out hb HA.out.size)
      obtain ⟨_, g2, g3⟩ := BX.out.kept hb
      clear hb
      go_wp2_with fail
      clear g2 g3
      refine (hasPoint_c p v A l.length cap _).mono ?_
      rintro e w3 ⟨rfl, hb⟩
      have HB3 := Lib.hid (below_on HB.out hb HB.out.size)
      clear hb
      go_wp2_with fail
      go_ret
      exact ⟨none, 0, by rw [HR.out]; rfl, by rw [HR.out]; exact ⟨Nat.le_refl _, .inl rfl⟩, HB3.out⟩
  · have hg : isGB p l = true := by
      cases h : isGB p l with
      | false => exact absurd (.inl h) hbad
      | true => rfl
    have hG : IsG p l := Classical.byContradiction fun g => by rw [isGB_no g] at hg; cases hg
    have hv : 0 ≤ v ∧ v < p := by omega
    obtain ⟨P, rfl⟩ : ∃ P : Nat, p = (P : Int) := ⟨p.toNat, by have := hG.1; omega⟩
    obtain ⟨Q, hPQ⟩ : ∃ Q : Nat, P = Q + 1 := ⟨P - 1, by have := hG.1; omega⟩
    obtain ⟨V, rfl⟩ : ∃ V : Nat, v = (V : Int) := ⟨v.toNat, by omega⟩
    have hVP : V < P := by omega
    have hP : P ≤ 8 := by have := hG.1; omega
    have h24 := hG.2.1
    have hpt : ptB (P : Int) (V : Int) = true := by unfold ptB; simp; omega
    have HR := Lib.hid (show reachL (P : Int) l (V : Int) = outF P (iterF l Q (startF V)) by
      rw [reachL_yes hg hVP]
      subst hPQ
      exact outF_agree _ _ _ fun u hu => iter_enough Q l (by have := isG_in hG; simpa using this) V hVP u hu)
    have HG := Lib.hid hG
    have hV8 : (V : Int) < 8 := by omega
    have hV0 : (0 : Int) ≤ (V : Int) := by omega
    have hq1 : (P : Int) - 1 = (Q : Int) := by omega
    have hqw : IntKind.i64.wrap (Q : Int) = (Q : Int) := IntWalk.i64_in _ (by omega)
    have HPQ := Lib.hid hPQ
    have hlt2 : Q < P := by omega
    clear hbad hv hG hPQ
    go_enter Try.func29, Try.ntmps29
    go_wp2_with fail
    generalize (w.alloc (.cells #[.int .i64 (P : Int), .slice A l.length cap] 29)) = w1 at *
    refine (implIsGraph (P : Int) l A cap _ HL.out hn).mono ?_
    rintro e w2 ⟨rfl, hb⟩
    have HB := Lib.hid (below_on HA.out hb HA.out.size)
    have BX2 := Lib.hid (BX.out.kept hb)
    obtain ⟨_, g2, g3⟩ := BX2.out
    clear hb
    go_wp2_with fail
    clear g2 g3
    refine (hasPoint_c (P : Int) (V : Int) A l.length cap _).mono ?_
    rintro e w3 ⟨rfl, hb⟩
    have HB3 := Lib.hid (below_on HB.out hb HB.out.size)
    have BX3 := Lib.hid (BX2.out.kept hb)
    have HR4 := Lib.hid (ReachSi.start HB3.out BX3.out ([Value.bool false, .bool false, .bool false, .bool false, .bool false, .bool false, .bool false, .bool false].set V (.bool true)).toArray (boolCells_start 8 V))
    have hli : [Value.bool false, .bool false, .bool false, .bool false, .bool false, .bool false, .bool false, .bool false][V]? = some (.bool false) := by
      show (List.replicate 8 (Value.bool false))[V]? = _
      rw [List.getElem?_replicate, if_pos (by omega)]
    obtain ⟨hlt3, g2, g3⟩ := BX3.out
    clear hb
    go_wp2_with fail
    clear g2 g3 hli
    generalize (w3.alloc (.cells ([Value.bool false, .bool false, .bool false, .bool false, .bool false, .bool false, .bool false, .bool false].set V (.bool true)).toArray 70)) = w4 at *
    go_loopw [25] (fun i wr => ∃ k : Nat, k ≤ Q ∧ i = .int .i64 k ∧ ReachSi w wr P l.length A cap w3.heap.size (iterF l k (startF V))) (fun i _ => Q - (intOf i).toNat)
    case atStart => exact ⟨0, by omega, rfl, HR4.out⟩
    case round =>
      obtain ⟨k, hk, rfl, hst⟩ := hrel
      have HST := Lib.hid hst
      obtain ⟨_, g2, g3⟩ := hst.2.1
      clear hst
      by_cases hlt : k < Q
      · have hik : (k : Int) < (Q : Int) := by omega
        go_wp2_with fail
        clear g2 g3
        go_loopw [30] (fun i wr => ∃ j : Nat, j ≤ l.length ∧ i = .int .i64 j ∧ ReachSi w wr P l.length A cap w3.heap.size ((l.take j).foldl relaxF (iterF l k (startF V)))) (fun i _ => l.length - (intOf i).toNat)
        case atStart => exact ⟨0, by omega, rfl, HST.out⟩
        case round =>
          obtain ⟨j, hj, rfl, hst⟩ := hrel
          have HSJ := Lib.hid hst
          have HBW := Lib.hid hst.2.2.1
          clear hst
          by_cases hjl : j < l.length
          · have hij : (j : Int) < (l.length : Int) := by omega
            obtain ⟨b0, off, rfl, hbB, hcell⟩ := HLW.out (by omega)
            have hc1 := (HBW.out.cell (p := ⟨b0, off + j * 2, none⟩) hbB).trans (hcell j hjl).1
            have hc2 := (HBW.out.cell (p := ⟨b0, off + j * 2 + 1, none⟩) hbB).trans (hcell j hjl).2
            have hbar := isG_bar HG.out j hjl
            have hstep := fold_step l (iterF l k (startF V)) j hjl
            obtain ⟨x, hx⟩ : ∃ x, l.getD j (0, 0) = x := ⟨_, rfl⟩
            rw [hx] at hc1 hc2 hbar hstep
            clear hx hcell
            obtain ⟨x1, x2⟩ := x
            simp only at hc1 hc2 hbar
            obtain ⟨a, rfl⟩ : ∃ a : Nat, x1 = (a : Int) := ⟨x1.toNat, by omega⟩
            obtain ⟨b, rfl⟩ : ∃ b : Nat, x2 = (b : Int) := ⟨x2.toNat, by omega⟩
            have haP : a < 8 := by omega
            have hbP : b < 8 := by omega
            have hai : (a : Int) < 8 := by omega
            have hbi : (b : Int) < 8 := by omega
            have hab : a < b := by omega
            have HSTEP := Lib.hid hstep
            clear hstep hbar
            generalize (l.take j).foldl relaxF (iterF l k (startF V)) = S at *
            have hal := new_below wr (.cells #[.int .i64 (a : Int), .int .i64 (b : Int)] 53)
            have HSA := Lib.hid (HSJ.out.below hal)
            obtain ⟨hxl, hx1, hx2⟩ := box_new wr (a : Int) (.int .i64 (b : Int)) 53
            have hown := HSA.out.1
            have hsa := (hown.cellAt a (by omega)).trans (boolCells_get 8 S a haP)
            have hsb := (hown.cellAt b (by omega)).trans (boolCells_get 8 S b hbP)
            have hfa := hown.frozenAt a
            have hfb := hown.frozenAt b
            have hst2 : ∀ c : Bool, ((wr.alloc (.cells #[.int .i64 (a : Int), .int .i64 (b : Int)] 53)).setCell ⟨w3.heap.size, a, none⟩ (.bool c)).cell? ⟨w3.heap.size, b, none⟩ = some (.bool (S b)) := fun c => by
              rw [(hown.stored a (.bool c)).1.cellAt b (by omega), List.getElem?_set_ne (by omega)]
              exact boolCells_get 8 S b hbP
            have hga : w3.heap.size < wr.heap.size := (HSJ.out.1.lt _ rfl).2
            have hx3 : ∀ c : Bool, ((wr.alloc (.cells #[.int .i64 (a : Int), .int .i64 (b : Int)] 53)).setCell ⟨w3.heap.size, a, none⟩ (.bool c)).cell? ⟨wr.heap.size, 1, none⟩ = some (.int .i64 (b : Int)) := fun c => by
              rw [World.cell?_setCell_other _ _ _ _ (by intro h; simp only [Addr.mk.injEq] at h; omega)]
              exact hx2
            clear hown hal
            cases ha : S a <;> cases hb : S b
            all_goals
              have hor := boolCells_set 8 S ((a : Int), (b : Int)) _ (show (S a || S b) = _ from by rw [ha, hb])
              have HN := Lib.hid (HSA.out.set a b _ _ hor)
              rw [ha] at hsa
              rw [hb] at hsb
              simp only [hb] at hst2
              clear hor
              go_wp2_with fail
              generalize (wr.alloc (.cells #[.int .i64 (a : Int), .int .i64 (b : Int)] 53)) = wa at *
              go_region
              go_wp2_with fail
              go_roundw
              case rel => exact ⟨j + 1, by omega, by go_num, by rw [HSTEP.out]; exact HN.out.below ((Below.refl _ _).drew)⟩
              case measure => simp [intOf]; omega
          · obtain rfl : j = l.length := by omega
            go_wp2_with fail
            go_roundw
            case rel => exact ⟨k + 1, by omega, by go_num, by have := HSJ.out; rw [List.take_length] at this; exact this⟩
            case measure => simp [intOf]; omega
      · obtain rfl : k = Q := by omega
        clear hlt
        generalize iterF l k (startF V) = S at *
        go_wp2_with fail
        clear g2 g3
        go_loopw [9, 56] (fun o i wr => ∃ j : Nat, j ≤ P ∧ i = .int .i64 j ∧ ∃ A' c', o = .slice A' (outF j S).length c' ∧ OutSi w wr P l.length A cap w3.heap.size S j o) (fun _ i _ => P - (intOf i).toNat)
        case atStart => exact ⟨0, by omega, rfl, none, 0, rfl, ⟨rfl, .inl ⟨rfl, rfl⟩⟩, fun a h => by simp [Value.ownBlock] at h, HST.out⟩
        case round =>
          obtain ⟨j, hj, rfl, A', c', rfl, hst⟩ := hrel
          have HSJ := Lib.hid hst
          have hown := hst.2.2.1
          have HOW := Lib.hid hst.1
          have hbs : w.heap.size ≤ wr.heap.size := hst.2.2.2.2.1.size
          clear hst
          have hol := outF_len j S
          by_cases hjl : j < P
          · have hij : (j : Int) < (P : Int) := by omega
            have hi8 : (j : Int) < 8 := by omega
            have hsj := (hown.cellAt j (by omega)).trans (boolCells_get 8 S j (by omega))
            clear hown
            cases hs : S j
            · have HN := Lib.hid (HSJ.out.no hs)
              rw [hs] at hsj
              have HE := Lib.hid (show outF (j + 1) S = outF j S by rw [outF_succ, hs]; simp)
              go_wp2_with fail
              go_roundw
              case rel => exact ⟨j + 1, by omega, by go_num, A', c', by rw [HE.out], HN.out⟩
              case measure => simp [intOf]; omega
            · have HN := Lib.hid (fun (w' : World) (v' : Value) => HSJ.out.yes (w' := w') (v' := v') hs)
              rw [hs] at hsj
              have HE := Lib.hid (show (outF (j + 1) S).length = (outF j S).length + 1 by rw [outF_succ, hs]; simp)
              go_wp2_with (at_builtin; refine wpList_at _ rfl _ _ 42 rfl w.heap.size 3 (.int .i64 0) 1 8 Try.underlying42 infoInt rfl (by decide) _ _ _ rfl HOW.out #[.int .i64 (j : Int)] 1 rfl (by simp [Value.oneCell']) _ _ rfl (by omega) (by unfold maxLen; omega) hbs ?_; intro v' w' ho hg hat _; have HY := Lib.hid (HN.out w' v' ho hg hat); obtain ⟨A2, c2, rfl⟩ := own_shape ho; clear ho hg hat)
              go_roundw
              case rel => exact ⟨j + 1, by omega, by go_num, A2, c2, by rw [HE.out], HY.out⟩
              case measure => simp [intOf]; omega
          · obtain rfl : j = P := by omega
            go_wp2_with fail
            go_ret
            exact ⟨A', c', by rw [HR.out]; rfl, by rw [HR.out]; exact own_ints' HOW.out, HSJ.out.2.2.2.2.1⟩
end Go.Proofs.Ytmanfpdneicgeaa
