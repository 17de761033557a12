/- What spec.ReachOf answers. No condition. -/
import Derived.Test.YtmanfpdneicgeaaInts
import Derived.Test.YtmanfpdneicgeaaIsGraphI
namespace Go.Proofs.Ytmanfpdneicgeaa
open Go.RowKit

def startF (V : Nat) : Nat → Bool := fun u => decide (u = V)
/-- The points that are reached from v. -/
noncomputable def reachL (p : Int) (l : List (Int × Int)) (v : Int) : List Int := if (isGB p l && (decide (0 ≤ v) && decide (v < p))) = true then outF p.toNat (iterF l p.toNat (startF v.toNat)) else []
/-- A row of ints of the call's own. -/
def IntsO (w : World) (zs : List Int) (e : Ending) (w' : World) : Prop :=
  ∃ A cap, e = .returned (.slice A zs.length cap) ∧ OwnInts w' w.heap.size w'.heap.size A cap zs ∧ Below w.heap.size w w'
theorem reachL_no {p v : Int} {l : List (Int × Int)} (h : isGB p l = false ∨ v < 0 ∨ p ≤ v) : reachL p l v = [] := by
  unfold reachL
  rw [if_neg]
  intro k
  simp only [Bool.and_eq_true, decide_eq_true_eq] at k
  rcases h with h | h | h
  · rw [h] at k; cases k.1
  · omega
  · omega
theorem reachL_yes {P V : Nat} {l : List (Int × Int)} (h : isGB (P : Int) l = true) (hv : V < P) : reachL P l V = outF P (iterF l P (startF V)) := by
  unfold reachL
  rw [if_pos]
  · rfl
  · rw [h]; simp; omega
theorem reachL_len (p v : Int) (l : List (Int × Int)) : (reachL p l v).length ≤ 8 := by
  unfold reachL
  split
  · rename_i h
    simp only [Bool.and_eq_true] at h
    have : IsG p l := by
      refine Classical.byContradiction fun g => ?_
      rw [isGB_no g] at h
      cases h.1
    exact Nat.le_trans (outF_len _ _) (by have := this.1; omega)
  · simp
theorem infoBool : (Try.prog.info? 4).map (fun i => (i.zero, i.size, i.bytes)) = some (some (.bool false), 1, 1) := by kernel_rfl
def boolCells (n : Nat) (S : Nat → Bool) : List Value := (rowB n S).map Value.bool
theorem boolCells_none (n : Nat) : List.replicate n (Value.bool false) = boolCells n (fun _ => false) := by
  apply List.ext_getElem?
  intro i
  by_cases hi : i < n
  · simp [boolCells, rowB, hi]
  · rw [List.getElem?_eq_none (by simp; omega), List.getElem?_eq_none (by simp [boolCells, rowB]; omega)]
theorem boolCells_start (n V : Nat) : (boolCells n (fun _ => false)).set V (.bool true) = boolCells n (startF V) := by
  unfold boolCells
  rw [← List.map_set]
  congr 1
  apply List.ext_getElem?
  intro i
  by_cases hi : i < n
  · rw [rowB_get _ _ _ hi, List.getElem?_set, rowB_get _ _ _ hi]
    simp only [rowB_len, startF]
    by_cases h : V = i
    · subst h; simp [hi]
    · have h' : ¬ i = V := fun e => h e.symm
      simp [h, h']
  · rw [List.getElem?_eq_none (by simp [rowB_len]; omega), List.getElem?_eq_none (by simp [rowB_len]; omega)]
theorem boolCells_get (n : Nat) (S : Nat → Bool) (v : Nat) (h : v < n) : (boolCells n S)[v]? = some (.bool (S v)) := by
  unfold boolCells
  rw [List.getElem?_map, rowB_get n S v h]
  rfl
theorem boolCells_set (n : Nat) (S : Nat → Bool) (x : Int × Int) (c : Bool) (h : (S x.1.toNat || S x.2.toNat) = c) :
    ((boolCells n S).set x.1.toNat (.bool c)).set x.2.toNat (.bool c) = boolCells n (relaxF S x) := by
  unfold boolCells
  rw [← List.map_set, ← List.map_set, ← h, rowB_set]
theorem fold_step (l : List (Int × Int)) (S : Nat → Bool) (j : Nat) (h : j < l.length) : (l.take (j + 1)).foldl relaxF S = relaxF ((l.take j).foldl relaxF S) (l.getD j (0, 0)) := by
  rw [take_getD l (0, 0) j h, List.foldl_append]
  rfl

/-- Where the walk of spec.ReachOf stands: the row of what is reached, the empty row of answers, the graph in its box. -/
def ReachSt (w wr : World) (P : Nat) (n : Nat) (A : Option Addr) (cap gs : Nat) (S : Nat → Bool) : Prop :=
  wr.ownsRow w.heap.size 4 1 (.slice (some ⟨gs, 0, none⟩) P P) P (boolCells P S) ∧ Box wr w.heap.size (P : Int) (.slice A n cap) ∧ wr.ownsRow w.heap.size 3 1 (.slice (some ⟨w.heap.size + 1, 0, none⟩) 0 0) 0 [] ∧ Below w.heap.size w wr ∧ w.heap.size + 1 < gs
theorem ReachSt.set {w wr : World} {P n : Nat} {A : Option Addr} {cap gs : Nat} {S S' : Nat → Bool} (h : ReachSt w wr P n A cap gs S) (a b : Nat) (u u' : Value) (hs : ((boolCells P S).set a u).set b u' = boolCells P S') : ReachSt w ((wr.setCell ⟨gs, a, none⟩ u).setCell ⟨gs, b, none⟩ u') P n A cap gs S' := by
  obtain ⟨h1, h2, h3, h4, h5⟩ := h
  have s1 := h1.stored a u
  have s2 := s1.1.stored b u'
  have hg := s1.2.trans_ s2.2
  rw [hs] at s2
  have hlt := h1.lt gs rfl
  exact ⟨s2.1, h2.grown hg (by omega), h3.kept hg (.inr (by simp [Value.ownBlock]; omega)), h4.grown hg (Nat.le_trans h4.size (Nat.le_refl _)) (fun k hk => by cases hk; exact hlt.1), h5⟩

theorem ReachSt.set1 {w wr : World} {P n : Nat} {A : Option Addr} {cap gs : Nat} {S S' : Nat → Bool} (h : ReachSt w wr P n A cap gs S) (a : Nat) (u : Value) (hs : (boolCells P S).set a u = boolCells P S') : ReachSt w (wr.setCell ⟨gs, a, none⟩ u) P n A cap gs S' := by
  obtain ⟨h1, h2, h3, h4, h5⟩ := h
  have s1 := h1.stored a u
  rw [hs] at s1
  have hlt := h1.lt gs rfl
  exact ⟨s1.1, h2.grown s1.2 (by omega), h3.kept s1.2 (.inr (by simp [Value.ownBlock]; omega)), h4.grown s1.2 (Nat.le_trans h4.size (Nat.le_refl _)) (fun k hk => by cases hk; exact hlt.1), h5⟩
theorem ReachSt.start {w w2 w3 : World} {P n : Nat} {A : Option Addr} {cap : Nat} (hb : Below w.heap.size w w2) (hx : Box w2 w.heap.size (P : Int) (.slice A n cap)) (ho : w2.ownsRow w.heap.size 3 1 (.slice (some ⟨w.heap.size + 1, 0, none⟩) 0 0) 0 []) (hs : w.heap.size + 1 < w2.heap.size)
    (hown3 : w3.ownsRow w2.heap.size 4 1 (.slice (some ⟨w2.heap.size, 0, none⟩) P P) P (List.replicate P (.bool false))) (hb3 : Below w2.heap.size w2 w3) : ReachSt w w3 P n A cap w2.heap.size (fun _ => false) := by
  rw [boolCells_none] at hown3
  exact ⟨own_base hown3 hb.size, hx.kept hb3, own_below ho hb3, below_on hb hb3 hb.size, hs⟩

/-- Where the walk stands that collects the answers. -/
def OutSt (w wr : World) (P n : Nat) (A : Option Addr) (cap gs : Nat) (S : Nat → Bool) (k : Nat) (A' : Option Addr) (c' : Nat) : Prop :=
  wr.ownsRow w.heap.size 3 1 (.slice A' (outF k S).length c') (outF k S).length (intCells (outF k S)) ∧ (∀ a, A' = some a → a.block ≠ gs ∧ a.block ≠ w.heap.size) ∧ wr.ownsRow w.heap.size 4 1 (.slice (some ⟨gs, 0, none⟩) P P) P (boolCells P S) ∧ Box wr w.heap.size (P : Int) (.slice A n cap) ∧ Below w.heap.size w wr
theorem ReachSt.out {w wr : World} {P n : Nat} {A : Option Addr} {cap gs : Nat} {S : Nat → Bool} (h : ReachSt w wr P n A cap gs S) : OutSt w wr P n A cap gs S 0 (some ⟨w.heap.size + 1, 0, none⟩) 0 :=
  ⟨h.2.2.1, fun a e => by cases e; exact ⟨by have := h.2.2.2.2; show w.heap.size + 1 ≠ gs; omega, by show w.heap.size + 1 ≠ w.heap.size; omega⟩, h.1, h.2.1, h.2.2.2.1⟩
theorem OutSt.no {w wr : World} {P n : Nat} {A : Option Addr} {cap gs : Nat} {S : Nat → Bool} {k : Nat} {A' : Option Addr} {c' : Nat} (h : OutSt w wr P n A cap gs S k A' c') (hs : S k = false) : OutSt w wr P n A cap gs S (k + 1) A' c' := by
  have e : outF (k + 1) S = outF k S := by rw [outF_succ, hs]; simp
  unfold OutSt at *
  rw [e]
  exact h
theorem OutSt.yes {w wr w' : World} {P n : Nat} {A : Option Addr} {cap gs : Nat} {S : Nat → Bool} {k : Nat} {A' A2 : Option Addr} {c' c2 : Nat} (h : OutSt w wr P n A cap gs S k A' c') (hs : S k = true)
    (ho : w'.ownsRow w.heap.size 3 1 (.slice A2 ((outF k S).length + 1) c2) ((outF k S).length + 1) (intCells (outF k S) ++ [.int .i64 k])) (hg : wr.grownBy w' (Value.slice A' (outF k S).length c').ownBlock)
    (hat : (Value.slice A2 ((outF k S).length + 1) c2).ownBlock = (Value.slice A' (outF k S).length c').ownBlock ∨ (Value.slice A2 ((outF k S).length + 1) c2).ownBlock = some (wr.heap.size + 1)) : OutSt w w' P n A cap gs S (k + 1) A2 c2 := by
  have e : outF (k + 1) S = outF k S ++ [(k : Int)] := by rw [outF_succ, hs]; simp
  have e2 : (outF (k + 1) S).length = (outF k S).length + 1 := by rw [e]; simp
  obtain ⟨h1, h2, h3, h4, h5⟩ := h
  have hgs := h3.lt gs rfl
  have hob : ∀ g, (Value.slice A' (outF k S).length c').ownBlock = some g → g ≠ gs ∧ g ≠ w.heap.size := fun g hgg => by
    cases A' with
    | none => cases hgg
    | some a => cases hgg; exact h2 a rfl
  unfold OutSt
  rw [e2, e]
  refine ⟨by rw [show intCells (outF k S ++ [(k : Int)]) = intCells (outF k S) ++ [.int .i64 k] by simp [intCells]]; exact ho, fun a ea => ?_, h3.kept hg ?_, ?_, h5.grown hg (Nat.le_trans h5.size (Nat.le_refl _)) fun g hgg => (h1.lt g hgg).1⟩
  · subst ea
    rcases hat with hat | hat
    · exact hob a.block hat.symm
    · have hat' : a.block = wr.heap.size + 1 := by simpa [Value.ownBlock] using hat
      have := h4.1
      exact ⟨by omega, by omega⟩
  · refine .inr fun hc => ?_
    exact (hob gs hc.symm).1 rfl
  · refine ⟨Nat.lt_of_lt_of_le h4.1 hg.size, ?_, ?_⟩
    · exact (World.cell?_of_block (hg.block w.heap.size h4.1 fun hc => (hob _ hc.symm).2 rfl)).trans h4.2.1
    · exact (World.cell?_of_block (a := ⟨w.heap.size, 1, none⟩) (hg.block w.heap.size h4.1 fun hc => (hob _ hc.symm).2 rfl)).trans h4.2.2

set_option maxHeartbeats 4000000 in
set_option maxRecDepth 100000 in
theorem specReach (p v : Int) (l : List (Int × Int)) (A : Option Addr) (cap : Nat) (w : World) (hl : BarsAt w w.heap.size A l) (hn : l.length ≤ 1048576) :
    Calls Try.prog 28 #[.agg #[.int .i64 p, .slice A l.length cap], .int .i64 v] w (IntsO w (reachL p l v)) := by
  have hA1 := new_below w (.cells #[.int .i64 p, .slice A l.length cap] 29)
  have hA2 := new_below (w.alloc (.cells #[.int .i64 p, .slice A l.length cap] 29)) (.cells #[] 3)
  have hA := below_on hA1 hA2 hA1.size
  have HA := Lib.hid hA
  have HLW := Lib.hid hl
  have HL := Lib.hid (hl.on hA)
  have BX := Lib.hid ((box_new w p (.slice A l.length cap) 29).kept hA2)
  have hsz : (w.alloc (.cells #[.int .i64 p, .slice A l.length cap] 29)).heap.size = w.heap.size + 1 := by simp
  have ho := World.ownsRow_made (base := w.heap.size) (e := 3) (size := 1) (w.alloc (.cells #[.int .i64 p, .slice A l.length cap] 29)) #[] 0 (by simp) (by unfold maxLen; omega) (by simp)
  rw [hsz] at ho
  have HO := Lib.hid ho
  have HS := Lib.hid (show w.heap.size + 1 < ((w.alloc (.cells #[.int .i64 p, .slice A l.length cap] 29)).alloc (.cells #[] 3)).heap.size by simp)
  clear hl hA hA1 hA2 hsz ho
  by_cases hbad : isGB p l = false ∨ v < 0 ∨ p ≤ v
  · have HR := Lib.hid (reachL_no hbad)
    rcases hg : isGB p l with _ | _
    · clear hbad
      go_enter Try.func28, Try.ntmps28
      go_wp2_with fail
      generalize ((w.alloc (.cells #[.int .i64 p, .slice A l.length cap] 29)).alloc (.cells #[] 3)) = w1 at *
      refine (specIsGraph' p l A cap _ HL.out hn).mono ?_
      rintro e w2 ⟨rfl, hb⟩
      have HB := Lib.hid (below_on HA.out hb HA.out.size)
      clear hb
      go_wp2_with fail
      go_ret
      exact ⟨some ⟨w.heap.size + 1, 0, none⟩, 0, by rw [HR.out]; rfl, by rw [HR.out]; exact ⟨Nat.le_refl _, .inl rfl⟩, HB.out⟩
    · have hv : v < 0 ∨ p ≤ v := by
        rcases hbad with h | h
        · rw [hg] at h; cases h
        · exact h
      clear hbad
      by_cases h0 : v < 0
      · clear hv
        go_enter Try.func28, Try.ntmps28
        go_wp2_with fail
        generalize ((w.alloc (.cells #[.int .i64 p, .slice A l.length cap] 29)).alloc (.cells #[] 3)) = w1 at *
        refine (specIsGraph' p l A cap _ HL.out hn).mono ?_
        rintro e w2 ⟨rfl, hb⟩
        have HB := Lib.hid (below_on HA.out hb HA.out.size)
        clear hb
        go_wp2_with fail
        go_ret
        exact ⟨some ⟨w.heap.size + 1, 0, none⟩, 0, by rw [HR.out]; rfl, by rw [HR.out]; exact ⟨Nat.le_refl _, .inl rfl⟩, HB.out⟩
      · have h1 : p ≤ v := by omega
        clear hv
        go_enter Try.func28, Try.ntmps28
        go_wp2_with fail
        generalize ((w.alloc (.cells #[.int .i64 p, .slice A l.length cap] 29)).alloc (.cells #[] 3)) = w1 at *
        refine (specIsGraph' p l A cap _ HL.out hn).mono ?_
        rintro e w2 ⟨rfl, hb⟩
        have HB := Lib.hid (below_on HA.out hb HA.out.size)
        obtain ⟨_, g2, g3⟩ := BX.out.kept hb
        clear hb
        go_wp2_with fail
        go_ret
        exact ⟨some ⟨w.heap.size + 1, 0, none⟩, 0, by rw [HR.out]; rfl, by rw [HR.out]; exact ⟨Nat.le_refl _, .inl rfl⟩, HB.out⟩
  · have hg : isGB p l = true := by
      cases h : isGB p l with
      | false => exact absurd (.inl h) hbad
      | true => rfl
    have hG : IsG p l := Classical.byContradiction fun g => by rw [isGB_no g] at hg; cases hg
    have hv : 0 ≤ v ∧ v < p := by omega
    obtain ⟨P, rfl⟩ : ∃ P : Nat, p = (P : Int) := ⟨p.toNat, by have := hG.1; omega⟩
    obtain ⟨V, rfl⟩ : ∃ V : Nat, v = (V : Int) := ⟨v.toNat, by omega⟩
    have hVP : V < P := by omega
    have hP : 1 ≤ P ∧ P ≤ 8 := by have := hG.1; omega
    have h24 := hG.2.1
    have HR := Lib.hid (reachL_yes hg hVP)
    have HG := Lib.hid hG
    have h0 : ¬ (V : Int) < 0 := by omega
    have h1 : ¬ (P : Int) ≤ (V : Int) := by omega
    have h2 : (V : Int) < (P : Int) := by omega
    clear hbad hv hG
    go_enter Try.func28, Try.ntmps28
    go_wp2_with fail
    generalize ((w.alloc (.cells #[.int .i64 (P : Int), .slice A l.length cap] 29)).alloc (.cells #[] 3)) = w1 at *
    refine (specIsGraph' (P : Int) l A cap _ HL.out hn).mono ?_
    rintro e w2 ⟨rfl, hb⟩
    have HB := Lib.hid (below_on HA.out hb HA.out.size)
    have BX2 := Lib.hid (BX.out.kept hb)
    have HO2 := Lib.hid (own_below HO.out hb)
    have HS2 := Lib.hid (Nat.lt_of_lt_of_le HS.out hb.size)
    obtain ⟨_, g2, g3⟩ := BX2.out
    clear hb
    go_wp2_with (at_make; refine wpList_mkn _ rfl _ _ 69 rfl w2.heap.size 4 (.bool false) 1 Try.underlying69 infoBool rfl _ _ _ _ P rfl rfl rfl rfl (by omega) (by unfold maxLen; omega) (Nat.le_refl _) ?_; intro w3 hown3 hb3; have HR3 := Lib.hid (ReachSt.start (n := l.length) (A := A) (cap := cap) HB.out BX2.out HO2.out HS2.out hown3 hb3); have hc := (hown3.cellAt V (by omega)).trans (show (List.replicate P (Value.bool false))[V]? = some (.bool false) by simp [hVP]); have hf := hown3.frozenAt V; clear hown3 hb3)
    have HR4 := Lib.hid (HR3.out.set1 V (.bool true) (boolCells_start P V))
    clear hc hf g2 g3
    generalize (w3.setCell ⟨w2.heap.size, V, none⟩ (.bool true)) = w4 at *
    have HI := Lib.hid (isG_in HG.out)
    go_loopw [7] (fun i wr => ∃ k : Nat, k ≤ P ∧ i = .int .i64 k ∧ ReachSt w wr P l.length A cap w2.heap.size (iterF l k (startF V))) (fun i _ => P - (intOf i).toNat)
    case atStart => exact ⟨0, by omega, rfl, HR4.out⟩
    case round =>
      obtain ⟨k, hk, rfl, hst⟩ := hrel
      have HST := Lib.hid hst
      obtain ⟨_, g2, g3⟩ := hst.2.1
      clear hst
      by_cases hlt : k < P
      · have hik : (k : Int) < (P : Int) := by omega
        go_wp2_with fail
        clear g2 g3
        go_loopw [8] (fun i wr => ∃ j : Nat, j ≤ l.length ∧ i = .int .i64 j ∧ ReachSt w wr P l.length A cap w2.heap.size ((l.take j).foldl relaxF (iterF l k (startF V)))) (fun i _ => l.length - (intOf i).toNat)
        case atStart => exact ⟨0, by omega, rfl, HST.out⟩
        case round =>
          obtain ⟨j, hj, rfl, hst⟩ := hrel
          have HSJ := Lib.hid hst
          obtain ⟨_, g2, g3⟩ := hst.2.1
          have hown := hst.1
          have HBW := Lib.hid hst.2.2.2.1
          clear hst
          by_cases hjl : j < l.length
          · have hij : (j : Int) < (l.length : Int) := by omega
            obtain ⟨b0, off, rfl, hbB, hcell⟩ := HLW.out (by omega)
            have hc1 := (HBW.out.cell (p := ⟨b0, off + j * 2, none⟩) hbB).trans (hcell j hjl).1
            have hc2 := (HBW.out.cell (p := ⟨b0, off + j * 2 + 1, none⟩) hbB).trans (hcell j hjl).2
            have hbar := isG_bar HG.out j hjl
            have hstep := fold_step l (iterF l k (startF V)) j hjl
            obtain ⟨x, hx⟩ : ∃ x, l.getD j (0, 0) = x := ⟨_, rfl⟩
            rw [hx] at hc1 hc2 hbar hstep
            clear hx hcell
            obtain ⟨x1, x2⟩ := x
            simp only at hc1 hc2 hbar
            obtain ⟨a, rfl⟩ : ∃ a : Nat, x1 = (a : Int) := ⟨x1.toNat, by omega⟩
            obtain ⟨b, rfl⟩ : ∃ b : Nat, x2 = (b : Int) := ⟨x2.toNat, by omega⟩
            have haP : a < P := by omega
            have hbP : b < P := by omega
            have hai : (a : Int) < (P : Int) := by omega
            have hbi : (b : Int) < (P : Int) := by omega
            have HSTEP := Lib.hid hstep
            clear hstep
            generalize (l.take j).foldl relaxF (iterF l k (startF V)) = S at *
            have hsa := (hown.cellAt a (by omega)).trans (boolCells_get P S a haP)
            have hsb := (hown.cellAt b (by omega)).trans (boolCells_get P S b hbP)
            have hfa := hown.frozenAt a
            have hfb := hown.frozenAt b
            have hab : a < b := by omega
            have hst2 : (wr.setCell ⟨w2.heap.size, a, none⟩ (.bool true)).cell? ⟨w2.heap.size, b, none⟩ = some (.bool (S b)) := by
              rw [(hown.stored a (.bool true)).1.cellAt b (by omega), List.getElem?_set_ne (by omega)]
              exact boolCells_get P S b hbP
            clear hown hbar
            cases ha : S a <;> cases hb : S b
            · have HN := Lib.hid (relaxF_no S ((a : Int), (b : Int)) (by show (S a || S b) = false; rw [ha, hb]; rfl))
              rw [ha] at hsa
              rw [hb] at hsb
              go_wp2_with fail
              go_roundw
              case rel => exact ⟨j + 1, by omega, by go_num, by rw [HSTEP.out, HN.out]; exact HSJ.out⟩
              case measure => simp [intOf]; omega
            all_goals
              have HN := Lib.hid (HSJ.out.set a b (.bool true) (.bool true) (boolCells_set P S ((a : Int), (b : Int)) true (by show (S a || S b) = true; rw [ha, hb]; rfl)))
              rw [ha] at hsa
              rw [hb] at hsb hst2
              go_wp2_with fail
              go_roundw
              case rel => exact ⟨j + 1, by omega, by go_num, by rw [HSTEP.out]; exact HN.out⟩
              case measure => simp [intOf]; omega
          · obtain rfl : j = l.length := by omega
            go_wp2_with fail
            go_roundw
            case rel => exact ⟨k + 1, by omega, by go_num, by have := HSJ.out; rw [List.take_length] at this; exact this⟩
            case measure => simp [intOf]; omega
      · obtain rfl : k = P := by omega
        clear hlt
        generalize iterF l k (startF V) = S at *
        go_wp2_with fail
        clear g2 g3
        go_loopw [5, 9] (fun o i wr => ∃ j : Nat, j ≤ k ∧ i = .int .i64 j ∧ ∃ A' c', o = .slice A' (outF j S).length c' ∧ OutSt w wr k l.length A cap w2.heap.size S j A' c') (fun _ i _ => k - (intOf i).toNat)
        case atStart => exact ⟨0, by omega, rfl, _, _, rfl, HST.out.out⟩
        case round =>
          obtain ⟨j, hj, rfl, A', c', rfl, hst⟩ := hrel
          have HSJ := Lib.hid hst
          obtain ⟨_, g2, g3⟩ := hst.2.2.2.1
          have hown := hst.2.2.1
          have HOW := Lib.hid hst.1
          have hbs : w.heap.size ≤ wr.heap.size := hst.2.2.2.2.size
          clear hst
          have hol := outF_len j S
          by_cases hjl : j < k
          · have hij : (j : Int) < (k : Int) := by omega
            have hsj := (hown.cellAt j (by omega)).trans (boolCells_get k S j hjl)
            clear hown
            cases hs : S j
            · have HN := Lib.hid (HSJ.out.no hs)
              rw [hs] at hsj
              have HE := Lib.hid (show outF (j + 1) S = outF j S by rw [outF_succ, hs]; simp)
              go_wp2_with fail
              go_roundw
              case rel => exact ⟨j + 1, by omega, by go_num, A', c', by rw [HE.out], HN.out⟩
              case measure => simp [intOf]; omega
            · have HN := Lib.hid (fun (w' : World) (A2 : Option Addr) (c2 : Nat) => HSJ.out.yes (w' := w') (A2 := A2) (c2 := c2) hs)
              rw [hs] at hsj
              have HE := Lib.hid (show (outF (j + 1) S).length = (outF j S).length + 1 by rw [outF_succ, hs]; simp)
              go_wp2_with (at_builtin; refine wpList_at _ rfl _ _ 42 rfl w.heap.size 3 (.int .i64 0) 1 8 Try.underlying42 infoInt rfl (by decide) _ _ _ rfl HOW.out #[.int .i64 (j : Int)] 1 rfl (by simp [Value.oneCell']) _ _ rfl (by omega) (by unfold maxLen; omega) hbs ?_; intro v' w' ho hg hat _; obtain ⟨A2, c2, rfl⟩ := own_shape ho; have HY := Lib.hid (HN.out w' A2 c2 ho hg hat); clear ho hg hat)
              go_roundw
              case rel => exact ⟨j + 1, by omega, by go_num, A2, c2, by rw [HE.out], HY.out⟩
              case measure => simp [intOf]; omega
          · obtain rfl : j = k := by omega
            go_wp2_with fail
            go_ret
            exact ⟨A', c', by rw [HR.out]; rfl, by rw [HR.out]; exact own_ints' HOW.out, HSJ.out.2.2.2.2⟩
end Go.Proofs.Ytmanfpdneicgeaa
