/- What the program's AddBar answers: the same as the specification's. No condition. -/
import Derived.Test.YtdkpmaahinbhlaaFzInsertS
import Derived.Test.YtdkpmaahinbhlaaFzAddS
import Derived.Test.YtdkpmaahinbhlaaFzB1
namespace Go.Proofs.Ytdkpmaahinbhlaa
open Go.RowKit

/-- A graph of the call's own, its row also where it is empty. -/
def GraphW (w : World) (p : Int) (l : List (Int × Int)) (e : Ending) (w' : World) : Prop :=
  ∃ A cap, e = .returned (.agg #[.int .i64 p, .slice A l.length cap]) ∧ w'.ownsRow w.heap.size 108 2 (.slice A l.length cap) l.length (barCells l) ∧ Below w.heap.size w w'
theorem row_ret_w {w w3 : World} {r B' : Nat} {A2 : Option Addr} {c2 : Nat} {l : List (Int × Int)} (ho : w3.ownsRow B' 108 2 (.slice A2 l.length c2) l.length (barCells l)) (hB : Below w.heap.size w w3) (h1 : w.heap.size ≤ r) (h2 : r < B') (u v : Value) :
    ((w3.setCell ⟨r, 0, none⟩ u).setCell ⟨r, 1, none⟩ v).ownsRow w.heap.size 108 2 (.slice A2 l.length c2) l.length (barCells l) ∧ Below w.heap.size w ((w3.setCell ⟨r, 0, none⟩ u).setCell ⟨r, 1, none⟩ v) := by
  have hg := (grownBy_set w3 r 0 u).trans_ (grownBy_set (w3.setCell ⟨r, 0, none⟩ u) r 1 v)
  refine ⟨(own_base ho (by omega)).kept hg ?_, hB.grown hg hB.size fun g e => by cases e; exact h1⟩
  cases A2 with
  | none => exact .inl rfl
  | some a =>
    have := (ho.lt a.block rfl).1
    exact .inr (by simp [Value.ownBlock]; omega)

set_option maxHeartbeats 2000000 in
set_option maxRecDepth 100000 in
theorem clone_r (p : Int) (l : List (Int × Int)) (A : Option Addr) (cap : Nat) (w : World) (hl : BarsAt w w.heap.size A l) (hn : l.length ≤ 1048576) :
    Calls Try.prog 239 #[.agg #[.int .i64 p, .slice A l.length cap]] w (GraphW w p l) := by
  have hA1 := new_below w (.cells #[.int .i64 p, .slice A l.length cap] 26)
  have hA2 := new_below (w.alloc (.cells #[.int .i64 p, .slice A l.length cap] 26)) (.cells #[.int .i64 0, .slice none 0 0] 26)
  have hA := below_on hA1 hA2 hA1.size
  have hsz1 : (w.alloc (.cells #[.int .i64 p, .slice A l.length cap] 26)).heap.size = w.heap.size + 1 := by simp
  have hsz2 : ((w.alloc (.cells #[.int .i64 p, .slice A l.length cap] 26)).alloc (.cells #[.int .i64 0, .slice none 0 0] 26)).heap.size = w.heap.size + 2 := by simp
  have hX := (box_new w p (.slice A l.length cap) 26).kept hA2
  have hR := box_new (w.alloc (.cells #[.int .i64 p, .slice A l.length cap] 26)) 0 (.slice none 0 0) 26
  have hF : ((w.alloc (.cells #[.int .i64 p, .slice A l.length cap] 26)).alloc (.cells #[.int .i64 0, .slice none 0 0] 26)).frozen? ⟨(w.alloc (.cells #[.int .i64 p, .slice A l.length cap] 26)).heap.size, 0, none⟩ = false ∧ ((w.alloc (.cells #[.int .i64 p, .slice A l.length cap] 26)).alloc (.cells #[.int .i64 0, .slice none 0 0] 26)).frozen? ⟨(w.alloc (.cells #[.int .i64 p, .slice A l.length cap] 26)).heap.size, 1, none⟩ = false := ⟨World.frozen?_alloc_at _ _ _ _ rfl, World.frozen?_alloc_at _ _ _ _ rfl⟩
  rw [hsz1] at hR hF
  have HLA := Lib.hid (hl.on hA)
  go_enter Try.func239, Try.ntmps239
  go_wp2_with fail
  generalize ((w.alloc (.cells #[.int .i64 p, .slice A l.length cap] 26)).alloc (.cells #[.int .i64 0, .slice none 0 0] 26)) = w1 at *
  have hdr : Below w1.heap.size w1 w1.drew := (Below.refl _ _).drew
  have HLD := Lib.hid (HLA.out.on hdr)
  have HAD := Lib.hid (below_on hA hdr hA.size)
  have HXD := Lib.hid (hX.kept hdr)
  have HRD := Lib.hid (hR.kept hdr)
  have HFD := Lib.hid (show w1.drew.frozen? ⟨w.heap.size + 1, 0, none⟩ = false ∧ w1.drew.frozen? ⟨w.heap.size + 1, 1, none⟩ = false from hF)
  obtain ⟨_, x0, x1⟩ := hX
  have HSZ := Lib.hid hsz2
  clear hl hA1 hA2 hA hsz1 hsz2 hR hF hdr
  go_region_with (go_at_call 245; refine (slClone l A cap _ ?_ hn).mono ?_; (exact HLD.out); rintro e w3 ⟨A2, c2, rfl, ho, hb⟩; obtain ⟨_, y0, y1⟩ := HXD.out.kept hb; obtain ⟨_, z0, z1⟩ := HRD.out.kept hb; have f0 := (hb.frozen (p := ⟨w.heap.size + 1, 0, none⟩) HRD.out.1).trans HFD.out.1; have f1 := (hb.frozen (p := ⟨w.heap.size + 1, 1, none⟩) HRD.out.1).trans HFD.out.2; have HO := Lib.hid ho; have HB := Lib.hid (below_on HAD.out hb HAD.out.size); have HZ := Lib.hid (And.intro z0 z1); clear ho hb)
  all_goals
    go_wp2_with fail
    obtain ⟨s0, s1⟩ := ret_cells (p := p) (v := .slice A2 l.length c2) HZ.out.1 HZ.out.2
    obtain ⟨r1, r2⟩ := row_ret_w HO.out HB.out (r := w.heap.size + 1) (by omega) (by have := HSZ.out; show w.heap.size + 1 < w1.heap.size; omega) (.int .i64 p) (.slice A2 l.length c2)
    refine bodyPost_ret (v := .agg #[.int .i64 p, .slice A2 l.length c2]) ?_ rfl ⟨A2, c2, rfl, ?_, ?_⟩
    · simp [results, Try.results239, go_sem, s0, s1]
    · first | exact r1 | exact r1.drew
    · first | exact r2 | exact r2.drew


theorem insert_any (l : List (Int × Int)) (x : Int × Int) (i : Nat) (A : Option Addr) (c base vb : Nat) (w : World) (hown : w.ownsRow base 108 2 (.slice A l.length c) l.length (barCells l)) (hbase : base ≤ w.heap.size) (hi : i ≤ l.length) (hn : l.length ≤ 24) (hv : w.heap[vb]? = some (.cells #[.int .i64 x.1, .int .i64 x.2] 108 (0, 0))) (hvb : ∀ a, A = some a → a.block ≠ vb) :
    ∃ g, (∀ a, A = some a → a.block = g) ∧ (A = none → g = w.heap.size) ∧ Calls Try.prog 248 #[.slice A l.length c, .int .i64 (i : Int), .slice (some ⟨vb, 0, none⟩) 1 1] w (InsP w base g (l.take i ++ x :: l.drop i)) := by
  by_cases hin : i = l.length
  · subst hin
    rw [List.take_length, List.drop_length]
    cases A with
    | none => exact ⟨w.heap.size, fun a e => (by cases e), fun _ => rfl, insert_end l x none c base vb w.heap.size w hown (fun a e => (by cases e)) hbase hn hv⟩
    | some a => exact ⟨a.block, fun a' e => (by cases e; rfl), fun e => (by cases e), insert_end l x (some a) c base vb a.block w hown (fun a' e => (by cases e; rfl)) hbase hn hv⟩
  · rcases hown.2 with ⟨_, h⟩ | ⟨g, cap', cur, h', _⟩
    · omega
    · have hA : A = some ⟨g, 0, none⟩ := by simp only [Value.slice.injEq] at h'; exact h'.1
      subst hA
      refine ⟨g, fun a e => (by cases e; rfl), fun e => (by cases e), ?_⟩
      have hcc := (own_caps hown).1
      by_cases hc : l.length + 1 ≤ c
      · exact insert_shift l x i c base vb g w hown (by omega) hn hc (fun e => hvb _ rfl e.symm) hv
      · obtain rfl : c = l.length := by omega
        exact insert_grow l x i base vb g w hown hbase (by omega) hn hv

set_option maxHeartbeats 4000000 in
set_option maxRecDepth 100000 in
theorem implAdd (p a b : Int) (l : List (Int × Int)) (A : Option Addr) (cap : Nat) (w : World) (hl : BarsAt w w.heap.size A l) (hn : l.length ≤ 1048576) :
    Calls Try.prog 242 #[.agg #[.int .i64 p, .slice A l.length cap], .int .i64 a, .int .i64 b] w (GraphOB w p (addL p a b l) (addR p a b l)) := by
  obtain ⟨L, hRL⟩ : ∃ x, x = addL p a b l := ⟨_, rfl⟩
  obtain ⟨RR, hRR⟩ : ∃ x, x = addR p a b l := ⟨_, rfl⟩
  rw [← hRL, ← hRR]
  have HRL := Lib.hid hRL
  have HRR := Lib.hid hRR
  clear hRL hRR
  have hA1 := new_below w (.cells #[.int .i64 p, .slice A l.length cap] 26)
  have hA2 := new_below (w.alloc (.cells #[.int .i64 p, .slice A l.length cap] 26)) (.cells #[.int .i64 0, .slice none 0 0] 26)
  have hA := below_on hA1 hA2 hA1.size
  have hsz1 : (w.alloc (.cells #[.int .i64 p, .slice A l.length cap] 26)).heap.size = w.heap.size + 1 := by simp
  have BX := Lib.hid ((box_new w p (.slice A l.length cap) 26).kept hA2)
  have hR := box_new (w.alloc (.cells #[.int .i64 p, .slice A l.length cap] 26)) 0 (.slice none 0 0) 26
  have hF : ((w.alloc (.cells #[.int .i64 p, .slice A l.length cap] 26)).alloc (.cells #[.int .i64 0, .slice none 0 0] 26)).frozen? ⟨(w.alloc (.cells #[.int .i64 p, .slice A l.length cap] 26)).heap.size, 0, none⟩ = false ∧ ((w.alloc (.cells #[.int .i64 p, .slice A l.length cap] 26)).alloc (.cells #[.int .i64 0, .slice none 0 0] 26)).frozen? ⟨(w.alloc (.cells #[.int .i64 p, .slice A l.length cap] 26)).heap.size, 1, none⟩ = false := ⟨World.frozen?_alloc_at _ _ _ _ rfl, World.frozen?_alloc_at _ _ _ _ rfl⟩
  rw [hsz1] at hR hF
  have HR := Lib.hid hR
  have HF := Lib.hid hF
  have HL := Lib.hid (hl.on hA)
  have HA := Lib.hid hA
  clear hl hA1 hA2 hA hsz1 hR hF
  go_enter Try.func242, Try.ntmps242
  go_wp2_with fail
  generalize ((w.alloc (.cells #[.int .i64 p, .slice A l.length cap] 26)).alloc (.cells #[.int .i64 0, .slice none 0 0] 26)) = w1 at *
  refine (clone_r p l A cap _ HL.out hn).mono ?_
  rintro e w2 ⟨A2, c2, rfl, ho, hb⟩
  have hal := new_below w2 (.cells #[.int .i64 p, .slice A2 l.length c2] 26)
  have hb' := below_on hb hal hb.size
  have HB2 := Lib.hid (below_on HA.out hb' HA.out.size)
  have BX2 := Lib.hid (BX.out.kept hb')
  have HR2 := Lib.hid (HR.out.kept hb')
  have HF2 := Lib.hid (show (w2.alloc (.cells #[.int .i64 p, .slice A2 l.length c2] 26)).frozen? ⟨w.heap.size + 1, 0, none⟩ = false ∧ (w2.alloc (.cells #[.int .i64 p, .slice A2 l.length c2] 26)).frozen? ⟨w.heap.size + 1, 1, none⟩ = false from ⟨(hb'.frozen (p := ⟨w.heap.size + 1, 0, none⟩) HR.out.1).trans HF.out.1, (hb'.frozen (p := ⟨w.heap.size + 1, 1, none⟩) HR.out.1).trans HF.out.2⟩)
  have HL2 := Lib.hid (HL.out.on hb')
  have HO2 := Lib.hid (own_below ho hal)
  have HOW2 := Lib.hid ho
  have BO2 := Lib.hid (box_new w2 p (.slice A2 l.length c2) 26)
  have HFO := Lib.hid (show (w2.alloc (.cells #[.int .i64 p, .slice A2 l.length c2] 26)).frozen? ⟨w2.heap.size, 1, none⟩ = false from World.frozen?_alloc_at _ _ _ _ rfl)
  have HLT1 := Lib.hid (show w.heap.size + 1 < w1.heap.size from HR.out.1)
  have HLT2 := Lib.hid (show w1.heap.size ≤ w2.heap.size from hb.size)
  obtain ⟨_, x0, x1⟩ := BX2.out
  clear hb hb' hal ho
  go_wp2_with fail
  clear x0 x1
  generalize (w2.alloc (.cells #[.int .i64 p, .slice A2 l.length c2] 26)) = w3 at *
  refine (implIsGraph p l A cap _ HL2.out hn).mono ?_
  rintro e w4 ⟨rfl, hb⟩
  have HB4 := Lib.hid (below_on HB2.out hb HB2.out.size)
  have BX4 := Lib.hid (BX2.out.kept hb)
  have HR4 := Lib.hid (HR2.out.kept hb)
  have HF4 := Lib.hid (show w4.frozen? ⟨w.heap.size + 1, 0, none⟩ = false ∧ w4.frozen? ⟨w.heap.size + 1, 1, none⟩ = false from ⟨(hb.frozen (p := ⟨w.heap.size + 1, 0, none⟩) HR2.out.1).trans HF2.out.1, (hb.frozen (p := ⟨w.heap.size + 1, 1, none⟩) HR2.out.1).trans HF2.out.2⟩)
  have BO4 := Lib.hid (BO2.out.kept hb)
  have HFO4 := Lib.hid ((hb.frozen (p := ⟨w2.heap.size, 1, none⟩) BO2.out.1).trans HFO.out)
  have HO4 := Lib.hid (own_below HO2.out hb)
  clear hb
  obtain ⟨_, x0, x1⟩ := BX4.out
  obtain ⟨_, o0, o1⟩ := BO4.out
  obtain ⟨_, z0, z1⟩ := HR4.out
  obtain ⟨f0, f1⟩ := HF4.out
  have fo := HFO4.out
  by_cases hok : isGB p l = true ∧ ptB p a = true ∧ ptB p b = true ∧ a ≠ b ∧ l.length ≠ 24
  · obtain ⟨hg, ha, hb, hab, h24⟩ := hok
    have hG : IsG p l := Classical.byContradiction fun h => by rw [isGB_no h] at hg; cases hg
    have hpa : 0 ≤ a ∧ a < p := by simpa [ptB] using ha
    have hpb : 0 ≤ b ∧ b < p := by simpa [ptB] using hb
    have hlt24 : l.length < 24 := by have := hG.2.1; omega
    have hyes := add_yes hg (a := a) (b := b) (l := l) ⟨⟨hpa.1, hpb.1⟩, ⟨hpa.2, hpb.2⟩, hab, hlt24⟩
    obtain rfl : RR = true := HRR.out.trans hyes.1
    have HLK := Lib.hid (HRL.out.trans hyes.2)
    have hab' : (a == b) = false := by simpa using hab
    have h24' : ((l.length : Int) == 24) = false := by simp; omega
    clear hyes hpa hpb hlt24 h24
    go_wp2_with fail
    refine (hasPoint_c p a A l.length cap _).mono ?_
    rintro e w5 ⟨rfl, hb⟩
    clear x0 x1 o0 o1 z0 z1 f0 f1 fo
    have HB5 := Lib.hid (below_on HB4.out hb HB4.out.size)
    have BX5 := Lib.hid (BX4.out.kept hb)
    have HR5 := Lib.hid (HR4.out.kept hb)
    have HF5 := Lib.hid (show w5.frozen? ⟨w.heap.size + 1, 0, none⟩ = false ∧ w5.frozen? ⟨w.heap.size + 1, 1, none⟩ = false from ⟨(hb.frozen (p := ⟨w.heap.size + 1, 0, none⟩) HR4.out.1).trans HF4.out.1, (hb.frozen (p := ⟨w.heap.size + 1, 1, none⟩) HR4.out.1).trans HF4.out.2⟩)
    have BO5 := Lib.hid (BO4.out.kept hb)
    have HFO5 := Lib.hid ((hb.frozen (p := ⟨w2.heap.size, 1, none⟩) BO4.out.1).trans HFO4.out)
    have HO5 := Lib.hid (own_below HO4.out hb)
    clear hb
    obtain ⟨_, x0, x1⟩ := BX5.out
    obtain ⟨_, o0, o1⟩ := BO5.out
    obtain ⟨_, z0, z1⟩ := HR5.out
    obtain ⟨f0, f1⟩ := HF5.out
    have fo := HFO5.out
    go_wp2_with fail
    refine (hasPoint_c p b A l.length cap _).mono ?_
    rintro e w6 ⟨rfl, hb⟩
    clear x0 x1 o0 o1 z0 z1 f0 f1 fo
    have HB6 := Lib.hid (below_on HB5.out hb HB5.out.size)
    have BX6 := Lib.hid (BX5.out.kept hb)
    have HR6 := Lib.hid (HR5.out.kept hb)
    have HF6 := Lib.hid (show w6.frozen? ⟨w.heap.size + 1, 0, none⟩ = false ∧ w6.frozen? ⟨w.heap.size + 1, 1, none⟩ = false from ⟨(hb.frozen (p := ⟨w.heap.size + 1, 0, none⟩) HR5.out.1).trans HF5.out.1, (hb.frozen (p := ⟨w.heap.size + 1, 1, none⟩) HR5.out.1).trans HF5.out.2⟩)
    have BO6 := Lib.hid (BO5.out.kept hb)
    have HFO6 := Lib.hid ((hb.frozen (p := ⟨w2.heap.size, 1, none⟩) BO5.out.1).trans HFO5.out)
    have HO6 := Lib.hid (own_below HO5.out hb)
    clear hb
    obtain ⟨_, x0, x1⟩ := BX6.out
    obtain ⟨_, o0, o1⟩ := BO6.out
    obtain ⟨_, z0, z1⟩ := HR6.out
    obtain ⟨f0, f1⟩ := HF6.out
    have fo := HFO6.out
    have hn24 : l.length ≤ 24 := hG.2.1
    have HORD := Lib.hid (isG_ord hG)
    have HLOW := Lib.hid (insU_low ((min a b), (max a b)) l (isG_ord hG))
    have HLE := Lib.hid (lowB_le ((min a b), (max a b)) l)
    clear hG
    have hal := new_below w6 (.cells #[.int .i64 (min a b), .int .i64 (max a b)] 108)
    have HB7 := Lib.hid (below_on HB6.out hal HB6.out.size)
    have HR7 := Lib.hid (HR6.out.kept hal)
    have HF7 := Lib.hid (show (w6.alloc (.cells #[.int .i64 (min a b), .int .i64 (max a b)] 108)).frozen? ⟨w.heap.size + 1, 0, none⟩ = false ∧ (w6.alloc (.cells #[.int .i64 (min a b), .int .i64 (max a b)] 108)).frozen? ⟨w.heap.size + 1, 1, none⟩ = false from ⟨(hal.frozen (p := ⟨w.heap.size + 1, 0, none⟩) HR6.out.1).trans HF6.out.1, (hal.frozen (p := ⟨w.heap.size + 1, 1, none⟩) HR6.out.1).trans HF6.out.2⟩)
    have BO7 := Lib.hid (BO6.out.kept hal)
    have HFO7 := Lib.hid ((hal.frozen (p := ⟨w2.heap.size, 1, none⟩) BO6.out.1).trans HFO6.out)
    have HO7 := Lib.hid (own_below HO6.out hal)
    have BB7 := Lib.hid (box_new w6 (min a b) (.int .i64 (max a b)) 108)
    have HOUT := Lib.hid (show w2.heap.size < w6.heap.size from BO6.out.1)
    have q1 := (hal.cell (p := ⟨w2.heap.size, 1, none⟩) BO6.out.1).trans o1
    clear hal
    go_wp2_with fail
    clear x0 x1 o0 o1 z0 z1 f0 f1 fo
    clear q1
    generalize (w6.alloc (.cells #[.int .i64 (min a b), .int .i64 (max a b)] 108)) = w7 at *
    refine (search_c ((min a b), (max a b)) l A2 c2 _ (own_in' HO7.out).bars.at hn24 HORD.out).mono ?_
    rintro e w8 ⟨⟨rb, rfl⟩, hb⟩
    have HB8 := Lib.hid (below_on HB7.out hb HB7.out.size)
    have HR8 := Lib.hid (HR7.out.kept hb)
    have HF8 := Lib.hid (show w8.frozen? ⟨w.heap.size + 1, 0, none⟩ = false ∧ w8.frozen? ⟨w.heap.size + 1, 1, none⟩ = false from ⟨(hb.frozen (p := ⟨w.heap.size + 1, 0, none⟩) HR7.out.1).trans HF7.out.1, (hb.frozen (p := ⟨w.heap.size + 1, 1, none⟩) HR7.out.1).trans HF7.out.2⟩)
    have BO8 := Lib.hid (BO7.out.kept hb)
    have HFO8 := Lib.hid ((hb.frozen (p := ⟨w2.heap.size, 1, none⟩) BO7.out.1).trans HFO7.out)
    have HO8 := Lib.hid (own_below HO7.out hb)
    have BB8 := Lib.hid (BB7.out.kept hb)
    clear hb
    have hal := new_below w8 (.cells #[.int .i64 (min a b), .int .i64 (max a b)] 108)
    have HB9 := Lib.hid (below_on HB8.out hal HB8.out.size)
    have HR9 := Lib.hid (HR8.out.kept hal)
    have HF9 := Lib.hid (show (w8.alloc (.cells #[.int .i64 (min a b), .int .i64 (max a b)] 108)).frozen? ⟨w.heap.size + 1, 0, none⟩ = false ∧ (w8.alloc (.cells #[.int .i64 (min a b), .int .i64 (max a b)] 108)).frozen? ⟨w.heap.size + 1, 1, none⟩ = false from ⟨(hal.frozen (p := ⟨w.heap.size + 1, 0, none⟩) HR8.out.1).trans HF8.out.1, (hal.frozen (p := ⟨w.heap.size + 1, 1, none⟩) HR8.out.1).trans HF8.out.2⟩)
    have BO9 := Lib.hid (BO8.out.kept hal)
    have HFO9 := Lib.hid ((hal.frozen (p := ⟨w2.heap.size, 1, none⟩) BO8.out.1).trans HFO8.out)
    have HO9 := Lib.hid (own_below HO8.out hal)
    have hvx : (w8.alloc (.cells #[.int .i64 (min a b), .int .i64 (max a b)] 108)).heap[w8.heap.size]? = some (.cells #[.int .i64 (min a b), .int .i64 (max a b)] 108 (0, 0)) := heap_alloc_new w8 _
    have hb89 : w1.heap.size ≤ (w8.alloc (.cells #[.int .i64 (min a b), .int .i64 (max a b)] 108)).heap.size := by
      have h1 := HLT2.out
      have h2 := BO9.out.1
      omega
    obtain ⟨g, hAg, hgn, hins⟩ := insert_any l ((min a b), (max a b)) (lowB ((min a b), (max a b)) l) A2 c2 w1.heap.size w8.heap.size _ HO9.out hb89 HLE.out hn24 hvx (fun a0 e => by subst e; have := (HO8.out.lt a0.block rfl).2; omega)
    rw [← HLOW.out, ← HLK.out] at hins
    have hg1 : w1.heap.size ≤ g ∧ g ≠ w2.heap.size := by
      cases hA2 : A2 with
      | none =>
        have := hgn hA2
        have h2 := BO9.out.1
        omega
      | some a0 =>
        have h3 := hAg a0 hA2
        have h4 := (HO2.out.lt a0.block (by rw [hA2]; rfl))
        have h5 := (HOW2.out.lt a0.block (by rw [hA2]; rfl)).2
        omega
    have HINS := Lib.hid hins
    have HG1 := Lib.hid hg1
    clear hal hvx hb89 hAg hgn hins hg1
    obtain ⟨_, p0, p1⟩ := BO8.out
    obtain ⟨_, e0, e1⟩ := BB8.out
    go_wp2_with fail
    clear p0 p1 e0 e1
    generalize (w8.alloc (.cells #[.int .i64 (min a b), .int .i64 (max a b)] 108)) = w9 at *
    refine HINS.out.mono ?_
    rintro e w10 ⟨A3, c3, rfl, ho5, hg5, hA3⟩
    have BO10 := Lib.hid (BO9.out.grown hg5 (fun e => HG1.out.2 e.symm))
    have hne1 : w.heap.size + 1 ≠ g := by have := HLT1.out; have := HG1.out.1; omega
    have HR10 := Lib.hid (HR9.out.grown hg5 hne1)
    have HF10 := Lib.hid (show w10.frozen? ⟨w.heap.size + 1, 0, none⟩ = false ∧ w10.frozen? ⟨w.heap.size + 1, 1, none⟩ = false ∧ w10.frozen? ⟨w2.heap.size, 1, none⟩ = false from ⟨(World.frozen?_of_block (a := ⟨w.heap.size + 1, 0, none⟩) (hg5.block _ HR9.out.1 (by simp; exact hne1))).trans HF9.out.1, (World.frozen?_of_block (a := ⟨w.heap.size + 1, 1, none⟩) (hg5.block _ HR9.out.1 (by simp; exact hne1))).trans HF9.out.2, (World.frozen?_of_block (a := ⟨w2.heap.size, 1, none⟩) (hg5.block _ BO9.out.1 (by simp; exact fun e => HG1.out.2 e.symm))).trans HFO9.out⟩)
    have hwl := HLT1.out
    have HB10 := Lib.hid (HB9.out.grown hg5 HB9.out.size (fun j hj => by cases hj; have := HG1.out.1; omega))
    have hA3n : ∀ a0, A3 = some a0 → a0.block ≠ w2.heap.size := fun a0 e => by
      rcases hA3 a0 e with h | h
      · rw [h]; exact HG1.out.2
      · have := BO9.out.1
        omega
    have hgs := grownBy_set w10 w2.heap.size 1 (.slice A3 L.length c3)
    have HO11 := Lib.hid (ho5.kept hgs (by
      cases hA3' : A3 with
      | none => exact .inl rfl
      | some a0 => exact .inr (by simp [Value.ownBlock]; exact hA3n a0 hA3')))
    have HB11 := Lib.hid (HB10.out.grown hgs HB10.out.size (fun j hj => by cases hj; have := HLT2.out; omega))
    have hne : w.heap.size + 1 ≠ w2.heap.size := by have := HLT2.out; omega
    have HR11 := Lib.hid (HR10.out.grown hgs hne)
    have b0 : (w10.setCell ⟨w2.heap.size, 1, none⟩ (.slice A3 L.length c3)).cell? ⟨w2.heap.size, 0, none⟩ = some (.int .i64 p) := by
      rw [World.cell?_setCell_other _ _ _ _ (by intro e; simp at e)]
      exact BO10.out.2.1
    have b1 : (w10.setCell ⟨w2.heap.size, 1, none⟩ (.slice A3 L.length c3)).cell? ⟨w2.heap.size, 1, none⟩ = some (.slice A3 L.length c3) := World.cell?_setCell_same _ _ _ BO10.out.2.2
    obtain ⟨_, zz0, zz1⟩ := HR11.out
    obtain ⟨ff0, ff1, ff2⟩ := HF10.out
    obtain ⟨_, p0, p1⟩ := BO10.out
    obtain ⟨s0, s1⟩ := ret_cells (p := p) (v := .slice A3 L.length c3) zz0 zz1
    obtain ⟨r1, r2⟩ := row_ret_w HO11.out HB11.out (r := w.heap.size + 1) (by omega) hwl (.int .i64 p) (.slice A3 L.length c3)
    have HOR := Lib.hid (own_in' r1)
    have HBR := Lib.hid r2
    clear ho5 hg5 hA3 hA3n hgs r1 r2
    go_wp2_with fail
    refine bodyPost_ret (v := .tuple #[.agg #[.int .i64 p, .slice A3 L.length c3], .bool true]) ?_ rfl ⟨A3, c3, rfl, HOR.out, HBR.out⟩
    simp [results, Try.results242, go_sem, s0, s1]
  · have hno : isGB p l = false ∨ ¬ ((0 ≤ a ∧ 0 ≤ b) ∧ (a < p ∧ b < p) ∧ a ≠ b ∧ l.length < 24) := by
      rcases hg : isGB p l with _ | _
      · exact .inl rfl
      · refine .inr fun h => hok ⟨hg, by simp [ptB, h.1.1, h.2.1.1], by simp [ptB, h.1.2, h.2.1.2], h.2.2.1, by omega⟩
    obtain rfl : RR = false := HRR.out.trans (add_no hno).1
    obtain rfl : l = L := (HRL.out.trans (add_no hno).2).symm
    clear hno
    rcases hg : isGB p l with _ | _
    · skip
      obtain ⟨s0, s1⟩ := ret_cells (p := p) (v := .slice A2 l.length c2) z0 z1
      obtain ⟨r1, r2⟩ := row_ret_w HO4.out HB4.out (r := w.heap.size + 1) (by omega) HLT1.out (.int .i64 p) (.slice A2 l.length c2)
      have HOR := Lib.hid (own_in' r1)
      have HBR := Lib.hid r2
      clear r1 r2
      go_wp2_with fail
      refine bodyPost_ret (v := .tuple #[.agg #[.int .i64 p, .slice A2 l.length c2], .bool false]) ?_ rfl ⟨A2, c2, rfl, HOR.out, HBR.out⟩
      simp [results, Try.results242, go_sem, s0, s1]
    · rcases ha : ptB p a with _ | _
      · skip
        go_wp2_with fail
        refine (hasPoint_c p a A l.length cap _).mono ?_
        rintro e w5 ⟨rfl, hb⟩
        clear x0 x1 o0 o1 z0 z1 f0 f1 fo
        have HB5 := Lib.hid (below_on HB4.out hb HB4.out.size)
        have BX5 := Lib.hid (BX4.out.kept hb)
        have HR5 := Lib.hid (HR4.out.kept hb)
        have HF5 := Lib.hid (show w5.frozen? ⟨w.heap.size + 1, 0, none⟩ = false ∧ w5.frozen? ⟨w.heap.size + 1, 1, none⟩ = false from ⟨(hb.frozen (p := ⟨w.heap.size + 1, 0, none⟩) HR4.out.1).trans HF4.out.1, (hb.frozen (p := ⟨w.heap.size + 1, 1, none⟩) HR4.out.1).trans HF4.out.2⟩)
        have BO5 := Lib.hid (BO4.out.kept hb)
        have HFO5 := Lib.hid ((hb.frozen (p := ⟨w2.heap.size, 1, none⟩) BO4.out.1).trans HFO4.out)
        have HO5 := Lib.hid (own_below HO4.out hb)
        clear hb
        obtain ⟨_, x0, x1⟩ := BX5.out
        obtain ⟨_, o0, o1⟩ := BO5.out
        obtain ⟨_, z0, z1⟩ := HR5.out
        obtain ⟨f0, f1⟩ := HF5.out
        have fo := HFO5.out
        obtain ⟨s0, s1⟩ := ret_cells (p := p) (v := .slice A2 l.length c2) z0 z1
        obtain ⟨r1, r2⟩ := row_ret_w HO5.out HB5.out (r := w.heap.size + 1) (by omega) HLT1.out (.int .i64 p) (.slice A2 l.length c2)
        have HOR := Lib.hid (own_in' r1)
        have HBR := Lib.hid r2
        clear r1 r2
        go_wp2_with fail
        refine bodyPost_ret (v := .tuple #[.agg #[.int .i64 p, .slice A2 l.length c2], .bool false]) ?_ rfl ⟨A2, c2, rfl, HOR.out, HBR.out⟩
        simp [results, Try.results242, go_sem, s0, s1]
      · rcases hb0 : ptB p b with _ | _
        · skip
          go_wp2_with fail
          refine (hasPoint_c p a A l.length cap _).mono ?_
          rintro e w5 ⟨rfl, hb⟩
          clear x0 x1 o0 o1 z0 z1 f0 f1 fo
          have HB5 := Lib.hid (below_on HB4.out hb HB4.out.size)
          have BX5 := Lib.hid (BX4.out.kept hb)
          have HR5 := Lib.hid (HR4.out.kept hb)
          have HF5 := Lib.hid (show w5.frozen? ⟨w.heap.size + 1, 0, none⟩ = false ∧ w5.frozen? ⟨w.heap.size + 1, 1, none⟩ = false from ⟨(hb.frozen (p := ⟨w.heap.size + 1, 0, none⟩) HR4.out.1).trans HF4.out.1, (hb.frozen (p := ⟨w.heap.size + 1, 1, none⟩) HR4.out.1).trans HF4.out.2⟩)
          have BO5 := Lib.hid (BO4.out.kept hb)
          have HFO5 := Lib.hid ((hb.frozen (p := ⟨w2.heap.size, 1, none⟩) BO4.out.1).trans HFO4.out)
          have HO5 := Lib.hid (own_below HO4.out hb)
          clear hb
          obtain ⟨_, x0, x1⟩ := BX5.out
          obtain ⟨_, o0, o1⟩ := BO5.out
          obtain ⟨_, z0, z1⟩ := HR5.out
          obtain ⟨f0, f1⟩ := HF5.out
          have fo := HFO5.out
          go_wp2_with fail
          refine (hasPoint_c p b A l.length cap _).mono ?_
          rintro e w6 ⟨rfl, hb⟩
          clear x0 x1 o0 o1 z0 z1 f0 f1 fo
          have HB6 := Lib.hid (below_on HB5.out hb HB5.out.size)
          have BX6 := Lib.hid (BX5.out.kept hb)
          have HR6 := Lib.hid (HR5.out.kept hb)
          have HF6 := Lib.hid (show w6.frozen? ⟨w.heap.size + 1, 0, none⟩ = false ∧ w6.frozen? ⟨w.heap.size + 1, 1, none⟩ = false from ⟨(hb.frozen (p := ⟨w.heap.size + 1, 0, none⟩) HR5.out.1).trans HF5.out.1, (hb.frozen (p := ⟨w.heap.size + 1, 1, none⟩) HR5.out.1).trans HF5.out.2⟩)
          have BO6 := Lib.hid (BO5.out.kept hb)
          have HFO6 := Lib.hid ((hb.frozen (p := ⟨w2.heap.size, 1, none⟩) BO5.out.1).trans HFO5.out)
          have HO6 := Lib.hid (own_below HO5.out hb)
          clear hb
          obtain ⟨_, x0, x1⟩ := BX6.out
          obtain ⟨_, o0, o1⟩ := BO6.out
          obtain ⟨_, z0, z1⟩ := HR6.out
          obtain ⟨f0, f1⟩ := HF6.out
          have fo := HFO6.out
          obtain ⟨s0, s1⟩ := ret_cells (p := p) (v := .slice A2 l.length c2) z0 z1
          obtain ⟨r1, r2⟩ := row_ret_w HO6.out HB6.out (r := w.heap.size + 1) (by omega) HLT1.out (.int .i64 p) (.slice A2 l.length c2)
          have HOR := Lib.hid (own_in' r1)
          have HBR := Lib.hid r2
          clear r1 r2
          go_wp2_with fail
          refine bodyPost_ret (v := .tuple #[.agg #[.int .i64 p, .slice A2 l.length c2], .bool false]) ?_ rfl ⟨A2, c2, rfl, HOR.out, HBR.out⟩
          simp [results, Try.results242, go_sem, s0, s1]
        · by_cases hab : a = b
          · subst hab
            go_wp2_with fail
            refine (hasPoint_c p a A l.length cap _).mono ?_
            rintro e w5 ⟨rfl, hb⟩
            clear x0 x1 o0 o1 z0 z1 f0 f1 fo
            have HB5 := Lib.hid (below_on HB4.out hb HB4.out.size)
            have BX5 := Lib.hid (BX4.out.kept hb)
            have HR5 := Lib.hid (HR4.out.kept hb)
            have HF5 := Lib.hid (show w5.frozen? ⟨w.heap.size + 1, 0, none⟩ = false ∧ w5.frozen? ⟨w.heap.size + 1, 1, none⟩ = false from ⟨(hb.frozen (p := ⟨w.heap.size + 1, 0, none⟩) HR4.out.1).trans HF4.out.1, (hb.frozen (p := ⟨w.heap.size + 1, 1, none⟩) HR4.out.1).trans HF4.out.2⟩)
            have BO5 := Lib.hid (BO4.out.kept hb)
            have HFO5 := Lib.hid ((hb.frozen (p := ⟨w2.heap.size, 1, none⟩) BO4.out.1).trans HFO4.out)
            have HO5 := Lib.hid (own_below HO4.out hb)
            clear hb
            obtain ⟨_, x0, x1⟩ := BX5.out
            obtain ⟨_, o0, o1⟩ := BO5.out
            obtain ⟨_, z0, z1⟩ := HR5.out
            obtain ⟨f0, f1⟩ := HF5.out
            have fo := HFO5.out
            go_wp2_with fail
            refine (hasPoint_c p a A l.length cap _).mono ?_
            rintro e w6 ⟨rfl, hb⟩
            clear x0 x1 o0 o1 z0 z1 f0 f1 fo
            have HB6 := Lib.hid (below_on HB5.out hb HB5.out.size)
            have BX6 := Lib.hid (BX5.out.kept hb)
            have HR6 := Lib.hid (HR5.out.kept hb)
            have HF6 := Lib.hid (show w6.frozen? ⟨w.heap.size + 1, 0, none⟩ = false ∧ w6.frozen? ⟨w.heap.size + 1, 1, none⟩ = false from ⟨(hb.frozen (p := ⟨w.heap.size + 1, 0, none⟩) HR5.out.1).trans HF5.out.1, (hb.frozen (p := ⟨w.heap.size + 1, 1, none⟩) HR5.out.1).trans HF5.out.2⟩)
            have BO6 := Lib.hid (BO5.out.kept hb)
            have HFO6 := Lib.hid ((hb.frozen (p := ⟨w2.heap.size, 1, none⟩) BO5.out.1).trans HFO5.out)
            have HO6 := Lib.hid (own_below HO5.out hb)
            clear hb
            obtain ⟨_, x0, x1⟩ := BX6.out
            obtain ⟨_, o0, o1⟩ := BO6.out
            obtain ⟨_, z0, z1⟩ := HR6.out
            obtain ⟨f0, f1⟩ := HF6.out
            have fo := HFO6.out
            obtain ⟨s0, s1⟩ := ret_cells (p := p) (v := .slice A2 l.length c2) z0 z1
            obtain ⟨r1, r2⟩ := row_ret_w HO6.out HB6.out (r := w.heap.size + 1) (by omega) HLT1.out (.int .i64 p) (.slice A2 l.length c2)
            have HOR := Lib.hid (own_in' r1)
            have HBR := Lib.hid r2
            clear r1 r2
            go_wp2_with fail
            refine bodyPost_ret (v := .tuple #[.agg #[.int .i64 p, .slice A2 l.length c2], .bool false]) ?_ rfl ⟨A2, c2, rfl, HOR.out, HBR.out⟩
            simp [results, Try.results242, go_sem, s0, s1]
          · have h24 : l.length = 24 := Classical.byContradiction fun h => hok ⟨hg, ha, hb0, hab, h⟩
            have hab' : (a == b) = false := by simpa using hab
            have h24' : ((l.length : Int) == 24) = true := by rw [h24]; rfl
            clear h24
            go_wp2_with fail
            refine (hasPoint_c p a A l.length cap _).mono ?_
            rintro e w5 ⟨rfl, hb⟩
            clear x0 x1 o0 o1 z0 z1 f0 f1 fo
            have HB5 := Lib.hid (below_on HB4.out hb HB4.out.size)
            have BX5 := Lib.hid (BX4.out.kept hb)
            have HR5 := Lib.hid (HR4.out.kept hb)
            have HF5 := Lib.hid (show w5.frozen? ⟨w.heap.size + 1, 0, none⟩ = false ∧ w5.frozen? ⟨w.heap.size + 1, 1, none⟩ = false from ⟨(hb.frozen (p := ⟨w.heap.size + 1, 0, none⟩) HR4.out.1).trans HF4.out.1, (hb.frozen (p := ⟨w.heap.size + 1, 1, none⟩) HR4.out.1).trans HF4.out.2⟩)
            have BO5 := Lib.hid (BO4.out.kept hb)
            have HFO5 := Lib.hid ((hb.frozen (p := ⟨w2.heap.size, 1, none⟩) BO4.out.1).trans HFO4.out)
            have HO5 := Lib.hid (own_below HO4.out hb)
            clear hb
            obtain ⟨_, x0, x1⟩ := BX5.out
            obtain ⟨_, o0, o1⟩ := BO5.out
            obtain ⟨_, z0, z1⟩ := HR5.out
            obtain ⟨f0, f1⟩ := HF5.out
            have fo := HFO5.out
            go_wp2_with fail
            refine (hasPoint_c p b A l.length cap _).mono ?_
            rintro e w6 ⟨rfl, hb⟩
            clear x0 x1 o0 o1 z0 z1 f0 f1 fo
            have HB6 := Lib.hid (below_on HB5.out hb HB5.out.size)
            have BX6 := Lib.hid (BX5.out.kept hb)
            have HR6 := Lib.hid (HR5.out.kept hb)
            have HF6 := Lib.hid (show w6.frozen? ⟨w.heap.size + 1, 0, none⟩ = false ∧ w6.frozen? ⟨w.heap.size + 1, 1, none⟩ = false from ⟨(hb.frozen (p := ⟨w.heap.size + 1, 0, none⟩) HR5.out.1).trans HF5.out.1, (hb.frozen (p := ⟨w.heap.size + 1, 1, none⟩) HR5.out.1).trans HF5.out.2⟩)
            have BO6 := Lib.hid (BO5.out.kept hb)
            have HFO6 := Lib.hid ((hb.frozen (p := ⟨w2.heap.size, 1, none⟩) BO5.out.1).trans HFO5.out)
            have HO6 := Lib.hid (own_below HO5.out hb)
            clear hb
            obtain ⟨_, x0, x1⟩ := BX6.out
            obtain ⟨_, o0, o1⟩ := BO6.out
            obtain ⟨_, z0, z1⟩ := HR6.out
            obtain ⟨f0, f1⟩ := HF6.out
            have fo := HFO6.out
            obtain ⟨s0, s1⟩ := ret_cells (p := p) (v := .slice A2 l.length c2) z0 z1
            obtain ⟨r1, r2⟩ := row_ret_w HO6.out HB6.out (r := w.heap.size + 1) (by omega) HLT1.out (.int .i64 p) (.slice A2 l.length c2)
            have HOR := Lib.hid (own_in' r1)
            have HBR := Lib.hid r2
            clear r1 r2
            go_wp2_with fail
            refine bodyPost_ret (v := .tuple #[.agg #[.int .i64 p, .slice A2 l.length c2], .bool false]) ?_ rfl ⟨A2, c2, rfl, HOR.out, HBR.out⟩
            simp [results, Try.results242, go_sem, s0, s1]
end Go.Proofs.Ytdkpmaahinbhlaa
