/- What stands while the specification gathers pebbles: the copy's box, and where the copy's rows lie. No program's walk. No condition. -/
import Derived.Test.YtdkpmaahinbhlaaFqFind
namespace Go.Proofs.Ytdkpmaahinbhlaa
open Go.RowKit

/-- Where gathering stands: what is read, the box of the state that changes, its rows. -/
structure GasI (w wr : World) (p : Int) (A : Option Addr) (cap : Nat) (l : List (Int × Int)) (AF AT AZ : Option Addr) (cF cT cZ lo hi : Nat) (F T Z : List Int) (bx : Nat) (BF : Option Addr) (dF : Nat) (BT : Option Addr) (dT : Nat) (BZ : Option Addr) (dZ : Nat) (r : Nat × Nat) (F' T' : List Int) : Prop where
  g : GtI w wr p A cap l AF AT AZ cF cT cZ lo hi F T Z
  x : Cel3 wr bx 31 (.slice BF F.length dF) (.slice BT T.length dT) (.slice BZ Z.length dZ)
  o : Own3R wr r.1 r.2 BF dF BT dT BZ dZ F' T' Z
  lb : w.heap.size + 3 ≤ bx
  lr : w.heap.size + 3 ≤ r.1
  dr : r.2 ≤ bx ∨ bx < r.1
  lh : hi ≤ w.heap.size
theorem GasI.below {w wr : World} {p : Int} {A : Option Addr} {cap : Nat} {l : List (Int × Int)} {AF AT AZ : Option Addr} {cF cT cZ lo hi : Nat} {F T Z : List Int} {bx : Nat} {BF : Option Addr} {dF : Nat} {BT : Option Addr} {dT : Nat} {BZ : Option Addr} {dZ : Nat} {r : Nat × Nat} {F' T' : List Int} {w' : World} (h : GasI w wr p A cap l AF AT AZ cF cT cZ lo hi F T Z bx BF dF BT dT BZ dZ r F' T') (hb : Below wr.heap.size wr w') : GasI w w' p A cap l AF AT AZ cF cT cZ lo hi F T Z bx BF dF BT dT BZ dZ r F' T' :=
  ⟨h.g.below hb, h.x.kept hb, h.o.within (within_of hb) (.inr (Nat.zero_le _)), h.lb, h.lr, h.dr, h.lh⟩
/-- Another block was written. -/
theorem GasI.other {w wr : World} {p : Int} {A : Option Addr} {cap : Nat} {l : List (Int × Int)} {AF AT AZ : Option Addr} {cF cT cZ lo hi : Nat} {F T Z : List Int} {bx : Nat} {BF : Option Addr} {dF : Nat} {BT : Option Addr} {dT : Nat} {BZ : Option Addr} {dZ : Nat} {r : Nat × Nat} {F' T' : List Int} {w' : World} (h : GasI w wr p A cap l AF AT AZ cF cT cZ lo hi F T Z bx BF dF BT dT BZ dZ r F' T') {b : Nat} (hw : Within b (b + 1) wr w') (h1 : w.heap.size + 3 ≤ b) (h2 : b ≠ bx) (h3 : r.2 ≤ b) : GasI w w' p A cap l AF AT AZ cF cT cZ lo hi F T Z bx BF dF BT dT BZ dZ r F' T' :=
  ⟨h.g.within hw h1 (by have := h.lh; omega), h.x.within hw (by omega), h.o.within hw (.inl h3), h.lb, h.lr, h.dr, h.lh⟩
/-- The state was replaced by another. -/
theorem GasI.put {w wr : World} {p : Int} {A : Option Addr} {cap : Nat} {l : List (Int × Int)} {AF AT AZ : Option Addr} {cF cT cZ lo hi : Nat} {F T Z : List Int} {bx : Nat} {BF : Option Addr} {dF : Nat} {BT : Option Addr} {dT : Nat} {BZ : Option Addr} {dZ : Nat} {r : Nat × Nat} {F' T' : List Int} (h : GasI w wr p A cap l AF AT AZ cF cT cZ lo hi F T Z bx BF dF BT dT BZ dZ r F' T') (CF : Option Addr) (eF : Nat) (CT : Option Addr) (eT : Nat) (CZ : Option Addr) (eZ : Nat) (q : Nat × Nat) (F2 T2 : List Int) (ho : Own3R wr q.1 q.2 CF eF CT eT CZ eZ F2 T2 Z) (hq : bx < q.1) : GasI w (((wr.setCell ⟨bx, 0, none⟩ (.slice CF F.length eF)).setCell ⟨bx, 1, none⟩ (.slice CT T.length eT)).setCell ⟨bx, 2, none⟩ (.slice CZ Z.length eZ)) p A cap l AF AT AZ cF cT cZ lo hi F T Z bx CF eF CT eT CZ eZ q F2 T2 := by
  have r3 := ret3 h.x (.slice CF F.length eF) (.slice CT T.length eT) (.slice CZ Z.length eZ)
  have h1 := h.lb
  have h2 := h.lh
  exact ⟨h.g.within r3.2 h1 (by omega), r3.1, ho.within r3.2 (.inr (by omega)), h.lb, by omega, .inr hq, h.lh⟩
/-- The free pebbles at a point, read out of the box. -/
def atX (W : World) (bx i : Nat) : Int :=
  match W.cell? ⟨bx, 0, none⟩ with
  | some (.slice (some g) _ _) => intOf ((W.cell? ⟨g.block, g.off + i, none⟩).getD (.bool false))
  | _ => 0
theorem GasI.at {w wr : World} {p : Int} {A : Option Addr} {cap : Nat} {l : List (Int × Int)} {AF AT AZ : Option Addr} {cF cT cZ lo hi : Nat} {F T Z : List Int} {bx : Nat} {BF : Option Addr} {dF : Nat} {BT : Option Addr} {dT : Nat} {BZ : Option Addr} {dZ : Nat} {r : Nat × Nat} {F' T' : List Int} (h : GasI w wr p A cap l AF AT AZ cF cT cZ lo hi F T Z bx BF dF BT dT BZ dZ r F' T') (i : Nat) (hi' : i < F'.length) : atX wr bx i = F'.getD i 0 := by
  obtain ⟨b, off, rfl, hc⟩ := row_at h.o.own3.reads.f (by omega)
  unfold atX
  rw [h.x.cells.1]
  show intOf ((wr.cell? ⟨b, off + i, none⟩).getD (.bool false)) = _
  rw [hc i hi']
  rfl
theorem GasI.find_no {w wr : World} {A : Option Addr} {cap : Nat} {l : List (Int × Int)} {AF AT AZ : Option Addr} {cF cT cZ lo hi : Nat} {F T Z : List Int} {bx : Nat} {BF : Option Addr} {dF : Nat} {BT : Option Addr} {dT : Nat} {BZ : Option Addr} {dZ : Nat} {r : Nat × Nat} {F' T' : List Int} {k0 a b : Int} (h : GasI w wr (F.length : Int) A cap l AF AT AZ cF cT cZ lo hi F T Z bx BF dF BT dT BZ dZ r F' T') (hS0 : PebS F.length k0 (plE l Z) F T) (hS : PebS F.length k0 (plE l Z) F' T') (hP : 1 ≤ F.length ∧ F.length ≤ 8) (hk0 : k0 ≤ 3) (hn : l.length ≤ 24) (hz24 : Z.length ≤ 24)
    (hZ : ∀ i, i < Z.length → 0 ≤ Z.getD i 0 ∧ Z.getD i 0 < (l.length : Int)) (ha : 0 ≤ a ∧ a < (F.length : Int)) (hf : findM (plE l Z) a b (F', T') = none) :
    Calls Try.prog 193 #[.agg #[.int .i64 (F.length : Int), .slice A l.length cap], pebV BF F.length dF BT T.length dT BZ Z.length dZ, .int .i64 a, .int .i64 b] wr (fun e w' => e = .returned (.tuple #[pebV BF F.length dF BT T.length dT BZ Z.length dZ, .bool false]) ∧ Below wr.heap.size wr w') := by
  have e1 : F'.length = F.length := hS.flen
  have e2 : T'.length = T.length := by rw [hS.ends.len, hS0.ends.len]
  have h1 := find_c k0 l A cap BF BT BZ dF dT dZ r.1 r.2 F' T' Z a b wr (by rw [e1]; exact hS) (by rw [e1]; exact hP) hk0 hn hz24 hZ (by rw [e1]; exact ha) h.g.bars.at h.o.own3.reads
  rw [e1, e2] at h1
  refine h1.mono ?_
  rintro e w' ⟨hb, ⟨rfl, _⟩ | ⟨s', _, _, _, _, _, _, _, hs, _⟩⟩
  · exact ⟨rfl, hb⟩
  · rw [hf] at hs; cases hs
theorem GasI.find_yes {w wr : World} {A : Option Addr} {cap : Nat} {l : List (Int × Int)} {AF AT AZ : Option Addr} {cF cT cZ lo hi : Nat} {F T Z : List Int} {bx : Nat} {BF : Option Addr} {dF : Nat} {BT : Option Addr} {dT : Nat} {BZ : Option Addr} {dZ : Nat} {r : Nat × Nat} {F' T' : List Int} {k0 a b : Int} {s : List Int × List Int} (h : GasI w wr (F.length : Int) A cap l AF AT AZ cF cT cZ lo hi F T Z bx BF dF BT dT BZ dZ r F' T') (hS0 : PebS F.length k0 (plE l Z) F T) (hS : PebS F.length k0 (plE l Z) F' T') (hP : 1 ≤ F.length ∧ F.length ≤ 8) (hk0 : k0 ≤ 3) (hn : l.length ≤ 24) (hz24 : Z.length ≤ 24)
    (hZ : ∀ i, i < Z.length → 0 ≤ Z.getD i 0 ∧ Z.getD i 0 < (l.length : Int)) (ha : 0 ≤ a ∧ a < (F.length : Int)) (hb0 : 0 ≤ b) (hab : a ≠ b) (hf : findM (plE l Z) a b (F', T') = some s) :
    Calls Try.prog 193 #[.agg #[.int .i64 (F.length : Int), .slice A l.length cap], pebV BF F.length dF BT T.length dT BZ Z.length dZ, .int .i64 a, .int .i64 b] wr (fun e w' => ∃ CF eF CT eT CZ eZ, e = .returned (.tuple #[pebV CF F.length eF CT T.length eT CZ Z.length eZ, .bool true]) ∧ Below wr.heap.size wr w' ∧ Own3R w' wr.heap.size w'.heap.size CF eF CT eT CZ eZ s.1 s.2 Z) := by
  have e1 : F'.length = F.length := hS.flen
  have e2 : T'.length = T.length := by rw [hS.ends.len, hS0.ends.len]
  obtain ⟨hk, _⟩ := findM_ok hS ha hab hb0 hf
  have h1 := find_c k0 l A cap BF BT BZ dF dT dZ r.1 r.2 F' T' Z a b wr (by rw [e1]; exact hS) (by rw [e1]; exact hP) hk0 hn hz24 hZ (by rw [e1]; exact ha) h.g.bars.at h.o.own3.reads
  rw [e1, e2] at h1
  refine h1.mono ?_
  rintro e w' ⟨hb, ⟨_, hs⟩ | ⟨s', CF, eF, CT, eT, CZ, eZ, rfl, hs, ho⟩⟩
  · rw [hf] at hs; cases hs
  · rw [hf] at hs
    cases hs
    exact ⟨CF, eF, CT, eT, CZ, eZ, by rw [hk.flen, hk.ends.len, ← hS0.ends.len], hb, ho⟩
theorem Own3R.hi {W : World} {lo hi : Nat} {AF AT AZ : Option Addr} {cF cT cZ : Nat} {F T Z : List Int} (h : Own3R W lo hi AF cF AT cT AZ cZ F T Z) : hi ≤ W.heap.size := by
  obtain ⟨_, _, _, _, _, _, _, _, _, _, _, _, h4⟩ := h
  exact h4
/-- What the specification's gathering answers. -/
def GathSP (w : World) (E : List (Int × Int)) (F T Z : List Int) (a b want : Int) (e : Ending) (w' : World) : Prop :=
  Below w.heap.size w w' ∧ ∃ AF cF AT cT AZ cZ, (e = .returned (.tuple #[pebV AF F.length cF AT T.length cT AZ Z.length cZ, .bool false]) ∧ gathR E a b want (F, T) = none) ∨ ∃ s, e = .returned (.tuple #[pebV AF F.length cF AT T.length cT AZ Z.length cZ, .bool true]) ∧ gathR E a b want (F, T) = some s ∧ s.1.length = F.length ∧ s.2.length = T.length ∧ Own3R w' w.heap.size w'.heap.size AF cF AT cT AZ cZ s.1 s.2 Z
end Go.Proofs.Ytdkpmaahinbhlaa
