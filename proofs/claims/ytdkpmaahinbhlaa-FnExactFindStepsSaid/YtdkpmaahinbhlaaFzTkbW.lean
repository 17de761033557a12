/- Memory of impl.Graph.takeBack: the graph's box, the step's and the answer's boxes; a box beside them; what lies behind the first region. No condition. -/
import Derived.Test.YtdkpmaahinbhlaaFzTkbM
import Derived.Test.YtdkpmaahinbhlaaFzFreed
import Derived.Test.YtdkpmaahinbhlaaFzB2
namespace Go.Proofs.Ytdkpmaahinbhlaa
open Go.RowKit

structure TkI (V w : World) (p : Int) (A : Option Addr) (cap : Nat) (l : List (Int × Int)) (u v s0 s1 s2 s3 s4 : Value) : Prop where
  gr : Cel2 w V.heap.size 26 (.int .i64 p) (.slice A l.length cap)
  r2 : Cel2 w (V.heap.size + 2) 26 u v
  r3 : Cel5 w (V.heap.size + 1) 155 s0 s1 s2 s3 s4
  bars : BarsIn w 0 V.heap.size A l
  bel : Below V.heap.size V w
abbrev TkZ (V w : World) (p : Int) (A : Option Addr) (cap : Nat) (l : List (Int × Int)) : Prop := TkI V w p A cap l (.int .i64 0) (.slice none 0 0) (.int .i64 0) (.int .i64 0) (.int .i64 0) (.int .i64 0) (.int .i64 0)
section
variable {V w w' : World} {p : Int} {A : Option Addr} {cap : Nat} {l : List (Int × Int)} {u v s0 s1 s2 s3 s4 : Value}
theorem TkI.below (h : TkI V w p A cap l u v s0 s1 s2 s3 s4) (hb : Below w.heap.size w w') : TkI V w' p A cap l u v s0 s1 s2 s3 s4 :=
  ⟨h.gr.kept hb, h.r2.kept hb, h.r3.kept hb, h.bars.within (within_of hb) (.inr (Nat.zero_le _)), below_on h.bel hb h.bel.size⟩
theorem TkI.at (h : TkI V w p A cap l u v s0 s1 s2 s3 s4) : BarsAt w w.heap.size A l := h.bars.at
theorem TkI.lt (h : TkI V w p A cap l u v s0 s1 s2 s3 s4) : V.heap.size + 3 ≤ w.heap.size := by have := h.r2.lt; omega
theorem TkI.set2 (h : TkI V w p A cap l u v s0 s1 s2 s3 s4) (a b : Value) : TkI V ((w.setCell ⟨V.heap.size + 2, 0, none⟩ a).setCell ⟨V.heap.size + 2, 1, none⟩ b) p A cap l a b s0 s1 s2 s3 s4 ∧ Within (V.heap.size + 1) (V.heap.size + 3) w ((w.setCell ⟨V.heap.size + 2, 0, none⟩ a).setCell ⟨V.heap.size + 2, 1, none⟩ b) := by
  obtain ⟨h1, h2⟩ := ret2 h.r2 a b
  exact ⟨⟨h.gr.within h2 (.inl (by omega)), h1, h.r3.within h2 (.inl (by omega)), h.bars.within h2 (.inl (by omega)), within_on h.bel h2 h.bel.size (.inl (by omega))⟩, h2.widen (.inr (by omega))⟩
theorem TkI.set3 (h : TkI V w p A cap l u v s0 s1 s2 s3 s4) (a b c d e : Value) : TkI V (((((w.setCell ⟨V.heap.size + 1, 0, none⟩ a).setCell ⟨V.heap.size + 1, 1, none⟩ b).setCell ⟨V.heap.size + 1, 2, none⟩ c).setCell ⟨V.heap.size + 1, 3, none⟩ d).setCell ⟨V.heap.size + 1, 4, none⟩ e) p A cap l u v a b c d e ∧ Within (V.heap.size + 1) (V.heap.size + 3) w (((((w.setCell ⟨V.heap.size + 1, 0, none⟩ a).setCell ⟨V.heap.size + 1, 1, none⟩ b).setCell ⟨V.heap.size + 1, 2, none⟩ c).setCell ⟨V.heap.size + 1, 3, none⟩ d).setCell ⟨V.heap.size + 1, 4, none⟩ e) := by
  obtain ⟨h1, h2⟩ := ret5 h.r3 a b c d e
  exact ⟨⟨h.gr.within h2 (.inl (by omega)), h.r2.within h2 (.inr (by omega)), h1, h.bars.within h2 (.inl (by omega)), within_on h.bel h2 h.bel.size (.inl (by omega))⟩, h2.widen (.inr (by omega))⟩
theorem tkI_new (w : World) (p : Int) (A : Option Addr) (cap : Nat) (l : List (Int × Int)) (hl : BarsAt w w.heap.size A l) : TkZ w (((w.alloc (.cells #[.int .i64 p, .slice A l.length cap] 26)).alloc (.cells #[.int .i64 0, .int .i64 0, .int .i64 0, .int .i64 0, .int .i64 0] 155)).alloc (.cells #[.int .i64 0, .slice none 0 0] 26)) p A cap l := by
  have hA1 := new_below w (.cells #[.int .i64 p, .slice A l.length cap] 26)
  have hA2 := new_below (w.alloc (.cells #[.int .i64 p, .slice A l.length cap] 26)) (.cells #[.int .i64 0, .int .i64 0, .int .i64 0, .int .i64 0, .int .i64 0] 155)
  have hA3 := new_below ((w.alloc (.cells #[.int .i64 p, .slice A l.length cap] 26)).alloc (.cells #[.int .i64 0, .int .i64 0, .int .i64 0, .int .i64 0, .int .i64 0] 155)) (.cells #[.int .i64 0, .slice none 0 0] 26)
  have g1 := cel2_new w (.int .i64 p) (.slice A l.length cap) 26
  have g2 := cel5_new (w.alloc (.cells #[.int .i64 p, .slice A l.length cap] 26)) (.int .i64 0) (.int .i64 0) (.int .i64 0) (.int .i64 0) (.int .i64 0) 155
  have g3 := cel2_new ((w.alloc (.cells #[.int .i64 p, .slice A l.length cap] 26)).alloc (.cells #[.int .i64 0, .int .i64 0, .int .i64 0, .int .i64 0, .int .i64 0] 155)) (.int .i64 0) (.slice none 0 0) 26
  have e1 : (w.alloc (.cells #[.int .i64 p, .slice A l.length cap] 26)).heap.size = w.heap.size + 1 := by simp
  have e2 : ((w.alloc (.cells #[.int .i64 p, .slice A l.length cap] 26)).alloc (.cells #[.int .i64 0, .int .i64 0, .int .i64 0, .int .i64 0, .int .i64 0] 155)).heap.size = w.heap.size + 2 := by simp
  rw [e1] at g2
  rw [e2] at g3
  have z : ∀ {a b : World}, Below a.heap.size a b → ∀ {A : Option Addr} {l : List (Int × Int)} {hi : Nat}, BarsIn a 0 hi A l → BarsIn b 0 hi A l := fun hb _ _ _ h => h.within (within_of hb) (.inr (Nat.zero_le _))
  exact ⟨(g1.kept hA2).kept hA3, g3, g2.kept hA3, z hA3 (z hA2 (z hA1 (bars_in hl))), below_on (below_on hA1 hA2 hA1.size) hA3 (below_on hA1 hA2 hA1.size).size⟩
/-- A store into a box behind the three. -/
theorem TkI.by {b : Nat} (h : TkI V w p A cap l u v s0 s1 s2 s3 s4) (hw : Within b (b + 1) w w') (hb : V.heap.size + 3 ≤ b) : TkI V w' p A cap l u v s0 s1 s2 s3 s4 :=
  ⟨h.gr.within hw (.inl (by omega)), h.r2.within hw (.inl (by omega)), h.r3.within hw (.inl (by omega)), h.bars.within hw (.inl (by omega)), within_on h.bel hw h.bel.size (.inl (by omega))⟩
/-- Behind the first region: the neighbours, a box with the graph without the point. -/
def BoxT (V : World) (p : Int) (A : Option Addr) (cap : Nat) (l : List (Int × Int)) (v : Int) (b1 b2 : Value) (wx : World) : Prop :=
  ∃ An cn b Ad cd, b1 = .slice An (nearL v l).length cn ∧ b2 = .pointer (some ⟨b, 0, none⟩) ∧ TkZ V wx p A cap l ∧ NrI V wx An (nearL v l) ∧ V.heap.size + 3 ≤ b ∧ Cel2 wx b 26 (.int .i64 p) (.slice Ad (offI v l).length cd) ∧ DrI V wx Ad (offI v l)
/-- The box is written: rows that lie before it or behind it stay. -/
theorem boxT_in {W : World} {An Ad : Option Addr} {cn cd b n1 n2 d1 d2 : Nat} {v : Int} {a0 a1 : Value} (h : TkZ V W p A cap l) (hx : Cel2 W b 26 a0 a1) (hb : V.heap.size + 3 ≤ b) (hn : IntsIn W n1 n2 An (nearL v l)) (hn1 : V.heap.size + 3 ≤ n1) (hn2 : n2 ≤ b ∨ b + 1 ≤ n1)
    (hd : BarsIn W d1 d2 Ad (offI v l)) (hd1 : V.heap.size + 3 ≤ d1) (hd2 : d2 ≤ b ∨ b + 1 ≤ d1) :
    BoxT V p A cap l v (.slice An (nearL v l).length cn) (.pointer (some ⟨b, 0, none⟩)) ((W.setCell ⟨b, 0, none⟩ (.int .i64 p)).setCell ⟨b, 1, none⟩ (.slice Ad (offI v l).length cd)) := by
  obtain ⟨h1, h2⟩ := ret2 hx (.int .i64 p) (.slice Ad (offI v l).length cd)
  have hn' := hn.within h2 (by omega)
  have hd' := hd.within h2 (by omega)
  exact ⟨An, cn, b, Ad, cd, rfl, rfl, h.by h2 hb, ⟨n2, hn'.1, fun hl => by obtain ⟨g, o, e, k1, k2, hc⟩ := hn'.2 hl; exact ⟨g, o, e, by omega, k2, hc⟩⟩, hb, h1, d2, hd'.1, fun hl => by obtain ⟨g, o, e, k1, k2, hc⟩ := hd'.2 hl; exact ⟨g, o, e, by omega, k2, hc⟩⟩
end
end Go.Proofs.Ytdkpmaahinbhlaa
