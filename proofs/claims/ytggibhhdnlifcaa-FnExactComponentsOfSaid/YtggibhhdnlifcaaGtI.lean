/- What stands while a state is worked upon: the graph's box, the state's box, the result's box. No program's walk. No condition. -/
import Derived.Test.YtggibhhdnlifcaaOwnF
namespace Go.Proofs.Ytggibhhdnlifcaa
open Go.RowKit

/-- What stands while a state is worked upon: the graph's box, the state's box, the result's box. -/
structure GtI (w W : World) (p : Int) (A : Option Addr) (cap : Nat) (l : List (Int × Int)) (AF AT AZ : Option Addr) (cF cT cZ lo hi : Nat) (F T Z : List Int) : Prop where
  gb : Box W w.heap.size p (.slice A l.length cap)
  pb : Cel3 W (w.heap.size + 1) 63 (.slice AF F.length cF) (.slice AT T.length cT) (.slice AZ Z.length cZ)
  rb : Cel3 W (w.heap.size + 1 + 1) 63 (.slice none 0 0) (.slice none 0 0) (.slice none 0 0)
  bars : BarsIn W 0 w.heap.size A l
  src : Peb3 W lo hi AF AT AZ F T Z
  bel : Below w.heap.size w W
theorem GtI.below {w W : World} {p : Int} {A : Option Addr} {cap : Nat} {l : List (Int × Int)} {AF AT AZ : Option Addr} {cF cT cZ lo hi : Nat} {F T Z : List Int} {W' : World} (h : GtI w W p A cap l AF AT AZ cF cT cZ lo hi F T Z) (hb : Below W.heap.size W W') : GtI w W' p A cap l AF AT AZ cF cT cZ lo hi F T Z :=
  ⟨h.gb.kept hb, h.pb.kept hb, h.rb.kept hb, h.bars.within (within_of hb) (.inr (Nat.zero_le _)), h.src.within (within_of hb) (.inr (Nat.zero_le _)), below_on h.bel hb h.bel.size⟩
theorem GtI.within {w W : World} {p : Int} {A : Option Addr} {cap : Nat} {l : List (Int × Int)} {AF AT AZ : Option Addr} {cF cT cZ lo hi : Nat} {F T Z : List Int} {W' : World} (h : GtI w W p A cap l AF AT AZ cF cT cZ lo hi F T Z) {lo' hi' : Nat} (hw : Within lo' hi' W W') (h1 : w.heap.size + 3 ≤ lo') (h2 : hi ≤ lo') : GtI w W' p A cap l AF AT AZ cF cT cZ lo hi F T Z :=
  ⟨h.gb.within hw (by omega), h.pb.within hw (by omega), h.rb.within hw (by omega), h.bars.within hw (by omega), h.src.within hw (by omega), ⟨hw.os.trans h.bel.os, hw.tape.trans h.bel.tape, hw.output.trans h.bel.output, Nat.le_trans h.bel.size hw.size, fun k hk => (hw.block k (Nat.lt_of_lt_of_le hk h.bel.size) (by omega)).trans (h.bel.block k hk)⟩⟩
/-- Three boxes are made at the start. -/
theorem GtI.start (w : World) (p : Int) (A : Option Addr) (cap : Nat) (l : List (Int × Int)) (AF AT AZ : Option Addr) (cF cT cZ lo hi : Nat) (F T Z : List Int) (hl : BarsAt w w.heap.size A l) (h : Peb3 w lo hi AF AT AZ F T Z) :
    GtI w (((w.alloc (.cells #[.int .i64 p, .slice A l.length cap] 30)).alloc (.cells #[.slice AF F.length cF, .slice AT T.length cT, .slice AZ Z.length cZ] 63)).alloc (.cells #[.slice none 0 0, .slice none 0 0, .slice none 0 0] 63)) p A cap l AF AT AZ cF cT cZ lo hi F T Z := by
  have b1 := new_below w (.cells #[.int .i64 p, .slice A l.length cap] 30)
  generalize hw1 : (w.alloc (.cells #[.int .i64 p, .slice A l.length cap] 30)) = w1 at *
  have s1 : w1.heap.size = w.heap.size + 1 := by rw [← hw1]; simp
  have n1 := box_new w p (.slice A l.length cap) 30
  rw [hw1] at n1
  have b2 := new_below w1 (.cells #[.slice AF F.length cF, .slice AT T.length cT, .slice AZ Z.length cZ] 63)
  have n2 := cel3_new w1 (.slice AF F.length cF) (.slice AT T.length cT) (.slice AZ Z.length cZ) 63
  generalize hw2 : (w1.alloc (.cells #[.slice AF F.length cF, .slice AT T.length cT, .slice AZ Z.length cZ] 63)) = w2 at *
  have s2 : w2.heap.size = w.heap.size + 1 + 1 := by rw [← hw2]; simp [s1]
  have b3 := new_below w2 (.cells #[.slice none 0 0, .slice none 0 0, .slice none 0 0] 63)
  have n3 := cel3_new w2 (.slice none 0 0) (.slice none 0 0) (.slice none 0 0) 63
  have b123 := below_on (below_on b1 b2 b1.size) b3 (by omega)
  rw [s1] at n2
  rw [s2] at n3
  exact ⟨(n1.kept b2).kept b3, n2.kept b3, n3, (bars_in hl).within (within_of b123) (.inr (Nat.zero_le _)), h.within (within_of b123) (.inr (Nat.zero_le _)), b123⟩
end Go.Proofs.Ytggibhhdnlifcaa
