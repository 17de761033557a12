/- A graph in words: the pure side; and what impl.Bar.format answers. -/
import Derived.Test.YtehendofgcebcaaDoorFmt
import Derived.Test.YtehendofgcebcaaDoorBuild
import Derived.Test.YtehendofgcebcaaDoorIsGraphI
import Derived.Test.YtehendofgcebcaaDoorBox
import Derived.Deep.RegionHeld3
namespace Go.Proofs.YtehendofgcebcaaDoor
open Go.RowKit

/-- A bar in words. -/
def barS (x : Int × Int) : ByteArray := (fmtS x.1 ++ ⟨#[45]⟩) ++ fmtS x.2
/-- A graph's first k bars in words. -/
def txt (p : Int) (l : List (Int × Int)) : Nat → ByteArray
  | 0 => fmtS p ++ ⟨#[58]⟩
  | k + 1 => (txt p l k ++ ⟨#[32]⟩) ++ barS (l.getD k (0, 0))
/-- A graph in words. -/
noncomputable def fmtG (p : Int) (l : List (Int × Int)) : ByteArray := if isGB p l = true then txt p l l.length else ⟨#[]⟩
theorem fmtG_yes {p : Int} {l : List (Int × Int)} (h : isGB p l = true) : fmtG p l = txt p l l.length := by unfold fmtG; rw [if_pos h]
theorem fmtG_no {p : Int} {l : List (Int × Int)} (h : isGB p l = false) : fmtG p l = ⟨#[]⟩ := by unfold fmtG; rw [h]; rfl

theorem isG_yes {p : Int} {l : List (Int × Int)} (h : isGB p l = true) : IsG p l := by
  unfold isGB at h
  split at h
  · assumption
  · cases h
theorem isG_bar8 {p : Int} {l : List (Int × Int)} (h : IsG p l) (k : Nat) (hk : k < l.length) : (0 ≤ (l.getD k (0, 0)).1 ∧ (l.getD k (0, 0)).1 ≤ 8) ∧ 0 ≤ (l.getD k (0, 0)).2 ∧ (l.getD k (0, 0)).2 ≤ 8 := by
  have h1 := h.2.2 k hk
  have h2 := h.1
  unfold OkBar at h1
  omega

theorem fmtS_size (n : Int) (h : 0 ≤ n) (h8 : n ≤ 8) : (fmtS n).size ≤ 21 := by
  have := Lib.itoa_length_le n (by omega) (by omega)
  have h2 : (fmtS n).size = (Lib.itoa n).length := by simp [fmtS, ByteArray.size]
  omega
theorem size_app (a b : ByteArray) : (a ++ b).size = a.size + b.size := ByteArray.size_append
theorem barS_size (x : Int × Int) (h : (0 ≤ x.1 ∧ x.1 ≤ 8) ∧ 0 ≤ x.2 ∧ x.2 ≤ 8) : (barS x).size ≤ 43 := by
  have h1 := fmtS_size x.1 h.1.1 h.1.2
  have h2 := fmtS_size x.2 h.2.1 h.2.2
  have h3 : (⟨#[45]⟩ : ByteArray).size = 1 := rfl
  unfold barS
  rw [size_app, size_app]
  omega
theorem txt_size {p : Int} {l : List (Int × Int)} (h : IsG p l) : ∀ k, k ≤ l.length → (txt p l k).size ≤ 22 + 44 * k
  | 0, _ => by
    have h1 := fmtS_size p (by have := h.1; omega) (by have := h.1; omega)
    have h3 : (⟨#[58]⟩ : ByteArray).size = 1 := rfl
    unfold txt
    rw [size_app]
    omega
  | k + 1, hk => by
    have h1 := txt_size h k (by omega)
    have h2 := barS_size _ (isG_bar8 h k (by omega))
    have h3 : (⟨#[32]⟩ : ByteArray).size = 1 := rfl
    unfold txt
    rw [size_app, size_app]
    omega

theorem cells_app (a b : ByteArray) : Lib.strCells (a ++ b) = Lib.strCells a ++ Lib.strCells b := by
  simp [Lib.strCells, ByteArray.data_append]

theorem bld_on {T e : TypeId} {B b : Nat} {p : Value} {bs : List Value} {w w' : World} (h : Lib.BuilderAt T e B b p bs w) (hb : Below w.heap.size w w') : Lib.BuilderAt T e B b p bs w' := by
  obtain ⟨hB, v, hk, hown, hne⟩ := h
  have hlt : ∀ (g : Nat) (cs : Obj), w.heap[g]? = some cs → w'.heap[g]? = some cs := fun g cs hg => by
    have h1 : g < w.heap.size := by
      rcases Nat.lt_or_ge g w.heap.size with h' | h'
      · exact h'
      · simp [Array.getElem?_eq_none h'] at hg
    rw [hb.block g h1]
    exact hg
  refine ⟨hB, v, hlt _ _ hk, ⟨hown.1, ?_⟩, hne⟩
  rcases hown.2 with h | ⟨g, cap, cur, h1, h2, h3, h4⟩
  · exact .inl h
  · exact .inr ⟨g, cap, cur, h1, h2, hlt _ _ h3, h4⟩

set_option maxHeartbeats 1000000 in
set_option maxRecDepth 100000 in
theorem barFormat (x : Int × Int) (w : World) (hx : (0 ≤ x.1 ∧ x.1 ≤ 8) ∧ 0 ≤ x.2 ∧ x.2 ≤ 8) (ht : Tab w) :
    Calls Tryd.prog 51 #[.agg #[.int .i64 x.1, .int .i64 x.2]] w fun e w' => e = .returned (.string (barS x)) ∧ Below w.heap.size w w' := by
  obtain ⟨x1, x2⟩ := x
  have HX := Lib.hid hx
  have s1 := fmtS_size x1 hx.1.1 hx.1.2
  have s2 := fmtS_size x2 hx.2.1 hx.2.2
  have s3 : (⟨#[45]⟩ : ByteArray).size = 1 := rfl
  have s4 := size_app (fmtS x1) ⟨#[45]⟩
  have ha1 : ∀ W : World, (Op.stringOp .add (fmtS x1) (ByteArray.mk #[45])).run Tryd.prog W = .ok (.string (fmtS x1 ++ ⟨#[45]⟩)) W := fun W => run_string_add_sum W _ _ (by omega)
  have ha2 : ∀ W : World, (Op.stringOp .add (fmtS x1 ++ ⟨#[45]⟩) (fmtS x2)).run Tryd.prog W = .ok (.string (barS (x1, x2))) W := fun W => run_string_add_sum W _ _ (by omega)
  clear s1 s2 s3 s4 hx
  generalize fmtS x1 ++ ⟨#[45]⟩ = s1 at ha1 ha2
  have hA := new_below w (.cells #[.int .i64 x1, .int .i64 x2] 80)
  have HA := Lib.hid hA
  have HT := Lib.hid (ht.below hA)
  have HBX := Lib.hid (box_new w x1 (.int .i64 x2) 80)
  clear hA ht
  go_enter Tryd.func51, Tryd.ntmps51
  go_wp2_with fail
  generalize (w.alloc (.cells #[.int .i64 x1, .int .i64 x2] 80)) = w1 at *
  have kk := HBX.out.2
  have hdr : Below w1.heap.size w1 w1.drew := (Below.refl _ _).drew
  have HD := Lib.hid hdr
  obtain ⟨g01, g02, g03⟩ := HBX.out
  go_region_held3 (fun W' => W'.cell? ⟨w.heap.size, 0, none⟩ = some (.int .i64 x1) ∧ W'.cell? ⟨w.heap.size, 1, none⟩ = some (.int .i64 x2))
    (first | exact kk | exact (HBX.out.kept HB2.out).2 | exact (HBX.out.kept HB3.out).2 | fail)
    (first
      | (go_at_call 50; refine (implFmt x1 _ (by have := HX.out; omega) (by have := HX.out; omega) (HT.out.below HD.out)).mono ?_; rintro e w2 ⟨rfl, hb⟩; have HB2 := Lib.hid (below_on HD.out hb HD.out.size); clear hb)
      | (go_at_call 50; refine (implFmt x2 _ (by have := HX.out; omega) (by have := HX.out; omega) (HT.out.below HB2.out)).mono ?_; rintro e w3 ⟨rfl, hb⟩; have HB3 := Lib.hid (below_on HB2.out hb HB2.out.size); clear hb))
  go_wp2_with fail
  go_ret
  exact ⟨rfl, below_on HA.out HB3.out HA.out.size⟩
end Go.Proofs.YtehendofgcebcaaDoor
