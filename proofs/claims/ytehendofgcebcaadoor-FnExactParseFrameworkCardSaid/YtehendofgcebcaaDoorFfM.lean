/- A framework in words: the pure side; and what impl.Place.format answers. -/
import Derived.Test.YtehendofgcebcaaDoorFmtM
import Derived.Test.YtehendofgcebcaaDoorFwM
namespace Go.Proofs.YtehendofgcebcaaDoor
open Go.RowKit

/-- A place in words. -/
def plS (x : Int × Int) : ByteArray := (fmtS x.1 ++ ⟨#[44]⟩) ++ fmtS x.2
/-- A framework with its first k places in words. -/
noncomputable def ftx (p : Int) (l m : List (Int × Int)) : Nat → ByteArray
  | 0 => fmtG p l ++ ⟨#[32, 97, 116]⟩
  | k + 1 => (ftx p l m k ++ ⟨#[32]⟩) ++ plS (m.getD k (0, 0))
/-- A framework in words. -/
noncomputable def fmtF (p : Int) (l m : List (Int × Int)) : ByteArray := if isFB p l m = true then ftx p l m m.length else ⟨#[]⟩
theorem fmtF_yes {p : Int} {l m : List (Int × Int)} (h : isFB p l m = true) : fmtF p l m = ftx p l m m.length := by unfold fmtF; rw [if_pos h]
theorem fmtF_no {p : Int} {l m : List (Int × Int)} (h : isFB p l m = false) : fmtF p l m = ⟨#[]⟩ := by unfold fmtF; rw [h]; rfl
theorem plS_size (x : Int × Int) (h : OnG x) : (plS x).size ≤ 43 := by
  have h1 := fmtS_size x.1 h.1.1 (by have := h.1.2; omega)
  have h2 := fmtS_size x.2 h.2.1 (by have := h.2.2; omega)
  have h3 : (⟨#[44]⟩ : ByteArray).size = 1 := rfl
  unfold plS
  rw [size_app, size_app]
  omega
theorem fmtG_size {p : Int} {l : List (Int × Int)} (h : IsG p l) : (fmtG p l).size ≤ 1078 := by
  rw [fmtG_yes (isGB_yes h)]
  have := txt_size h l.length (Nat.le_refl _)
  have := h.2.1
  omega
theorem ftx_size {p : Int} {l m : List (Int × Int)} (h : IsF p l m) : ∀ k, k ≤ m.length → (ftx p l m k).size ≤ 1100 + 44 * k
  | 0, _ => by
    have h1 := fmtG_size h.g
    have h3 : (⟨#[32, 97, 116]⟩ : ByteArray).size = 3 := rfl
    unfold ftx
    rw [size_app]
    omega
  | k + 1, hk => by
    have h1 := ftx_size h k (by omega)
    have h2 := plS_size _ (h.grid k (by omega))
    have h3 : (⟨#[32]⟩ : ByteArray).size = 1 := rfl
    unfold ftx
    rw [size_app, size_app]
    omega
theorem on8 {x : Int × Int} (h : OnG x) : (0 ≤ x.1 ∧ x.1 ≤ 8) ∧ 0 ≤ x.2 ∧ x.2 ≤ 8 := ⟨⟨h.1.1, by have := h.1.2; omega⟩, h.2.1, by have := h.2.2; omega⟩

set_option maxHeartbeats 1000000 in
set_option maxRecDepth 100000 in
theorem plFormat (x : Int × Int) (w : World) (hx : (0 ≤ x.1 ∧ x.1 ≤ 8) ∧ 0 ≤ x.2 ∧ x.2 ≤ 8) (ht : Tab w) :
    Calls Tryd.prog 25 #[.agg #[.int .i64 x.1, .int .i64 x.2]] w fun e w' => e = .returned (.string (plS x)) ∧ Below w.heap.size w w' := by
  obtain ⟨x1, x2⟩ := x
  have HX := Lib.hid hx
  have s1 := fmtS_size x1 hx.1.1 hx.1.2
  have s2 := fmtS_size x2 hx.2.1 hx.2.2
  have s3 : (⟨#[44]⟩ : ByteArray).size = 1 := rfl
  have s4 := size_app (fmtS x1) ⟨#[44]⟩
  have ha1 : ∀ W : World, (Op.stringOp .add (fmtS x1) (ByteArray.mk #[44])).run Tryd.prog W = .ok (.string (fmtS x1 ++ ⟨#[44]⟩)) W := fun W => run_string_add_sum W _ _ (by omega)
  have ha2 : ∀ W : World, (Op.stringOp .add (fmtS x1 ++ ⟨#[44]⟩) (fmtS x2)).run Tryd.prog W = .ok (.string (plS (x1, x2))) W := fun W => run_string_add_sum W _ _ (by omega)
  clear s1 s2 s3 s4 hx
  generalize fmtS x1 ++ ⟨#[44]⟩ = s1 at ha1 ha2
  have hA := new_below w (.cells #[.int .i64 x1, .int .i64 x2] 49)
  have HA := Lib.hid hA
  have HT := Lib.hid (ht.below hA)
  have HBX := Lib.hid (box_new w x1 (.int .i64 x2) 49)
  clear hA ht
  go_enter Tryd.func25, Tryd.ntmps25
  go_wp2_with fail
  generalize (w.alloc (.cells #[.int .i64 x1, .int .i64 x2] 49)) = w1 at *
  have kk := HBX.out.2
  have hdr : Below w1.heap.size w1 w1.drew := (Below.refl _ _).drew
  have HD := Lib.hid hdr
  obtain ⟨g01, g02, g03⟩ := HBX.out
  go_region_held3 (fun W' => W'.cell? ⟨w.heap.size, 0, none⟩ = some (.int .i64 x1) ∧ W'.cell? ⟨w.heap.size, 1, none⟩ = some (.int .i64 x2))
    (first | exact kk | exact (HBX.out.kept HB2.out).2 | exact (HBX.out.kept HB3.out).2 | fail)
    (first
      | (go_at_call 50; refine (implFmt x1 _ (by have := HX.out; omega) (by have := HX.out; omega) (HT.out.below HD.out)).mono ?_; rintro e w2 ⟨rfl, hb⟩; have HB2 := Lib.hid (below_on HD.out hb HD.out.size); clear hb)
      | (go_at_call 50; refine (implFmt x2 _ (by have := HX.out; omega) (by have := HX.out; omega) (HT.out.below HB2.out)).mono ?_; rintro e w3 ⟨rfl, hb⟩; have HB3 := Lib.hid (below_on HB2.out hb HB2.out.size); clear hb))
  go_wp2_with fail
  go_ret
  exact ⟨rfl, below_on HA.out HB3.out HA.out.size⟩
end Go.Proofs.YtehendofgcebcaaDoor
