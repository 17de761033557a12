/- What strings.IndexRune answers on the sixteen hexadecimal digits at a rune from 128 on: -1. No condition. -/
import Derived.Test.YtooklpeiaedokaaDoorWords
import Derived.Test.YtooklpeiaedokaaDoorShelf
import Derived.Laws.Runes
import Derived.WalkMore
import Derived.Deep.RegionWith
import Derived.Deep.QuietTactic
import Derived.BigQuiet
namespace Go.Proofs.YtooklpeiaedokaaDoor
open Go.RowKit

theorem hex_ascii (k : Nat) (h : k < (ByteArray.mk #[48, 49, 50, 51, 52, 53, 54, 55, 56, 57, 97, 98, 99, 100, 101, 102]).size) : ((ByteArray.mk #[48, 49, 50, 51, 52, 53, 54, 55, 56, 57, 97, 98, 99, 100, 101, 102])[k]'h).toNat < 128 := by
  have g : ∀ i : Fin 16, ((ByteArray.mk #[48, 49, 50, 51, 52, 53, 54, 55, 56, 57, 97, 98, 99, 100, 101, 102])[i.val]'i.isLt).toNat < 128 := by decide +kernel
  exact g ⟨k, h⟩


set_option maxHeartbeats 400000 in
set_option maxRecDepth 100000 in
theorem idxRune_err (w : World) :
    Calls Tryd.prog 27 #[.string (ByteArray.mk #[48, 49, 50, 51, 52, 53, 54, 55, 56, 57, 97, 98, 99, 100, 101, 102]), .int .i32 65533] w fun e w' => e = .returned (.int .i64 (-1)) ∧ Below w.heap.size w w' := by
  go_enter Tryd.func27, Tryd.ntmps27
  go_wp2_with fail
  go_loopw [5] (fun _ wr => ∃ k : Nat, k ≤ 16 ∧ wr = w.iter (ByteArray.mk #[48, 49, 50, 51, 52, 53, 54, 55, 56, 57, 97, 98, 99, 100, 101, 102]) k) (fun _ wr => 16 - wr.iterPos w.heap.size)
  case atStart => exact ⟨0, by omega, rfl⟩
  case round =>
    obtain ⟨k, hk, rfl⟩ := hrel
    by_cases hlt : k < 16
    · have hb := hex_ascii k hlt
      have hnx := fun ty => run_next_ascii (P := Tryd.prog) w (ByteArray.mk #[48, 49, 50, 51, 52, 53, 54, 55, 56, 57, 97, 98, 99, 100, 101, 102]) k ty hlt hb
      have hne : ((((ByteArray.mk #[48, 49, 50, 51, 52, 53, 54, 55, 56, 57, 97, 98, 99, 100, 101, 102])[k]'hlt).toNat : Int) == 65533) = false := by simp; omega
      go_wp2_with fail
      go_roundw
      case rel => exact ⟨k + 1, by omega, rfl⟩
      case measure => simp; omega
    · obtain rfl : k = 16 := by omega
      have hnx := fun ty => run_next_end (P := Tryd.prog) w (ByteArray.mk #[48, 49, 50, 51, 52, 53, 54, 55, 56, 57, 97, 98, 99, 100, 101, 102]) 16 ty (by decide)
      go_wp2_with fail
      go_ret
      exact ⟨rfl, iter_below _ _ _⟩

set_option maxHeartbeats 400000 in
set_option maxRecDepth 100000 in
theorem idxRune_inv (r : Int) (w : World) (h1 : 128 ≤ r) (h2 : r ≤ 2147483647) (h3 : (r == 65533) = false) (hv : Lib.validRune r = false) :
    Calls Tryd.prog 27 #[.string (ByteArray.mk #[48, 49, 50, 51, 52, 53, 54, 55, 56, 57, 97, 98, 99, 100, 101, 102]), .int .i32 r] w fun e w' => e = .returned (.int .i64 (-1)) ∧ Below w.heap.size w w' := by
  go_enter Tryd.func27, Tryd.ntmps27
  go_wp2_with fail
  refine (Tryd.utf8_ValidRune r _).mono ?_
  rintro e w' ⟨rfl, rfl⟩
  go_wp2_with fail
  go_ret
  exact ⟨rfl, Below.refl _ _⟩

theorem indexByte_none : ∀ (l : List UInt8) (c : UInt8), (∀ b ∈ l, b ≠ c) → Lib.indexByte l c = -1 := by
  intro l c
  induction l with
  | nil => intro _; rfl
  | cons b l ih =>
    intro h
    have hb : (b == c) = false := by simpa using h b (by simp)
    rw [Lib.indexByte, hb, ih fun x hx => h x (by simp [hx])]
    rfl

set_option maxHeartbeats 400000 in
set_option maxRecDepth 100000 in
theorem idxRune_v2 (r : Int) (w : World) (h1 : 128 ≤ r) (h2 : r ≤ 2147483647) (h3 : (r == 65533) = false) (hv : Lib.validRune r = true) (hz : (Utf8.encode r).size = 2)
    (hl : ∀ h : 1 < (Utf8.encode r).size, 128 ≤ ((Utf8.encode r)[1]'h).toNat) :
    Calls Tryd.prog 27 #[.string (ByteArray.mk #[48, 49, 50, 51, 52, 53, 54, 55, 56, 57, 97, 98, 99, 100, 101, 102]), .int .i32 r] w fun e w' => e = .returned (.int .i64 (-1)) ∧ Below w.heap.size w w' := by
  obtain ⟨E, hE⟩ : ∃ E, Utf8.encode r = E := ⟨_, rfl⟩
  rw [hE] at hz hl
  have hlt : 1 < E.size := by omega
  have h128 := hl hlt
  have h256 := (E[1]'hlt).toNat_lt
  have hix : Lib.indexByte [50, 51, 52, 53, 54, 55, 56, 57, 97, 98, 99, 100, 101, 102] (E[1]'hlt) = -1 := by
    refine indexByte_none _ _ fun b hb => ?_
    have g : ∀ b ∈ ([50, 51, 52, 53, 54, 55, 56, 57, 97, 98, 99, 100, 101, 102] : List UInt8), b.toNat < 128 := by decide
    have := g b hb
    intro e
    subst e
    omega
  have hne : ((((ByteArray.mk #[48, 49, 50, 51, 52, 53, 54, 55, 56, 57, 97, 98, 99, 100, 101, 102])[1]'(by decide)).toNat : Int) != ((E[1]'hlt).toNat : Int)) = true := by
    have g : (((ByteArray.mk #[48, 49, 50, 51, 52, 53, 54, 55, 56, 57, 97, 98, 99, 100, 101, 102])[1]'(by decide)).toNat : Int) = 49 := rfl
    rw [g]
    simp
    omega
  go_enter Tryd.func27, Tryd.ntmps27
  go_wp2_with fail
  refine (Tryd.utf8_ValidRune r _).mono ?_
  rintro e w' ⟨rfl, rfl⟩
  go_wp2_with fail
  go_step3
  go_wp2_with fail
  refine wp_loop_rounds 1 ?_
  rw [rounds_succ]
  go_wp2_with fail
  go_step3
  go_wp2_with fail
  go_quiet (fail)
  have hb0 := below_drewN w'.heap.size w' nq
  go_wp2_with fail
  generalize w'.drewN nq = w2 at hb0 ⊢
  go_quiet ((go_at_call 33; exact Calls.quiet_of_same (Tryd.strings_IndexByte _ _ _)))
  go_wp2_with fail
  rw [Exit.noGoto_ret]
  go_wp2_with fail
  rw [Exit.noGoto_ret]
  go_wp2_with fail
  go_ret
  exact ⟨rfl, hb0.trans (below_drewN _ _ _)⟩

set_option maxHeartbeats 400000 in
set_option maxRecDepth 100000 in
theorem idxRune_v3 (r : Int) (w : World) (h1 : 128 ≤ r) (h2 : r ≤ 2147483647) (h3 : (r == 65533) = false) (hv : Lib.validRune r = true) (hz : (Utf8.encode r).size = 3)
    (hl : ∀ h : 2 < (Utf8.encode r).size, 128 ≤ ((Utf8.encode r)[2]'h).toNat) :
    Calls Tryd.prog 27 #[.string (ByteArray.mk #[48, 49, 50, 51, 52, 53, 54, 55, 56, 57, 97, 98, 99, 100, 101, 102]), .int .i32 r] w fun e w' => e = .returned (.int .i64 (-1)) ∧ Below w.heap.size w w' := by
  obtain ⟨E, hE⟩ : ∃ E, Utf8.encode r = E := ⟨_, rfl⟩
  rw [hE] at hz hl
  have hlt : 2 < E.size := by omega
  have h128 := hl hlt
  have h256 := (E[2]'hlt).toNat_lt
  have hix : Lib.indexByte [51, 52, 53, 54, 55, 56, 57, 97, 98, 99, 100, 101, 102] (E[2]'hlt) = -1 := by
    refine indexByte_none _ _ fun b hb => ?_
    have g : ∀ b ∈ ([51, 52, 53, 54, 55, 56, 57, 97, 98, 99, 100, 101, 102] : List UInt8), b.toNat < 128 := by decide
    have := g b hb
    intro e
    subst e
    omega
  have hne : ((((ByteArray.mk #[48, 49, 50, 51, 52, 53, 54, 55, 56, 57, 97, 98, 99, 100, 101, 102])[2]'(by decide)).toNat : Int) != ((E[2]'hlt).toNat : Int)) = true := by
    have g : (((ByteArray.mk #[48, 49, 50, 51, 52, 53, 54, 55, 56, 57, 97, 98, 99, 100, 101, 102])[2]'(by decide)).toNat : Int) = 50 := rfl
    rw [g]
    simp
    omega
  go_enter Tryd.func27, Tryd.ntmps27
  go_wp2_with fail
  refine (Tryd.utf8_ValidRune r _).mono ?_
  rintro e w' ⟨rfl, rfl⟩
  go_wp2_with fail
  go_step3
  go_wp2_with fail
  refine wp_loop_rounds 1 ?_
  rw [rounds_succ]
  go_wp2_with fail
  go_step3
  go_wp2_with fail
  go_quiet (fail)
  have hb0 := below_drewN w'.heap.size w' nq
  go_wp2_with fail
  generalize w'.drewN nq = w2 at hb0 ⊢
  go_quiet ((go_at_call 33; exact Calls.quiet_of_same (Tryd.strings_IndexByte _ _ _)))
  go_wp2_with fail
  rw [Exit.noGoto_ret]
  go_wp2_with fail
  rw [Exit.noGoto_ret]
  go_wp2_with fail
  go_ret
  exact ⟨rfl, hb0.trans (below_drewN _ _ _)⟩

set_option maxHeartbeats 400000 in
set_option maxRecDepth 100000 in
theorem idxRune_v4 (r : Int) (w : World) (h1 : 128 ≤ r) (h2 : r ≤ 2147483647) (h3 : (r == 65533) = false) (hv : Lib.validRune r = true) (hz : (Utf8.encode r).size = 4)
    (hl : ∀ h : 3 < (Utf8.encode r).size, 128 ≤ ((Utf8.encode r)[3]'h).toNat) :
    Calls Tryd.prog 27 #[.string (ByteArray.mk #[48, 49, 50, 51, 52, 53, 54, 55, 56, 57, 97, 98, 99, 100, 101, 102]), .int .i32 r] w fun e w' => e = .returned (.int .i64 (-1)) ∧ Below w.heap.size w w' := by
  obtain ⟨E, hE⟩ : ∃ E, Utf8.encode r = E := ⟨_, rfl⟩
  rw [hE] at hz hl
  have hlt : 3 < E.size := by omega
  have h128 := hl hlt
  have h256 := (E[3]'hlt).toNat_lt
  have hix : Lib.indexByte [52, 53, 54, 55, 56, 57, 97, 98, 99, 100, 101, 102] (E[3]'hlt) = -1 := by
    refine indexByte_none _ _ fun b hb => ?_
    have g : ∀ b ∈ ([52, 53, 54, 55, 56, 57, 97, 98, 99, 100, 101, 102] : List UInt8), b.toNat < 128 := by decide
    have := g b hb
    intro e
    subst e
    omega
  have hne : ((((ByteArray.mk #[48, 49, 50, 51, 52, 53, 54, 55, 56, 57, 97, 98, 99, 100, 101, 102])[3]'(by decide)).toNat : Int) != ((E[3]'hlt).toNat : Int)) = true := by
    have g : (((ByteArray.mk #[48, 49, 50, 51, 52, 53, 54, 55, 56, 57, 97, 98, 99, 100, 101, 102])[3]'(by decide)).toNat : Int) = 51 := rfl
    rw [g]
    simp
    omega
  go_enter Tryd.func27, Tryd.ntmps27
  go_wp2_with fail
  refine (Tryd.utf8_ValidRune r _).mono ?_
  rintro e w' ⟨rfl, rfl⟩
  go_wp2_with fail
  go_step3
  go_wp2_with fail
  refine wp_loop_rounds 1 ?_
  rw [rounds_succ]
  go_wp2_with fail
  go_step3
  go_wp2_with fail
  go_quiet (fail)
  have hb0 := below_drewN w'.heap.size w' nq
  go_wp2_with fail
  generalize w'.drewN nq = w2 at hb0 ⊢
  go_quiet ((go_at_call 33; exact Calls.quiet_of_same (Tryd.strings_IndexByte _ _ _)))
  go_wp2_with fail
  rw [Exit.noGoto_ret]
  go_wp2_with fail
  rw [Exit.noGoto_ret]
  go_wp2_with fail
  go_ret
  exact ⟨rfl, hb0.trans (below_drewN _ _ _)⟩

theorem Utf8_valid_eq (r : Int) : Utf8.valid r = Lib.validRune r := by
  rw [validRune_eq]
  rfl

/-- At every rune from 128 on. -/
theorem idxRune_high (r : Int) (w : World) (h1 : 128 ≤ r) (h2 : r ≤ 2147483647) :
    Calls Tryd.prog 27 #[.string (ByteArray.mk #[48, 49, 50, 51, 52, 53, 54, 55, 56, 57, 97, 98, 99, 100, 101, 102]), .int .i32 r] w fun e w' => e = .returned (.int .i64 (-1)) ∧ Below w.heap.size w w' := by
  by_cases h3 : r = 65533
  · subst h3; exact idxRune_err w
  · have h3' : (r == 65533) = false := by simpa using h3
    cases hv : Lib.validRune r
    · exact idxRune_inv r w h1 h2 h3' hv
    · have hv2 : Utf8.valid r = true := by rw [Utf8_valid_eq r]; exact hv
      obtain ⟨ha, hb, hc⟩ := encode_facts r hv2 h1
      have hz : (Utf8.encode r).size = 2 ∨ (Utf8.encode r).size = 3 ∨ (Utf8.encode r).size = 4 := by omega
      rcases hz with hz | hz | hz
      · exact idxRune_v2 r w h1 h2 h3' hv hz (fun h => by simpa [hz] using hc (by omega))
      · exact idxRune_v3 r w h1 h2 h3' hv hz (fun h => by simpa [hz] using hc (by omega))
      · exact idxRune_v4 r w h1 h2 h3' hv hz (fun h => by simpa [hz] using hc (by omega))
end Go.Proofs.YtooklpeiaedokaaDoor
