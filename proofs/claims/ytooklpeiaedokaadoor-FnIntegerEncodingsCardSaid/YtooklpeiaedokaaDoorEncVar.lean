/- What impl.EncodeVarint answers: for every int. No condition. -/
import Derived.Test.YtooklpeiaedokaaDoorIn
namespace Go.Proofs.YtooklpeiaedokaaDoor
open Go.RowKit

/-- The bytes of n's varint. -/
def vb (n : Nat) : List Int := if n < 128 then [(n : Int)] else (128 + (n : Int) % 128) :: vb (n / 128)
termination_by n
decreasing_by omega

theorem vb_small (n : Nat) (h : n < 128) : vb n = [(n : Int)] := by rw [vb, if_pos h]

theorem vb_big (n : Nat) (h : ¬ n < 128) : vb n = (128 + (n : Int) % 128) :: vb (n / 128) := by rw [vb, if_neg h]

theorem vb_len (k : Nat) : ∀ n : Nat, n < 128 ^ (k + 1) → (vb n).length ≤ k + 1 := by
  induction k with
  | zero => intro n h; rw [vb_small n (by omega)]; simp
  | succ k ih =>
    intro n h
    by_cases hn : n < 128
    · rw [vb_small n hn]; simp
    · rw [vb_big n hn, List.length_cons]
      have := ih (n / 128) (by rw [Nat.pow_succ] at h; omega)
      omega

theorem vb_len7 (n : Nat) (h : n ≤ 562949953421311) : (vb n).length ≤ 7 := vb_len 6 n (by have : (128 : Nat) ^ (6 + 1) = 562949953421312 := by decide
                                                                                          omega)

theorem infoU8 : (Tryd.prog.info? 5).map (fun i => (i.zero, i.size, i.bytes)) = some (some (.int .u8 0), 1, 1) := by kernel_rfl

theorem implEncV_bad (n : Int) (w : World) (h : n < 0 ∨ 562949953421311 < n) :
    Calls Tryd.prog 9 #[.int .i64 n] w fun e w' => e = .returned (.string ByteArray.empty) ∧ w = w' := by
  rcases h with h | h
  all_goals
    go_enter Tryd.func9, Tryd.ntmps9
    go_wp2
    go_ret
    exact ⟨rfl, rfl⟩

theorem wraps_u8' (n : Int) (h₀ : 0 ≤ n) (h₁ : n < 2 ^ 8) : IntKind.u8.wrap n = n := by rw [IntKind.wrap_u8]; omega

/-- The byte of n with its top bit set. -/
theorem or_top (k : Nat) : bits .or .u8 ((k : Int) % 256) 128 = 128 + (k : Int) % 128 := by
  have e : (k : Int) % 256 = (((k % 256 : Nat)) : Int) := by omega
  rw [e]
  have h := (bits_nat .u8 8 (by decide) wraps_u8' (k % 256) 128 (by omega) (by decide)).2
  have h128 : (128 : Int) = ((128 : Nat) : Int) := rfl
  rw [h128, h]
  have g : ∀ a : Fin 256, a.val ||| 128 = 128 + a.val % 128 := by decide +kernel
  have := g ⟨k % 256, by omega⟩
  simp only at this
  rw [this]
  omega

set_option maxHeartbeats 400000 in
set_option maxRecDepth 100000 in
theorem implEncV_good (n : Nat) (w : World) (h : n ≤ 562949953421311) :
    Calls Tryd.prog 9 #[.int .i64 (n : Int)] w fun e w' => e = .returned (.string (strOfNums (vb n))) ∧ Below w.heap.size w w' := by
  have hl := vb_len7 n h
  have h' : (n : Int) ≤ 562949953421311 := by omega
  go_enter Tryd.func9, Tryd.ntmps9
  go_wp2_with (at_make; refine wpList_mk0 _ rfl _ _ 22 rfl w.heap.size 5 (.int .u8 0) 1 Tryd.underlying22 infoU8 _ _ _ 7 rfl rfl rfl (by omega) (by unfold maxLen; omega) (Nat.le_refl _) ?_; intro w0 hown0 hb0)
  go_loopw [0, 3] (fun c v wr => ∃ (k : Nat) (ns : List Int), k ≤ 562949953421311 ∧ c = .int .i64 k ∧ wr.ownsRow w.heap.size 5 1 v ns.length (ns.map (Value.int .u8)) ∧ ns ++ vb k = vb n ∧ Below w.heap.size w wr) (fun c _ _ => (intOf c).toNat)
  case atStart => exact ⟨n, [], h, rfl, hown0, rfl, hb0⟩
  case round =>
    obtain ⟨k, ns, hk, rfl, hown, hvb, hb⟩ := hrel
    have hbs := hb.size
    have hkk : (k : Int) ≤ 562949953421311 := by omega
    by_cases hlt : k < 128
    · have hv := vb_small k hlt
      have hlen : ns.length + 1 ≤ 7 := by rw [← hvb, hv, List.length_append] at hl; simpa using hl
      have HV := Lib.hid hvb
      have HV2 := Lib.hid hv
      have HB := Lib.hid hb
      clear hvb hv hl hb h hk
      go_wp2_with (at_builtin; refine wpList_push _ rfl _ _ 22 rfl w.heap.size 5 (.int .u8 0) 1 Tryd.underlying22 infoU8 rfl _ _ _ rfl hown _ (by rfl) _ rfl (by omega) (by unfold maxLen; omega) (by omega) ?_; intro v1 w1 hown1 hb1; have hst := own_string (P := Tryd.prog) (dst := 9) (ns := ns ++ [(k : Int)]) Tryd.underlying22 Tryd.underlying5 Tryd.underlying9 (by simpa using hown1))
      go_ret
      exact ⟨ret_str (by rw [← HV.out, HV2.out]), HB.out.trans hb1⟩
    · have hv := vb_big k hlt
      have hlen : ns.length + 1 ≤ 7 := by rw [← hvb, hv, List.length_append, List.length_cons] at hl; omega
      have HV := Lib.hid hvb
      have HV2 := Lib.hid hv
      have HB := Lib.hid hb
      clear hvb hv hl hb h hk
      go_wp2_with (at_builtin; refine wpList_push _ rfl _ _ 22 rfl w.heap.size 5 (.int .u8 0) 1 Tryd.underlying22 infoU8 rfl _ _ _ rfl hown _ (by rfl) _ rfl (by omega) (by unfold maxLen; omega) (by omega) ?_; intro v1 w1 hown1 hb1)
      go_roundw
      case rel =>
        refine ⟨k / 128, ns ++ [128 + (k : Int) % 128], by omega, by go_num, ?_, ?_, HB.out.trans hb1⟩
        · rw [or_top k] at hown1
          simpa using hown1
        · rw [List.append_assoc, ← HV.out, HV2.out]; rfl
      case measure => simp [intOf]; omega
end Go.Proofs.YtooklpeiaedokaaDoor
