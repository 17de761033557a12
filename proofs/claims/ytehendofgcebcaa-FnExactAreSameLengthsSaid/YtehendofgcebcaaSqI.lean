/- What the program's SquareLengths answers: the same as the specification's. No condition. -/
import Derived.Test.YtehendofgcebcaaPushI
import Derived.Test.YtehendofgcebcaaIsFI
namespace Go.Proofs.Ytehendofgcebcaa
open Go.RowKit

set_option maxHeartbeats 4000000 in
set_option maxRecDepth 100000 in
theorem implSq (p : Int) (l m : List (Int × Int)) (A : Option Addr) (ca : Nat) (B : Option Addr) (cb : Nat) (lo hi : Nat) (w : World) (hl : FwIn w lo hi A l B m) (hn : l.length + m.length ≤ 1048576) :
    Calls Try.prog 49 #[.agg #[.int .i64 p, .slice A l.length ca, .slice B m.length cb]] w (IntsO w (sqL p l m)) := by
  have hhi := hl.b.1
  have HC := Lib.hid fun (W : World) (h : FwIn W lo hi A l B m) => implIsF p l m A ca B cb lo hi W h hn
  have hf := FbI.new (p := p) (ca := ca) (cb := cb) hl 63
  have HF := Lib.hid hf
  clear hl hf
  go_enter Try.func49, Try.ntmps49
  go_wp2_with fail
  generalize (w.alloc (.cells #[.int .i64 p, .slice A l.length ca, .slice B m.length cb] 63)) = w1 at *
  by_cases hg : isFB p l m = true
  · rw [hg] at HC
    have HS := Lib.hid (sqL_yes hg)
    have HI := Lib.hid (isFB_iff.1 hg)
    have h15 := HI.out.bars
    clear hg
    refine (HC.out _ HF.out.f).mono ?_
    rintro e w2 ⟨rfl, hb⟩
    have HF2 := Lib.hid (HF.out.below hb)
    obtain ⟨_, x0, x1, x2⟩ := HF2.out.x
    clear hb HF HC
    go_wp2_with fail
    clear x0 x1 x2
    have HO := Lib.hid (show w2.ownsRow (w.heap.size + 1) 3 1 (.slice none 0 0) 0 (intCells ([] : List Int)) from ⟨rfl, .inl ⟨rfl, rfl⟩⟩)
    go_loopw [3, 13] (fun o i wr => ∃ k : Nat, k ≤ l.length ∧ i = .int .i64 k ∧ ∃ Ao co, o = .slice Ao ((l.take k).map (sqB m)).length co ∧ wr.ownsRow (w.heap.size + 1) 3 1 (.slice Ao ((l.take k).map (sqB m)).length co) ((l.take k).map (sqB m)).length (intCells ((l.take k).map (sqB m))) ∧ FbI w wr lo hi p A ca l B cb m) (fun _ i _ => l.length - (intOf i).toNat)
    case atStart => exact ⟨0, by omega, rfl, none, 0, rfl, HO.out, HF2.out⟩
    case round =>
      clear HF2 HO
      obtain ⟨k, hk, rfl, Ao, co, rfl, hown, hf⟩ := hrel
      have HF := Lib.hid hf
      have HO := Lib.hid hown
      clear hf hown
      obtain ⟨zs, hz⟩ : ∃ zs, (l.take k).map (sqB m) = zs := ⟨_, rfl⟩
      have hzl : zs.length ≤ 15 := by rw [← hz]; simp; omega
      rw [hz] at HO ⊢
      have HZ := Lib.hid hz
      clear hz
      by_cases hlt : k < l.length
      · have hki : (k : Int) < (l.length : Int) := by omega
        obtain ⟨ba, oa, rfl, hba, hca⟩ := HF.out.bar hlt
        obtain ⟨e1, e2, e3⟩ := HI.out.ends hlt
        obtain ⟨hb1, hb2⟩ := hca k hlt
        have hlen := HI.out.len
        have hon1 := HI.out.on e1 (by omega)
        have hon2 := HI.out.on (v := (l.getD k (0, 0)).2) (by omega) e3
        have hnx := sq_succ m l k hlt
        rw [HZ.out] at hnx
        unfold sqB plc at hnx
        unfold plc at hon1 hon2
        obtain ⟨x, hx⟩ : ∃ x, l.getD k (0, 0) = x := ⟨_, rfl⟩
        rw [hx] at hb1 hb2 e1 e2 e3 hon1 hon2 hnx
        clear hx hca
        obtain ⟨xa, xb⟩ := x
        obtain ⟨a, rfl⟩ : ∃ a : Nat, xa = a := ⟨xa.toNat, by simp only at e1; omega⟩
        obtain ⟨b, rfl⟩ : ∃ b : Nat, xb = b := ⟨xb.toNat, by simp only at e1 e2; omega⟩
        simp only [Int.toNat_natCast] at e1 e2 e3 hb1 hb2 hon1 hon2 hnx
        have ha : a < m.length := by omega
        have hb' : b < m.length := by omega
        have HOF := Lib.hid fun (W : World) (h : FwIn W lo hi (some ⟨ba, oa, none⟩) l B m) => offOf_c p l m (some ⟨ba, oa, none⟩) ca B cb lo hi a b W h ha hb' hon1 hon2
        obtain ⟨P, hP⟩ : ∃ P, m.getD a (0, 0) = P := ⟨_, rfl⟩
        obtain ⟨Q, hQ⟩ : ∃ Q, m.getD b (0, 0) = Q := ⟨_, rfl⟩
        rw [hP] at hon1 hnx HOF
        rw [hQ] at hon2 hnx HOF
        have HNX := Lib.hid hnx
        clear hP hQ e1 e2 e3 hnx hlen ha hb'
        obtain ⟨P1, P2⟩ := P
        obtain ⟨Q1, Q2⟩ := Q
        obtain ⟨⟨o1, o2⟩, o3, o4⟩ := hon1
        obtain ⟨⟨n1, n2⟩, n3, n4⟩ := hon2
        simp only at o1 o2 o3 o4 n1 n2 n3 n4
        have HSQ := Lib.hid fun (W : World) => square_c (P1 - Q1) (P2 - Q2) W (by omega) (by omega) (by omega) (by omega)
        obtain ⟨s0, s1⟩ := sq_le (P1 - Q1) (by omega) (by omega)
        obtain ⟨s2, s3⟩ := sq_le (P2 - Q2) (by omega) (by omega)
        obtain ⟨_, x0, x1, x2⟩ := HF.out.x
        have hsz : w.heap.size < wr.heap.size := HF.out.x.1
        go_wp2_with fail
        clear x0 x1 x2 hb1 hb2
        have hal := new_below wr (.cells #[.int .i64 (a : Int), .int .i64 (b : Int)] 108)
        have HF1 := Lib.hid (HF.out.below hal)
        have HO1 := Lib.hid (own_below HO.out hal)
        clear hal HF HO
        generalize (wr.alloc (.cells #[.int .i64 (a : Int), .int .i64 (b : Int)] 108)) = w4 at *
        refine (HOF.out _ HF1.out.f).mono ?_
        rintro e w5 ⟨rfl, hb⟩
        have HF5 := Lib.hid (HF1.out.below hb)
        have HO5 := Lib.hid (own_below HO1.out hb)
        clear hb HF1 HO1
        go_wp2_with fail
        refine (HSQ.out _).mono ?_
        rintro e w6 ⟨rfl, hb⟩
        have HF6 := Lib.hid (HF5.out.below hb)
        have HO6 := Lib.hid (own_below HO5.out hb)
        have hsz6 := HF6.out.x.1
        clear hb HF5 HO5
        go_wp2_with (at_builtin; refine wpList_int w6 rfl _ _ rfl (w.heap.size + 1) Ao co zs ((P1 - Q1) * (P1 - Q1) + (P2 - Q2) * (P2 - Q2)) rfl HO6.out _ rfl (by omega) (by omega) ?_; intro A' c' w7 ho' hw'; have HO7 := Lib.hid ho'; have HF7 := Lib.hid (HF6.out.on hw' (Nat.le_refl _) hhi); clear ho' hw')
        have HN : List.map (sqB m) (List.take (k + 1) l) = zs ++ [(P1 - Q1) * (P1 - Q1) + (P2 - Q2) * (P2 - Q2)] := HNX.out
        go_roundw
        case rel => exact ⟨k + 1, by omega, by go_num, A', c', by rw [HN, List.length_append]; rfl, by rw [HN]; exact HO7.out, HF7.out⟩
        case measure => simp [intOf]; omega
      · obtain rfl : k = l.length := by omega
        have hzz := HZ.out
        rw [List.take_length] at hzz
        have hsz : w.heap.size ≤ w.heap.size + 1 := by omega
        go_wp2_with fail
        go_ret
        refine ⟨Ao, co, ?_, ?_, HF.out.b⟩
        · rw [HS.out, hzz]; rfl
        · rw [HS.out, hzz]
          exact (own_ints' HO.out).widen hsz (Nat.le_refl _) (Nat.le_refl _)
  · have hgf : isFB p l m = false := by simpa using hg
    rw [hgf] at HC
    have HS := Lib.hid (sqL_no hgf)
    clear hg hgf
    refine (HC.out _ HF.out.f).mono ?_
    rintro e w2 ⟨rfl, hb⟩
    have HF2 := Lib.hid (HF.out.below hb)
    clear hb
    go_wp2_with fail
    go_ret
    exact ⟨none, 0, by rw [HS.out]; rfl, by rw [HS.out]; exact ⟨Nat.le_refl _, .inl rfl⟩, HF2.out.b⟩
end Go.Proofs.Ytehendofgcebcaa
