/- Several texts in one, in the order in which they build on each other: what stands on the way to the laws; each names its own matter. No condition. -/
import Derived.Test.YtdkpmaahinbhlaaFm2
import Derived.StillTailTactics
import Derived.Deep.QuietTactic
import Derived.BigQuiet
import Derived.ProofKit
import Derived.Lib.SmallJoins
import Derived.Deep.SlicePairs
import Derived.Deep.RegionHeld3
import Derived.Laws.CopyOwn
/- What spec.l9Reduced answers: the rows that the program's reduction has, in lowest terms, and the same columns. No condition. -/
namespace Go.Proofs.Ytdkpmaahinbhlaa
open Go.RowKit

def pvI (s : Red) : List Int := s.pv.map fun (x : Nat) => (x : Int)
theorem pvI_len (s : Red) : (pvI s).length = s.pv.length := List.length_map ..
/-- The first k rows in lowest terms. -/
def prK (m : List (List Int)) (k : Nat) : List (List Int) := (List.range k).map fun i => primV (m.getD i [])
theorem prK_succ (m : List (List Int)) (k : Nat) : prK m (k + 1) = prK m k ++ [primV (m.getD k [])] := by unfold prK; rw [List.range_succ, List.map_append]; rfl
theorem prK_len (m : List (List Int)) (k : Nat) : (prK m k).length = k := by unfold prK; rw [List.length_map, List.length_range]
theorem prK_get {m : List (List Int)} {k i : Nat} (h : i < k) : (prK m k).getD i [] = primV (m.getD i []) := by simp [prK, List.getD, h]
theorem MatQ.row_sm {m : List (List Int)} (h : MatQ m) {i : Nat} (hi : i < m.length) : Sm (m.getD i []) (widM m) :=
  ⟨(h.row i hi).1, fun j hj => by have := (h.row i hi).2 j hj; omega⟩
theorem MatQ.row_f {m : List (List Int)} (h : MatQ m) {i : Nat} (hi : i < m.length) : rowF (widM m) (atM m i) = m.getD i [] := by
  have := rowF_of (m.getD i [])
  rw [(h.row i hi).1] at this
  exact this
theorem rsIn_below {W W' : World} {lo hi : Nat} {A : Option Addr} {rs : List (List Int)} (h : RowsIn W lo hi A rs) (hb : Below W.heap.size W W') : RowsIn W' lo hi A rs := h.within (within_of hb) (.inr (Nat.zero_le _))
/-- The rows of the reduction, in lowest terms. -/
def prR (n : Nat) (s : Red) (i : Nat) : List Int := primV (rowF n (s.R i))

set_option maxHeartbeats 8000000 in
set_option maxRecDepth 100000 in
theorem rdc_c (m : List (List Int)) (hM : MatQ m) (A : Option Addr) (cap lo hi : Nat) (w : World) (hl : RowsIn w lo hi A m) :
    Calls Try.prog 152 #[.slice A m.length cap] w fun e w' => ∃ gh c1 S Ac cc clo chi, e = .returned (.tuple #[.slice (some ⟨gh, 0, none⟩) m.length c1, .slice Ac (pvI (Red.run m.length (atM m) (widM m))).length cc]) ∧
      RedW w' w.heap.size gh c1 m.length (widM m) S (prR (widM m) (Red.run m.length (atM m) (widM m))) Ac cc clo chi (pvI (Red.run m.length (atM m) (widM m))) ∧ Below w.heap.size w w' := by
  have HL := Lib.hid hl
  obtain ⟨b, off, S0, rfl, hbw, hc⟩ := rows_fn hl hM.h0
  have HC := Lib.hid hc
  have h0 := hM.h0
  have h9 := hM.h9
  have h12 := hM.w12
  have HM := Lib.hid hM
  have HRED := Lib.hid (fun (c : Nat) (h : c ≤ widM m) => hM.red h)
  have HLIM := Lib.hid (fun (c : Nat) (h : c ≤ widM m) => hM.limS h)
  have HROW := Lib.hid hM.row
  clear hc hl hM
  obtain ⟨n, hn⟩ : ∃ n, widM m = n := ⟨_, rfl⟩
  have HN := Lib.hid hn
  rw [hn] at h12 HRED HLIM ⊢
  obtain ⟨M, hMM⟩ : ∃ M, m.length = M := ⟨_, rfl⟩
  have HMM := Lib.hid hMM
  rw [hMM] at h0 h9 HRED HLIM ⊢
  clear hn hMM
  have HAL := Lib.hid (new_below w (.cells #[] 29))
  have HG0 := Lib.hid (RowsG.made w)
  have HSZ := Lib.hid (show (w.alloc (.cells #[] 29)).heap.size = w.heap.size + 1 by simp)
  go_enter Try.func152, Try.ntmps152
  go_wp2_with fail
  generalize w.alloc (.cells #[] 29) = wA at *
  go_loopw [4, 5] (fun o i w' => ∃ (k T lo2 hi2 : Nat) (A' : Option Addr) (c' : Nat), k ≤ M ∧ i = .int .i64 k ∧ o = .slice A' k c' ∧ RowsG w' w.heap.size T lo2 hi2 A' c' (prK m k) ∧ Below w.heap.size w w') (fun _ i _ => M - (intOf i).toNat)
  case atStart => exact ⟨0, _, _, _, _, _, Nat.zero_le _, rfl, rfl, HG0.out, HAL.out⟩
  case round =>
    obtain ⟨k, T, lo2, hi2, A2, c2, hk, rfl, rfl, hrg, hb⟩ := hrel
    have HRG := Lib.hid hrg
    have HB := Lib.hid hb
    clear hrg hb
    by_cases hlt : k < M
    · have hki : (k : Int) < (M : Int) := by omega
      have hltm : k < m.length := by rw [HMM.out]; exact hlt
      have c1 := rows_cell hbw HC.out HB.out hltm
      have hrs := HM.out.row_sm hltm
      have hint := (HC.out k hltm).2.within (within_of HB.out) (.inr (Nat.zero_le _))
      obtain ⟨⟨A', c'⟩, hSk⟩ : ∃ s, S0 k = s := ⟨_, rfl⟩
      rw [hSk] at c1 hint
      dsimp only at c1 hint
      have hpv := pV_sm hrs
      have hrl := hrs.1
      rw [HN.out] at hrl
      have HSTEP := Lib.hid (prK_succ m k)
      obtain ⟨row, hrow⟩ : ∃ row, m.getD k [] = row := ⟨_, rfl⟩
      rw [hrow] at c1 hint hpv hrl HSTEP
      have HCL := Lib.hid (clean_c row A' c' lo hi wr hint (by omega))
      rw [hpv] at HCL
      have HPL := Lib.hid (primV_len row)
      have HRL := Lib.hid hrl
      clear hint hpv hrow hrs hSk hrl
      obtain ⟨xs, hxs⟩ : ∃ xs, primV row = xs := ⟨_, rfl⟩
      rw [hxs] at HCL HSTEP HPL
      clear hxs
      go_wp2_with fail
      refine HCL.out.mono ?_
      rintro e w3 ⟨Ar, cr, rfl, ho3, hb3⟩
      have HO3 := Lib.hid ho3
      have HB3 := Lib.hid (below_on HB.out hb3 HB.out.size)
      have HRG5 := Lib.hid (HRG.out.below hb3)
      have HTOP := Lib.hid (show T ≤ wr.heap.size from HRG.out.top)
      have hs3 := hb3.size
      clear ho3 hb3
      obtain ⟨zs, r, S', z1, z2, z3, z4⟩ := HRG5.out.rows
      rw [prK_len] at z1
      have HZ1 := Lib.hid z1
      have HZ2 := Lib.hid z2
      have HZ3 := Lib.hid (show RowsP _ w.heap.size T lo2 hi2 zs (prK m k) from ⟨r, S', z3, z4⟩)
      have HLO := Lib.hid (show lo2 ≤ _ from Nat.le_trans HRG5.out.out.2.1 HRG5.out.top)
      have HOB := Lib.hid (HRG5.out.out.1)
      clear z1 z2 z3 z4
      go_wp2_with (at_builtin; refine wpList_pushS _ rfl _ _ rfl lo2 hi2 A2 c2 zs (.slice Ar xs.length cr) rfl (by rw [HZ1.out]; rfl) HZ2.out _ rfl (by have := HZ1.out; omega) HLO.out ?_; intro A7 c7 w7 lo7 hi7 ho7 hd7 hw7; have HO7 := Lib.hid ho7; have HD7 := Lib.hid hd7; have HW7 := Lib.hid hw7; clear ho7 hd7 hw7)
      have HRG7 := Lib.hid (HRG5.out.push (q := (wr.heap.size, w3.heap.size)) HO3.out HTOP.out (HZ1.out.trans (prK_len _ _).symm) HZ3.out HO7.out HD7.out HW7.out)
      go_roundw
      case rel => exact ⟨k + 1, _, _, _, _, _, by omega, by go_num, by rw [HZ1.out], by rw [HSTEP.out]; exact HRG7.out, within_on HB3.out HW7.out HB3.out.size (.inl HOB.out)⟩
      case measure => simp [intOf]; omega
    · obtain rfl : k = M := by omega
      obtain ⟨gh, S, hA2, hred⟩ := HRG.out.red (n := n) (by rw [prK_len]; exact h0) (fun i hi => by
        rw [prK_len] at hi
        rw [prK_get hi, primV_len, (HROW.out i (by rw [HMM.out]; exact hi)).1, HN.out])
      subst hA2
      have HAL2 := Lib.hid (new_below wr (.cells #[] 3))
      have HOE := Lib.hid (ownR_empty wr)
      have HSZ2 := Lib.hid (show (wr.alloc (.cells #[] 3)).heap.size = wr.heap.size + 1 by simp)
      have HBA := Lib.hid (below_on HB.out HAL2.out HB.out.size)
      have HPR := Lib.hid (show ∀ i, i < k → (prK m k).getD i [] = prR n (Red.run k (atM m) 0) i from fun i hi => by
        rw [prK_get hi]
        have hi' : i < m.length := by rw [HMM.out]; exact hi
        have := HM.out.row_f hi'
        rw [HN.out] at this
        unfold prR
        rw [← this]; rfl)
      have HR0 := Lib.hid (hred _ HAL2.out _ _ _ _ [] HOE.out (Nat.le_refl _) (by rw [HSZ2.out]; omega))
      rw [prK_len] at HR0
      clear hred
      have HRS := Lib.hid (HR0.out.congr HPR.out)
      go_wp2_with fail
      generalize wr.alloc (.cells #[] 3) = wB at *
      go_loopw [6, 7] (fun o i w' => ∃ (j : Nat) (S : Nat → Option Addr × Nat) (Ac : Option Addr) (cc clo chi : Nat), j ≤ n ∧ i = .int .i64 j ∧ o = .slice Ac (pvI (Red.run k (atM m) j)).length cc ∧ RedW w' w.heap.size gh c2 k n S (prR n (Red.run k (atM m) j)) Ac cc clo chi (pvI (Red.run k (atM m) j)) ∧ Below w.heap.size w w') (fun _ i _ => n - (intOf i).toNat)
      case atStart => exact ⟨0, S, _, _, _, _, by omega, rfl, rfl, HRS.out, HBA.out⟩
      case round =>
        clear HRS HR0 HPR HBA HSZ2 HOE HAL2
        obtain ⟨j, S, Ac, cc, clo, chi, hj, rfl, rfl, hr, hb⟩ := hrel
        have HR := Lib.hid hr
        have HBJ := Lib.hid hb
        clear hr hb
        have hk0 : (0 : Int) < (k : Int) := by omega
        have c0 := HR.out.head (i := 0) h0
        obtain ⟨⟨A0, z0⟩, hS0⟩ : ∃ s, S 0 = s := ⟨_, rfl⟩
        rw [hS0] at c0
        dsimp only at c0
        clear hS0
        by_cases hjn : j < n
        · have hji : (j : Int) < (n : Int) := by omega
          have HS := Lib.hid (HRED.out j (by omega))
          have HLS := Lib.hid (HLIM.out j (by omega))
          have HNX := Lib.hid (show Red.run k (atM m) (j + 1) = (Red.run k (atM m) j).take k j from rfl)
          obtain ⟨s, hs⟩ : ∃ s, Red.run k (atM m) j = s := ⟨_, rfl⟩
          rw [hs] at HR HS HLS HNX ⊢
          clear hs
          have HPVL := Lib.hid (pvI_len s)
          have hle : (pvI s).length ≤ k := by rw [pvI_len]; exact HS.out.bar.le
          obtain ⟨cs, hcs⟩ : ∃ cs, pvI s = cs := ⟨_, rfl⟩
          rw [hcs] at HR HPVL hle ⊢
          have HCS := Lib.hid hcs
          clear hcs
          obtain ⟨wq, hwq⟩ : ∃ x, x = wr := ⟨_, rfl⟩
          rw [← hwq] at HR HBJ c0 ⊢
          clear hwq
          go_wp2_with fail
          clear c0
          go_loopw [8] (fun a wr2 => wq = wr2 ∧ ∃ t : Nat, a = .int .i64 t ∧ cs.length ≤ t ∧ t ≤ k ∧ ∀ i, cs.length ≤ i → i < t → (prR n s i).getD j 0 = 0) (fun a _ => k - (intOf a).toNat)
          case atStart => exact ⟨rfl, cs.length, rfl, Nat.le_refl _, hle, fun i h1 h2 => absurd h2 (Nat.not_lt.2 h1)⟩
          case round =>
            obtain ⟨rfl, t, rfl, ht1, ht2, hz⟩ := hrel
            have HZ := Lib.hid hz
            clear hz
            by_cases htk : t < k
            · have hti : (t : Int) < (k : Int) := by omega
              have c1 := HR.out.head htk
              obtain ⟨bi, oi, e1, c2'⟩ := HR.out.num htk hjn
              rw [e1] at c1
              have HE1 := Lib.hid e1
              obtain ⟨x, hx⟩ : ∃ x, (prR n s t).getD j 0 = x := ⟨_, rfl⟩
              rw [hx] at c2'
              have HX := Lib.hid hx
              clear hx e1
              by_cases hx0 : x = 0
              · have hx0' : (x == 0) = true := by simp [hx0]
                have HX0 := Lib.hid hx0
                clear hx0
                go_wp2_with fail
                go_roundw
                case rel => exact ⟨by simp, t + 1, by go_num, by omega, by omega, fun i h1 h2 => by
                  by_cases e : i = t
                  · subst e; rw [HX.out]; exact HX0.out
                  · exact HZ.out i h1 (by omega)⟩
                case measure => simp [intOf]; omega
              · have hx0' : (x == 0) = false := by simpa using hx0
                have hne : ((t : Int) == (k : Int)) = false := by simp; omega
                have HX0 := Lib.hid hx0
                have HFI := Lib.hid (show s.first k j = t from fstI_uniq (by rw [← HPVL.out]; exact ht1) (by omega) (fun _ => by
                  have : s.R t j ≠ 0 := fun h => hx0 (by rw [← HX.out]; exact (prim_zero hjn _).2 h)
                  simpa using this) (fun i h1 h2 => by
                  have := (prim_zero hjn _).1 (HZ.out i (by rw [HPVL.out]; exact h1) h2)
                  simpa using this))
                have hltk : cs.length < k := by omega
                have hcki : (cs.length : Int) < (k : Int) := by omega
                have ck := HR.out.head hltk
                obtain ⟨⟨AK, cK⟩, hSK⟩ : ∃ s, S cs.length = s := ⟨_, rfl⟩
                rw [hSK] at ck
                dsimp only at ck
                obtain ⟨cf, hcf⟩ : ∃ c, (S t).2 = c := ⟨_, rfl⟩
                rw [hcf] at c1
                have HSf := Lib.hid (show S t = (some ⟨bi, oi, none⟩, cf) from Prod.ext HE1.out hcf)
                have HSK := Lib.hid hSK
                have fz1 := World.ownsRow.frozenAt HR.out.own t
                have hrK := (HR.out.row cs.length hltk).2
                have hrf := (HR.out.row t htk).2
                rw [hSK] at hrK
                rw [HSf.out] at hrf
                dsimp only at hrK hrf
                have hp1 := HR.out.put htk (A' := AK) (c' := cK) (HR.out.row cs.length hltk).1 hrK
                have HW1 := Lib.hid hp1.2
                have HR1 := Lib.hid hp1.1
                have hck1 := HR1.out.head hltk
                have hupk : updA S t (AK, cK) cs.length = (AK, cK) := by
                  unfold updA
                  by_cases e : cs.length = t
                  · rw [if_pos e]
                  · rw [if_neg e, hSK]
                rw [hupk] at hck1
                dsimp only at hck1
                have fz2 := World.ownsRow.frozenAt HR1.out.own cs.length
                have hlg := HR.out.lt
                have hp2 := HR1.out.put hltk (Z := prR n s t) (A' := some ⟨bi, oi, none⟩) (c' := cf) (HR.out.row t htk).1 (by
                  obtain ⟨r, r1, r2, r3, r4⟩ := hrf
                  exact ⟨r, r1.within HW1.out (by omega), r2, r3, r4⟩)
                have HW2 := Lib.hid hp2.2
                have HR2 := Lib.hid hp2.1
                have HBW := Lib.hid (within_on (within_on HBJ.out HW1.out HBJ.out.size (.inl hlg.1)) HW2.out (Nat.le_trans HBJ.out.size HW1.out.size) (.inl hlg.1))
                clear hp1 hp2 hrK hrf hcf hSK hupk
                go_wp2_with fail
                clear c1 c2' ck hck1 fz1 fz2
                have HKL := Lib.hid (show s.pv.length = cs.length from HPVL.out.symm)
                have HQ := Lib.hid (show ∀ i, i < k → updA (updA (prR n s) t (prR n s cs.length)) cs.length (prR n s t) i = primV (rowF n (barSwap s.R cs.length t i)) from fun i _ => by
                  unfold updA barSwap prR
                  by_cases e : i = cs.length
                  · rw [if_pos e, if_pos e]
                  · rw [if_neg e, if_neg e]
                    by_cases e2 : i = t
                    · rw [if_pos e2, if_pos e2]
                    · rw [if_neg e2, if_neg e2])
                have HSR := Lib.hid (fun (i : Nat) (hi : i < k) => HS.out.spec_row hjn (show s.first k j < k by rw [HFI.out]; exact htk) hi)
                have HFZ := Lib.hid (HS.out.first_nz (show s.first k j < k by rw [HFI.out]; exact htk))
                rw [HFI.out, HKL.out] at HSR HFZ
                have HTP := Lib.hid (Red.take_pv (show s.first k j < k by rw [HFI.out]; exact htk))
                have HPSM := Lib.hid (fun (i : Nat) (hi : i < k) => HS.out.psm HLS.out hi)
                obtain ⟨w2, hw2⟩ : ∃ x, x = (wq.setCell ⟨gh, t, none⟩ (.slice AK n cK)).setCell ⟨gh, cs.length, none⟩ (.slice (some ⟨bi, oi, none⟩) n cf) := ⟨_, rfl⟩
                rw [← hw2] at HR2 HBW ⊢
                clear hw2 HW2 HR1 HW1
                go_loopw [10] (fun i wr3 => ∃ (u : Nat) (S4 : Nat → Option Addr × Nat), u ≤ k ∧ i = .int .i64 u ∧ RedW wr3 w.heap.size gh c2 k n S4 (fun i => if i < u then prR n (s.take k j) i else primV (rowF n (barSwap s.R cs.length t i))) Ac cc clo chi cs ∧ S4 cs.length = (some ⟨bi, oi, none⟩, cf) ∧ Below w.heap.size w wr3) (fun i _ => k - (intOf i).toNat)
                case atStart => exact ⟨0, _, by omega, rfl, HR2.out.congr fun i hi => by rw [HQ.out i hi, if_neg (by omega)], by unfold updA; rw [if_pos rfl], HBW.out⟩
                case round =>
                  obtain ⟨u, S4, hu, rfl, hr4, hs4, hb4⟩ := hrel
                  have HR4 := Lib.hid hr4
                  have HS4 := Lib.hid hs4
                  have HB4 := Lib.hid hb4
                  clear hr4 hs4 hb4
                  by_cases huk : u < k
                  · have hui : (u : Int) < (k : Int) := by omega
                    have HN4 := Lib.hid (fun (h : (if u < u then prR n (s.take k j) u else primV (rowF n (barSwap s.R cs.length t u))) = prR n (s.take k j) u) => (HR4.out.congr (P' := fun i => if i < u + 1 then prR n (s.take k j) i else primV (rowF n (barSwap s.R cs.length t i))) fun i hi => by
                      by_cases e : i = u
                      · subst e
                        rw [h, if_pos (by omega)]
                      · by_cases e2 : i < u
                        · rw [if_pos e2, if_pos (by omega)]
                        · rw [if_neg e2, if_neg (by omega)]))
                    have HUU := Lib.hid (show (if u < u then prR n (s.take k j) u else primV (rowF n (barSwap s.R cs.length t u))) = primV (rowF n (barSwap s.R cs.length t u)) from if_neg (by omega))
                    by_cases hu2 : u = cs.length
                    · have hne : ((u : Int) != (cs.length : Int)) = false := by simp [hu2]
                      have HQ5 := Lib.hid (HN4.out (by
                        rw [HUU.out]
                        have := HSR.out u huk
                        rw [if_pos hu2] at this
                        unfold prR
                        rw [this]
                        unfold barSwap
                        rw [if_pos hu2]))
                      clear hu2
                      go_wp2_with fail
                      go_roundw
                      case rel => exact ⟨u + 1, S4, by omega, by go_num, HQ5.out, HS4.out, HB4.out⟩
                      case measure => simp [intOf]; omega
                    · have hne : ((u : Int) != (cs.length : Int)) = true := by simp; omega
                      have HU2 := Lib.hid hu2
                      have cu := HR4.out.head huk
                      obtain ⟨b4, o4, e4, cn⟩ := HR4.out.num huk hjn
                      obtain ⟨cu4, hcu4⟩ : ∃ c, (S4 u).2 = c := ⟨_, rfl⟩
                      rw [e4, hcu4] at cu
                      try dsimp only at cn
                      rw [HUU.out] at cn
                      have HSU := Lib.hid (show S4 u = (some ⟨b4, o4, none⟩, cu4) from Prod.ext e4 hcu4)
                      obtain ⟨x4, hx4⟩ : ∃ x, (primV (rowF n (barSwap s.R cs.length t u))).getD j 0 = x := ⟨_, rfl⟩
                      rw [hx4] at cn
                      have HSR5 := HSR.out u huk
                      rw [if_neg hu2, hx4] at HSR5
                      have HX4 := Lib.hid hx4
                      clear hx4 e4 hcu4 hu2
                      by_cases hx0' : x4 = 0
                      · have hxb : (x4 != 0) = false := by simp [hx0']
                        have HQ5 := Lib.hid (HN4.out (by
                          rw [HUU.out]
                          rw [if_pos hx0'] at HSR5
                          exact HSR5.symm))
                        clear HSR5 hx0'
                        go_wp2_with fail
                        go_roundw
                        case rel => exact ⟨u + 1, S4, by omega, by go_num, HQ5.out, HS4.out, HB4.out⟩
                        case measure => simp [intOf]; omega
                      · have hxb : (x4 != 0) = true := by simpa using hx0'
                        rw [if_neg hx0'] at HSR5
                        have HSRX := Lib.hid HSR5
                        have hrow4 := HR4.out.row u huk
                        try dsimp only at hrow4
                        rw [HUU.out, HSU.out] at hrow4
                        obtain ⟨_, r4, hI4, _⟩ := hrow4
                        have hrowK := HR4.out.row cs.length hltk
                        have hKK : (if cs.length < u then prR n (s.take k j) cs.length else primV (rowF n (barSwap s.R cs.length t cs.length))) = primV (rowF n (s.R t)) := by
                          have := HSR.out cs.length hltk
                          rw [if_pos rfl] at this
                          by_cases e : cs.length < u
                          · rw [if_pos e]; exact this
                          · rw [if_neg e]; unfold barSwap; rw [if_pos rfl]
                        try dsimp only at hrowK
                        rw [hKK, HS4.out] at hrowK
                        obtain ⟨_, rK, hIK, _⟩ := hrowK
                        have hsmu : Sm (primV (rowF n (barSwap s.R cs.length t u))) n := by
                          unfold barSwap
                          split
                          · exact HPSM.out t htk
                          · split
                            · exact HPSM.out cs.length hltk
                            · exact HPSM.out u huk
                        have HWC := Lib.hid (wout_c (primV (rowF n (barSwap s.R cs.length t u))) (primV (rowF n (s.R t))) j n (some ⟨b4, o4, none⟩) (some ⟨bi, oi, none⟩) cu4 cf _ _ _ _ wr hI4 hIK hsmu (HPSM.out t htk) hjn h12 (fun h => HFZ.out.1 ((prim_zero hjn _).1 h)))
                        rw [← HSRX.out] at HWC
                        clear hx0' HSR5 hI4 hIK hsmu hKK
                        go_wp2_with fail
                        refine HWC.out.mono ?_
                        rintro e w5 ⟨A5, c5, rfl, ho5, hb5⟩
                        have HR5 := Lib.hid (HR4.out.below hb5)
                        have cu5 := HR5.out.head huk
                        rw [HSU.out] at cu5
                        try dsimp only at cu5
                        have fz5 := World.ownsRow.frozenAt HR5.out.own u
                        have hs5 := hb5.size
                        have hlt4 := HR4.out.lt
                        have hcol4 := HR4.out.col.1
                        have hbs4 := HB4.out.size
                        have hlen5 : (primV (rowF n ((s.take k j).R u))).length = n := by rw [primV_len, rowF_len]
                        have hp5 := HR5.out.put huk (A' := A5) (c' := c5) hlen5 ⟨(wr.heap.size, w5.heap.size), ho5.reads, hbs4, .inl hlt4.2, .inr hcol4⟩
                        have HR6 := Lib.hid (hp5.1.congr (P' := fun i => if i < u + 1 then prR n (s.take k j) i else primV (rowF n (barSwap s.R cs.length t i))) fun i hi => by
                          unfold updA
                          by_cases e : i = u
                          · subst e
                            rw [if_pos rfl, if_pos (by omega)]; rfl
                          · rw [if_neg e]
                            dsimp only
                            by_cases e2 : i < u
                            · rw [if_pos e2, if_pos (by omega)]
                            · rw [if_neg e2, if_neg (by omega)])
                        have HB6 := Lib.hid (within_on (below_on HB4.out hb5 hbs4) hp5.2 (Nat.le_trans hbs4 hs5) (.inl hlt4.1))
                        have HS6 := Lib.hid (show updA S4 u (A5, c5) cs.length = (some ⟨bi, oi, none⟩, cf) by
                          unfold updA
                          rw [if_neg (fun e => HU2.out e.symm)]; exact HS4.out)
                        clear hp5 ho5 hb5 cu cn hlen5
                        go_wp2_with fail
                        go_roundw
                        case rel => exact ⟨u + 1, _, by omega, by go_num, HR6.out, HS6.out, HB6.out⟩
                        case measure => simp [intOf]; omega
                  · obtain rfl : u = k := by omega
                    have HRE := Lib.hid (HR4.out.congr (P' := prR n (s.take u j)) fun i hi => if_pos hi)
                    have hcl := HRE.out.bnd
                    have hcs := HRE.out.col
                    have hcl2 : cs.length ≤ 1048576 := by omega
                    have HPE := Lib.hid (show pvI (s.take u j) = cs ++ [(j : Int)] by
                      unfold pvI
                      rw [HTP.out.1, List.map_append, ← HCS.out]; rfl)
                    have HCO := Lib.hid hcs
                    clear hcs
                    go_wp2_with (at_builtin; refine wpList_pushR _ rfl _ _ rfl clo chi Ac cc cs (j : Int) rfl HCO.out _ (by first | rfl | (simp only [World.size_setCell]; rfl)) hcl2 hcl.2 ?_; intro A6 c6 w16 lo6 hi6 hr6 hor6 hw6; have HR7 := Lib.hid (HRE.out.push hr6 hor6 hw6); have HW7 := Lib.hid hw6; clear hr6 hor6 hw6)
                    go_roundw
                    case rel => exact ⟨j + 1, S4, A6, c6, lo6, hi6, by omega, by go_num, by rw [HNX.out, HPE.out, List.length_append]; rfl, by rw [HNX.out, HPE.out]; exact HR7.out, within_on HB4.out HW7.out HB4.out.size (.inl hcl.1)⟩
                    case measure => simp [intOf]; omega
            · obtain rfl : t = k := by omega
              have hee : ((t : Int) == (t : Int)) = true := by simp
              have HFI := Lib.hid (show s.first t j = t from fstI_uniq (by rw [← HPVL.out]; exact ht1) (by have := HPVL.out; omega) (fun h => absurd h (by have := HPVL.out; omega)) (fun i h1 h2 => by
                have := (prim_zero hjn _).1 (HZ.out i (by rw [HPVL.out]; exact h1) h2)
                simpa using this))
              have HTK := Lib.hid (show s.take t j = s from Red.take_no (by rw [HFI.out]; omega))
              go_wp2_with fail
              go_roundw
              case rel => exact ⟨j + 1, S, Ac, cc, clo, chi, by omega, by go_num, by rw [HNX.out, HTK.out, HCS.out], by rw [HNX.out, HTK.out, HCS.out]; exact HR.out, HBJ.out⟩
              case measure => simp [intOf]; omega
        · obtain rfl : j = n := by omega
          go_wp2_with fail
          go_ret2
          exact ⟨gh, c2, S, Ac, cc, clo, chi, rfl, HR.out, HBJ.out⟩
end Go.Proofs.Ytdkpmaahinbhlaa
/- What NullspaceOf answers, as words on lists. No condition. -/
namespace Go.Proofs.Ytdkpmaahinbhlaa
open Go.RowKit

/-- The vectors of the free columns before k. -/
def nulK (n : Nat) (s : Red) : Nat → List (List Int)
  | 0 => []
  | k + 1 => if (k : Int) ∈ pvI s then nulK n s k else nulK n s k ++ [nullV n s k]
theorem nulK_len (n : Nat) (s : Red) : ∀ k, (nulK n s k).length ≤ k := by
  intro k
  induction k with
  | zero => exact Nat.le_refl 0
  | succ k ih =>
    unfold nulK
    split
    · omega
    · rw [List.length_append]; show _ + 1 ≤ k + 1; omega
theorem nullV_len (n : Nat) (s : Red) (k : Nat) : (nullV n s k).length = n := by unfold nullV; rw [primV_len, rowF_len]
theorem nulK_row (n : Nat) (s : Red) : ∀ k i, ((nulK n s k).getD i []).length ≤ n := by
  intro k
  induction k with
  | zero => intro i; simp [nulK]
  | succ k ih =>
    intro i
    unfold nulK
    split
    · exact ih i
    · by_cases h : i < (nulK n s k).length
      · rw [List.getD_eq_getElem?_getD, List.getElem?_append_left h, ← List.getD_eq_getElem?_getD]; exact ih i
      · by_cases h2 : i = (nulK n s k).length
        · subst h2
          rw [List.getD_eq_getElem?_getD, List.getElem?_append_right (Nat.le_refl _), Nat.sub_self]
          show (nullV n s k).length ≤ n
          rw [nullV_len]; exact Nat.le_refl _
        · rw [List.getD_eq_getElem?_getD, List.getElem?_eq_none (by rw [List.length_append]; show _ + 1 ≤ i; omega)]; simp
noncomputable def nulV (m : List (List Int)) : List (List Int) := if isMatB m = true then nulK (widM m) (Red.run m.length (atM m) (widM m)) (widM m) else []
theorem nulV_len (m : List (List Int)) : (nulV m).length ≤ 12 := by
  unfold nulV
  split
  · rename_i h
    exact Nat.le_trans (nulK_len ..) (isMatB_iff.1 h).w12
  · simp
theorem nulV_row (m : List (List Int)) (k : Nat) : ((nulV m).getD k []).length ≤ 12 := by
  unfold nulV
  split
  · rename_i h
    exact Nat.le_trans (nulK_row ..) (isMatB_iff.1 h).w12
  · simp
theorem pv_mem {s : Red} {k : Nat} : (k : Int) ∈ pvI s ↔ ∃ t, t < s.pv.length ∧ s.pv.getD t 0 = k := by
  unfold pvI
  rw [List.mem_map]
  constructor
  · rintro ⟨x, hx, e⟩
    obtain ⟨t, ht, rfl⟩ := List.getElem_of_mem hx
    refine ⟨t, ht, ?_⟩
    rw [List.getD_eq_getElem?_getD, List.getElem?_eq_getElem ht, Option.getD_some]
    exact Int.ofNat.inj e
  · rintro ⟨t, ht, e⟩
    refine ⟨s.pv[t], List.getElem_mem ht, ?_⟩
    rw [List.getD_eq_getElem?_getD, List.getElem?_eq_getElem ht, Option.getD_some] at e
    rw [e]
theorem pvI_get {s : Red} {t : Nat} (h : t < s.pv.length) : (pvI s).getD t 0 = ((s.pv.getD t 0 : Nat) : Int) := by
  unfold pvI
  rw [List.getD_eq_getElem?_getD, List.getElem?_map, List.getD_eq_getElem?_getD, List.getElem?_eq_getElem h]; rfl
theorem RedS.nullF_sm {n m c : Nat} {s : Red} (h : RedS n m s c) (hm : LimS n m s) {free : Nat} (hf : free < n) : ∀ t, t ≤ s.pv.length → ∀ j, -134217728 ≤ nullF s free t j ∧ nullF s free t j ≤ 134217728 := by
  intro t
  induction t with
  | zero =>
    intro _ j
    unfold nullF
    have := hm.dlim
    by_cases e : j = free
    · rw [if_pos e]; exact this
    · rw [if_neg e]; dsimp only; omega
  | succ t ih =>
    intro ht j
    unfold nullF
    have := hm.dlim
    by_cases e : j = free
    · rw [if_pos e]; exact this
    · rw [if_neg e]
      dsimp only
      have hle := h.bar.le
      have h2 := hm.lim (i := t) (j := free) (by omega) hf
      split
      · omega
      · exact ih (by omega) j
theorem RedS.nullF_ok {n m c : Nat} {s : Red} (h : RedS n m s c) (hm : LimS n m s) {free : Nat} (hf : free < n) : pV (rowF n (nullF s free s.pv.length)) = nullV n s free := by
  apply pV_ok
  intro j hj
  rw [rowF_len] at hj
  rw [rowF_getD hj]
  have := h.nullF_sm hm hf s.pv.length (Nat.le_refl _) j
  unfold OkG
  omega
/-- The least common multiple stays small. -/
theorem RedS.nullD_le {n m c : Nat} {s : Red} (h : RedS n m s c) (hc : c ≤ n) (hm : LimS n m s) {free : Nat} (hf : free < n) {t : Nat} (ht : t ≤ s.pv.length) : nullD n s free t ≤ 134217728 ∧ 0 < nullD n s free t := by
  have h1 := h.nullD_dvd hc hf t ht
  have h2 := hm.dlim
  have h3 := h.bar.nz
  exact ⟨Nat.le_trans (Nat.le_of_dvd (by omega) h1.1) (by omega), h1.2⟩
theorem RedS.nullQ_le {n m c : Nat} {s : Red} (h : RedS n m s c) (hc : c ≤ n) (hm : LimS n m s) {free : Nat} (hf : free < n) {t : Nat} (ht : t < s.pv.length) : nullQ n s free t ≤ 134217728 ∧ 0 < nullQ n s free t := by
  have h1 := h.nullQ_dvd hc hf ht
  have h2 := hm.dlim
  have h3 := h.bar.nz
  exact ⟨Nat.le_trans (Nat.le_of_dvd (by omega) h1.1) (by omega), h1.2⟩
theorem nullE_cell {n m c : Nat} {s : Red} (h : RedS n m s c) (hm : LimS n m s) {free d t : Nat} (hf : free < n) (hd : d ≤ 134217728) (ht : t < s.pv.length) :
    (-18014398509481984 ≤ pcell n s t free * (d : Int) ∧ pcell n s t free * (d : Int) ≤ 18014398509481984) ∧
    (-18014398509481984 ≤ -(Int.tdiv (pcell n s t free * (d : Int)) (pcell n s t (s.pv.getD t 0))) ∧ -(Int.tdiv (pcell n s t free * (d : Int)) (pcell n s t (s.pv.getD t 0))) ≤ 18014398509481984) := by
  have hle := h.bar.le
  have h1 := mul_bd (pcell_lim h hm (i := t) (j := free) (by omega) hf) (show -134217728 ≤ (d : Int) ∧ (d : Int) ≤ 134217728 by omega)
  have h1' : -18014398509481984 ≤ pcell n s t free * (d : Int) ∧ pcell n s t free * (d : Int) ≤ 18014398509481984 := h1
  refine ⟨h1', ?_⟩
  have h2 := tdiv_bd (x := pcell n s t free * (d : Int)) (d := pcell n s t (s.pv.getD t 0))
  generalize Int.tdiv (pcell n s t free * (d : Int)) (pcell n s t (s.pv.getD t 0)) = q at *
  generalize pcell n s t free * (d : Int) = x at *
  clear h1
  omega
theorem RedS.nullE_sm {n m c : Nat} {s : Red} (h : RedS n m s c) (hm : LimS n m s) {free d : Nat} (hf : free < n) (hd : d ≤ 134217728) : ∀ t, t ≤ s.pv.length → ∀ j, -18014398509481984 ≤ nullE n s free d t j ∧ nullE n s free d t j ≤ 18014398509481984 := by
  intro t
  induction t with
  | zero =>
    intro _ j
    unfold nullE
    by_cases e : j = free
    · rw [if_pos e]; omega
    · rw [if_neg e]; dsimp only; omega
  | succ t ih =>
    intro ht j
    unfold nullE
    by_cases e : j = free
    · rw [if_pos e]; omega
    · rw [if_neg e]
      dsimp only
      split
      · exact (nullE_cell h hm hf hd (by omega)).2
      · exact ih (by omega) j
theorem RedS.nullE_ok {n m c : Nat} {s : Red} (h : RedS n m s c) (hc : c ≤ n) (hm : LimS n m s) {free : Nat} (hf : free < n) : pV (rowF n (nullE n s free (nullD n s free s.pv.length) s.pv.length)) = nullV n s free := by
  rw [← h.null_eq hc hf]
  apply pV_ok
  intro j hj
  rw [rowF_len] at hj
  rw [rowF_getD hj]
  have := h.nullE_sm hm hf (h.nullD_le hc hm hf (Nat.le_refl _)).1 s.pv.length (Nat.le_refl _) j
  unfold OkG
  omega
end Go.Proofs.Ytdkpmaahinbhlaa
/- What spec.RankOfMatrix answers. No condition. -/
namespace Go.Proofs.Ytdkpmaahinbhlaa
open Go.RowKit

noncomputable def rkmV (m : List (List Int)) : Int := if isMatB m = true then ((pvI (Red.run m.length (atM m) (widM m))).length : Int) else -1
set_option maxHeartbeats 2000000 in
set_option maxRecDepth 100000 in
theorem specRkm (m : List (List Int)) (A : Option Addr) (cap lo hi : Nat) (w : World) (hl : RowsIn w lo hi A m) (hn : m.length ≤ 1048576) (hr : ∀ k, k < m.length → (m.getD k []).length ≤ 1048576) :
    Calls Try.prog 61 #[.slice A m.length cap] w fun e w' => e = .returned (.int .i64 (rkmV m)) ∧ Below w.heap.size w w' := by
  have HL := Lib.hid hl
  have HMAT := Lib.hid (specMat m A cap lo hi w hl hn hr)
  by_cases hM : MatP m
  · have HV := Lib.hid (show rkmV m = ((pvI (Red.run m.length (atM m) (widM m))).length : Int) from if_pos (isMatB_yes hM))
    rw [isMatB_yes hM] at HMAT
    have HRD := Lib.hid (fun (W : World) (h : RowsIn W lo hi A m) => rdc_c m hM.q A cap lo hi W h)
    clear hl hr hM
    go_enter Try.func61, Try.ntmps61
    go_wp2_with fail
    refine HMAT.out.mono ?_
    rintro e w1 ⟨rfl, hb⟩
    have HB := Lib.hid hb
    clear hb
    go_wp2_with fail
    refine (HRD.out _ (rsIn_below HL.out HB.out)).mono ?_
    rintro e w2 ⟨gh, c1, S, Ac, cc, clo, chi, rfl, _, hb2⟩
    have HB2 := Lib.hid (below_on HB.out hb2 HB.out.size)
    clear hb2
    go_wp2_with fail
    go_ret
    exact ⟨by rw [HV.out]; rfl, HB2.out⟩
  · have HV := Lib.hid (show rkmV m = -1 from if_neg (by rw [isMatB_no hM]; decide))
    rw [isMatB_no hM] at HMAT
    clear hl hr hM
    go_enter Try.func61, Try.ntmps61
    go_wp2_with fail
    refine HMAT.out.mono ?_
    rintro e w1 ⟨rfl, hb⟩
    have HB := Lib.hid hb
    clear hb
    go_wp2_with fail
    go_ret
    exact ⟨by rw [HV.out]; rfl, HB.out⟩
end Go.Proofs.Ytdkpmaahinbhlaa
/- The null space of a matrix, as the laws ask: as many vectors as columns without a pivot, each taken to zero, each in lowest terms; and the rank of the transposed matrix. No condition. -/
namespace Go.Proofs.Ytdkpmaahinbhlaa
open Go.RowKit

theorem MatP.sq64 {m : List (List Int)} (h : MatP m) : ∀ i, i < m.length → dotV (atM m i) (atM m i) (widM m) ≤ 64 := fun i hi => by
  have := h.sq i hi
  rw [sqsP_dot] at this
  exact this
theorem mem_pvI {s : Red} {k : Nat} : (k : Int) ∈ pvI s ↔ k ∈ s.pv := pv_mem.trans pv_has.symm
theorem nulK_cnt (n m : Nat) (A : Nat → Nat → Int) : ∀ c, c ≤ n → (nulK n (Red.run m A n) c).length + (Red.run m A c).pv.length = c := by
  intro c
  induction c with
  | zero => intro _; rfl
  | succ c ih =>
    intro hc
    have i1 := ih (by omega)
    have t1 := take_has (m := m) (Red.run_asc m A c)
    have l1 := Red.take_le m (Red.run m A c) c
    have p : (c : Int) ∈ pvI (Red.run m A n) ↔ c ∈ ((Red.run m A c).take m c).pv := by
      rw [mem_pvI]
      obtain ⟨d, rfl⟩ : ∃ d, n = c + 1 + d := ⟨n - (c + 1), by omega⟩
      exact run_has m A c d
    have e : (Red.run m A (c + 1)).pv.length = ((Red.run m A c).take m c).pv.length := rfl
    rw [e]
    unfold nulK
    by_cases h : (c : Int) ∈ pvI (Red.run m A n)
    · rw [if_pos h]
      have := t1.1 (p.1 h)
      omega
    · rw [if_neg h, List.length_append]
      have h2 : ¬ ((Red.run m A c).take m c).pv.length = (Red.run m A c).pv.length + 1 := fun x => h (p.2 (t1.2 x))
      show (nulK n _ c).length + 1 + _ = c + 1
      omega
/-- Rank and null space add up to the columns. -/
theorem nul_sum {m : List (List Int)} (hM : MatP m) : rkmV m + ((nulV m).length : Int) = (widM m : Int) := by
  have h := nulK_cnt (widM m) m.length (atM m) (widM m) (Nat.le_refl _)
  have e1 : rkmV m = ((pvI (Red.run m.length (atM m) (widM m))).length : Int) := if_pos (isMatB_yes hM)
  have e2 : nulV m = nulK (widM m) (Red.run m.length (atM m) (widM m)) (widM m) := if_pos (isMatB_yes hM)
  rw [e1, e2, pvI_len]
  omega
theorem nulV_le {m : List (List Int)} (hM : MatP m) : (nulV m).length ≤ widM m := by
  rw [show nulV m = nulK (widM m) (Red.run m.length (atM m) (widM m)) (widM m) from if_pos (isMatB_yes hM)]
  exact nulK_len ..
theorem trL_get {m : List (List Int)} {j : Nat} (h : j < widM m) : (trL m).getD j [] = rowF m.length fun i => atM m i j := by unfold trL; simp [List.getD, h]
/-- The transposed matrix has the same rank. -/
theorem rkm_tr {m : List (List Int)} (hM : MatP m) (hT : MatP (trV m)) : rkmV (trV m) = rkmV m := by
  have et : trV m = trL m := if_pos (isMatB_yes hM)
  have e1 : rkmV m = ((pvI (Red.run m.length (atM m) (widM m))).length : Int) := if_pos (isMatB_yes hM)
  have e2 : rkmV (trV m) = ((pvI (Red.run (trV m).length (atM (trV m)) (widM (trV m)))).length : Int) := if_pos (isMatB_yes hT)
  have hl : (trL m).length = widM m := by unfold trL; rw [List.length_map, List.length_range]
  have hw : widM (trL m) = m.length := by
    have := hM.w1
    show ((trL m).getD 0 []).length = _
    rw [trL_get (by omega), rowF_len]
  have hat : ∀ j, j < widM m → ∀ i, i < m.length → atM (trL m) j i = atM m i j := fun j hj i hi => by
    show ((trL m).getD j []).getD i 0 = _
    rw [trL_get hj, rowF_getD hi]
  have hT2 := hT.sq64
  rw [et] at hT2 e2
  rw [hl, hw] at hT2 e2
  have hT3 : ∀ j, j < widM m → dotV (fun i => atM m i j) (fun i => atM m i j) m.length ≤ 64 := fun j hj => by
    rw [← dotV_congr (u := atM (trL m) j) (g := atM (trL m) j) m.length fun i hi => ⟨hat j hj i hi, hat j hj i hi⟩]
    exact hT2 j hj
  rw [et, e1, e2, pvI_len, pvI_len, same_rank (b := widM m) (Y := fun j i => atM m i j) hT2 hT3 (fun g => by
    constructor
    · intro k j hj
      rw [← dotV_congr (u := atM (trL m) j) (g := g) m.length fun i hi => ⟨hat j hj i hi, rfl⟩]
      exact k j hj
    · intro k j hj
      rw [dotV_congr (u' := fun i => atM m i j) (g' := g) m.length fun i hi => ⟨hat j hj i hi, rfl⟩]
      exact k j hj), rank_tr hM.sq64 hT3]
theorem nulK_of {n : Nat} {s : Red} {x : List Int} : ∀ k, x ∈ nulK n s k → ∃ c, c < k ∧ ¬ (c : Int) ∈ pvI s ∧ x = nullV n s c := by
  intro k
  induction k with
  | zero => intro h; cases h
  | succ k ih =>
    intro h
    unfold nulK at h
    split at h
    · obtain ⟨c, h1, h2⟩ := ih h
      exact ⟨c, by omega, h2⟩
    · rename_i hk
      rcases List.mem_append.1 h with h | h
      · obtain ⟨c, h1, h2⟩ := ih h
        exact ⟨c, by omega, h2⟩
      · exact ⟨k, Nat.lt_succ_self k, hk, List.mem_singleton.1 h⟩
theorem dotV_mulr (u g : Nat → Int) (c : Int) : ∀ n, dotV u (fun j => c * g j) n = c * dotV u g n := by
  intro n
  induction n with
  | zero => show (0 : Int) = c * 0; omega
  | succ n ih =>
    show dotV u (fun j => c * g j) n + u n * (c * g n) = c * (dotV u g n + u n * g n)
    rw [ih]; grind
/-- Small numbers: the product as ints wrap around is the product. -/
theorem dotW_small {row v : List Int} {k : Nat} (h1 : ∀ j, j < k → -8 ≤ row.getD j 0 ∧ row.getD j 0 ≤ 8) (h2 : ∀ j, j < k → -134217728 ≤ v.getD j 0 ∧ v.getD j 0 ≤ 134217728) (hk : k ≤ 12) :
    ∀ n, n ≤ k → dotW64 row v n = dotV (fun j => row.getD j 0) (fun j => v.getD j 0) n ∧ (-(1073741824 * (n : Int)) ≤ dotW64 row v n ∧ dotW64 row v n ≤ 1073741824 * (n : Int)) := by
  intro n
  induction n with
  | zero => intro _; exact ⟨rfl, by show _ ≤ (0 : Int); simp, by show (0 : Int) ≤ _; simp⟩
  | succ n ih =>
    intro hn
    obtain ⟨i1, i2, i3⟩ := ih (by omega)
    have b := mul_bd (h1 n (by omega)) (h2 n (by omega))
    have b' : -1073741824 ≤ row.getD n 0 * v.getD n 0 ∧ row.getD n 0 * v.getD n 0 ≤ 1073741824 := b
    have e : dotW64 row v (n + 1) = dotW64 row v n + row.getD n 0 * v.getD n 0 := by
      show IntKind.i64.wrap (dotW64 row v n + IntKind.i64.wrap (row.getD n 0 * v.getD n 0)) = _
      rw [IntWalk.i64_in (row.getD n 0 * v.getD n 0) (by omega)]
      exact IntWalk.i64_in _ (by omega)
    refine ⟨?_, ?_, ?_⟩
    · rw [e, i1]; rfl
    · rw [e]; omega
    · rw [e]; omega
/-- What stands of each vector of the null space. -/
theorem nul_each {m : List (List Int)} (hM : MatP m) {x : List Int} (hx : x ∈ nulV m) : x.length = widM m ∧ tmV m x = rowF m.length (fun _ => 0) ∧ pV x = x := by
  have e2 : nulV m = nulK (widM m) (Red.run m.length (atM m) (widM m)) (widM m) := if_pos (isMatB_yes hM)
  rw [e2] at hx
  obtain ⟨c, hc, hnp, rfl⟩ := nulK_of _ hx
  obtain ⟨h1, h2, h3⟩ := Red.run_all hM.sq64 (widM m) (Nat.le_refl _)
  have hB := fun g => Red.run_back hM.sq64 (g := g) (widM m) (Nat.le_refl _)
  have hL := hM.q.limS (c := widM m) (Nat.le_refl _)
  generalize Red.run m.length (atM m) (widM m) = s at *
  have hnf : ∀ t, t < s.pv.length → s.pv.getD t 0 ≠ c := fun t ht e => hnp (pv_mem.2 ⟨t, ht, e⟩)
  have hk := hB _ (h1.null_kill h2 hc hnf)
  have hsm := h1.nullF_sm hL hc s.pv.length (Nat.le_refl _)
  have hlen := nullV_len (widM m) s c
  obtain ⟨u, hu, e⟩ := prim_getD (widM m) (nullF s c s.pv.length)
  have hxb : ∀ j, j < widM m → -134217728 ≤ (nullV (widM m) s c).getD j 0 ∧ (nullV (widM m) s c).getD j 0 ≤ 134217728 := fun j hj => by
    have h1 := hsm j
    rw [e j hj] at h1
    show -134217728 ≤ (primV (rowF (widM m) (nullF s c s.pv.length))).getD j 0 ∧ (primV (rowF (widM m) (nullF s c s.pv.length))).getD j 0 ≤ 134217728
    generalize (primV (rowF (widM m) (nullF s c s.pv.length))).getD j 0 = x at *
    have ha : (u * x).natAbs ≤ 134217728 := by omega
    rw [Int.natAbs_mul] at ha
    have hb : 1 * x.natAbs ≤ u.natAbs * x.natAbs := Nat.mul_le_mul_right _ (by omega)
    omega
  refine ⟨hlen, ?_, ?_⟩
  · unfold tmV
    rw [if_pos ⟨isMatB_yes hM, hlen⟩]
    unfold tmL
    apply rowF_congr
    intro i hi
    rw [hlen]
    have hw := (dotW_small (row := m.getD i []) (v := nullV (widM m) s c) (fun j hj => (hM.row i hi).2 j hj) hxb hM.w12 (widM m) (Nat.le_refl _)).1
    rw [hw]
    have hd := hk i hi
    rw [dotV_congr (u := atM m i) (u' := fun j => (m.getD i []).getD j 0) (g' := fun j => u * (nullV (widM m) s c).getD j 0) _ fun j hj => ⟨rfl, e j hj⟩, dotV_mulr] at hd
    exact (Int.mul_eq_zero.1 hd).resolve_left hu
  · rw [pV_ok]
    · exact primV_prim _
    · intro j hj
      have := hxb j (by rw [hlen] at hj; exact hj)
      unfold OkG
      omega
end Go.Proofs.Ytdkpmaahinbhlaa
/- The laws' sameInts and at. No condition. -/
namespace Go.Proofs.Ytdkpmaahinbhlaa
open Go.RowKit

set_option maxHeartbeats 1000000 in
set_option maxRecDepth 100000 in
theorem sameInts_c (zs : List Int) (A A' : Option Addr) (cap cap' : Nat) (lo hi lo' hi' : Nat) (w : World) (hl : IntsIn w lo hi A zs) (hl' : IntsIn w lo' hi' A' zs) (hn : zs.length ≤ 1048576) :
    Calls Try.prog 21 #[.slice A zs.length cap, .slice A' zs.length cap'] w fun e w' => e = .returned (.bool true) ∧ Below w.heap.size w w' := by
  have HL := Lib.hid hl
  have HL' := Lib.hid hl'
  clear hl hl'
  go_enter Try.func21, Try.ntmps21
  go_wp2_with fail
  go_loopw [5] (fun i wr => ∃ k : Nat, k ≤ zs.length ∧ i = .int .i64 k ∧ ∃ m, wr = w.drewN m) (fun i _ => zs.length - (intOf i).toNat)
  case atStart => exact ⟨0, by omega, rfl, 0, rfl⟩
  case round =>
    obtain ⟨k, hk, rfl, m, rfl⟩ := hrel
    by_cases hlt : k < zs.length
    · have hi : (k : Int) < (zs.length : Int) := by omega
      obtain ⟨b, off, rfl, _, _, hcell⟩ := HL.out.2 (by omega)
      obtain ⟨b', off', rfl, _, _, hcell'⟩ := HL'.out.2 (by omega)
      have hc1 := hcell k hlt
      have hc2 := hcell' k hlt
      clear hcell hcell'
      obtain ⟨x, hx⟩ : ∃ x, zs.getD k 0 = x := ⟨_, rfl⟩
      rw [hx] at hc1 hc2
      clear hx
      go_wp2_with fail
      go_quiet (fail)
      go_wp2_with fail
      go_roundw
      case rel => exact ⟨k + 1, by omega, by go_num, m + nq, rfl⟩
      case measure => simp [intOf]; omega
    · go_wp2_with fail
      go_ret
      exact ⟨rfl, below_drewN _ _ _⟩


end Go.Proofs.Ytdkpmaahinbhlaa
/- What laws.sameSets answers of equal rows. No condition. -/
namespace Go.Proofs.Ytdkpmaahinbhlaa
open Go.RowKit

set_option maxHeartbeats 2000000 in
set_option maxRecDepth 100000 in
theorem sameSets_c (rs : List (List Int)) (A A' : Option Addr) (cap cap' lo hi lo' hi' : Nat) (w : World) (hl : RowsIn w lo hi A rs) (hl' : RowsIn w lo' hi' A' rs) (hn : rs.length ≤ 1048576) (hr : ∀ k, k < rs.length → (rs.getD k []).length ≤ 1048576) :
    Calls Try.prog 62 #[.slice A rs.length cap, .slice A' rs.length cap'] w fun e w' => e = .returned (.bool true) ∧ Below w.heap.size w w' := by
  have HL := Lib.hid hl
  have HL' := Lib.hid hl'
  have HR := Lib.hid hr
  clear hl hl' hr
  go_enter Try.func62, Try.ntmps62
  go_wp2_with fail
  go_loopw [5] (fun i wr => ∃ k : Nat, k ≤ rs.length ∧ i = .int .i64 k ∧ Below w.heap.size w wr) (fun i _ => rs.length - (intOf i).toNat)
  case atStart => exact ⟨0, by omega, rfl, Below.refl _ _⟩
  case round =>
    obtain ⟨k, hk, rfl, hb⟩ := hrel
    have HB := Lib.hid hb
    have HQ := Lib.hid (HL.out.within (within_low hb) (.inl HL.out.1))
    have HQ' := Lib.hid (HL'.out.within (within_low hb) (.inl HL'.out.1))
    have HWS := Lib.hid hb.size
    clear hb
    by_cases hlt : k < rs.length
    · have hi : (k : Int) < (rs.length : Int) := by omega
      obtain ⟨b, off, rfl, _, _, hcell⟩ := HQ.out.2 (by omega)
      obtain ⟨b', off', rfl, _, _, hcell'⟩ := HQ'.out.2 (by omega)
      obtain ⟨A1, c1, hc1, hi1⟩ := hcell k hlt
      obtain ⟨A2, c2, hc2, hi2⟩ := hcell' k hlt
      have hz := HR.out k hlt
      clear hcell hcell'
      obtain ⟨zs, hzs⟩ : ∃ zs, rs.getD k [] = zs := ⟨_, rfl⟩
      rw [hzs] at hc1 hc2 hi1 hi2 hz
      clear hzs
      have HI1 := Lib.hid hi1
      have HI2 := Lib.hid hi2
      clear hi1 hi2
      go_wp2_with fail
      refine wp_region_held_drew (S := (fun W' : World => W'.cell? ⟨b, off + k, none⟩ = some (.slice A1 zs.length c1) ∧ W'.cell? ⟨b', off' + k, none⟩ = some (.slice A2 zs.length c2))) (by kernel_rfl) ?_ (fun hHeld => ?_)
      · exact ⟨hc1, hc2⟩
      have HD := Lib.hid (show Below wr.heap.size wr wr.drew from (Below.refl _ _).drew)
      have HDS := Lib.hid HD.out.size
      generalize wr.drew = WD at *
      refine wpAnyH_take (i := 0) (v := .slice (some ⟨b, off, none⟩) rs.length cap) rfl (by kernel_rfl) (by kernel_rfl) (by kernel_rfl) (fun _ _ _ h => h) (Or.inl ⟨by kernel_rfl, fun w hSw => by (try dsimp only at hSw); go_simp; all_goals first | omega | exact IntWalk.i64_in _ (by omega)⟩) (by assumption) ?_
      refine wpAnyH_take (i := 1) (v := .int .i64 (k : Int)) rfl (by kernel_rfl) (by kernel_rfl) (by kernel_rfl) (fun _ _ _ h => h) (Or.inl ⟨by kernel_rfl, fun w hSw => by (try dsimp only at hSw); go_simp; all_goals first | omega | exact IntWalk.i64_in _ (by omega)⟩) (by assumption) ?_
      refine wpAnyH_take (i := 2) (v := .pointer (some ⟨b, off + k, none⟩)) rfl (by kernel_rfl) (by kernel_rfl) (by kernel_rfl) (fun _ _ _ h => h) (Or.inl ⟨by kernel_rfl, fun w hSw => by (try dsimp only at hSw); go_simp; all_goals first | omega | exact IntWalk.i64_in _ (by omega)⟩) (by assumption) ?_
      refine wpAnyH_take (i := 3) (v := .slice A1 zs.length c1) rfl (by kernel_rfl) (by kernel_rfl) (by kernel_rfl) (fun _ _ _ h => h) (Or.inl ⟨by kernel_rfl, fun w hSw => by (try dsimp only at hSw); go_simp; all_goals first | omega | exact IntWalk.i64_in _ (by omega)⟩) (by assumption) ?_
      refine wpAnyH_take (i := 4) (v := .slice (some ⟨b', off', none⟩) rs.length cap') rfl (by kernel_rfl) (by kernel_rfl) (by kernel_rfl) (fun _ _ _ h => h) (Or.inl ⟨by kernel_rfl, fun w hSw => by (try dsimp only at hSw); go_simp; all_goals first | omega | exact IntWalk.i64_in _ (by omega)⟩) (by assumption) ?_
      refine wpAnyH_take (i := 5) (v := .int .i64 (k : Int)) rfl (by kernel_rfl) (by kernel_rfl) (by kernel_rfl) (fun _ _ _ h => h) (Or.inl ⟨by kernel_rfl, fun w hSw => by (try dsimp only at hSw); go_simp; all_goals first | omega | exact IntWalk.i64_in _ (by omega)⟩) (by assumption) ?_
      refine wpAnyH_take (i := 6) (v := .pointer (some ⟨b', off' + k, none⟩)) rfl (by kernel_rfl) (by kernel_rfl) (by kernel_rfl) (fun _ _ _ h => h) (Or.inl ⟨by kernel_rfl, fun w hSw => by (try dsimp only at hSw); go_simp; all_goals first | omega | exact IntWalk.i64_in _ (by omega)⟩) (by assumption) ?_
      refine wpAnyH_take (i := 7) (v := .slice A2 zs.length c2) rfl (by kernel_rfl) (by kernel_rfl) (by kernel_rfl) (fun _ _ _ h => h) (Or.inl ⟨by kernel_rfl, fun w hSw => by (try dsimp only at hSw); go_simp; all_goals first | omega | exact IntWalk.i64_in _ (by omega)⟩) (by assumption) ?_
      refine wpAnyH_ready (rs := [8]) (by kernel_rfl) (by simp) (AllReadyH.cons rfl (fun K hK => ?_) AllReadyH.nil)
      go_simp
      go_at_call 21
      refine (sameInts_c zs A1 A2 c1 c2 _ _ _ _ _ (HI1.out.within (within_of HD.out) (.inr (Nat.zero_le _))) (HI2.out.within (within_of HD.out) (.inr (Nat.zero_le _))) hz).mono ?_
      rintro e w9 ⟨rfl, hb9⟩
      have HB9 := Lib.hid hb9
      refine hK.out _ _ ⟨(World.cell?_of_block (hb9.block b (by have := HQ.out.1; have := HDS.out; omega))).trans hHeld.1, (World.cell?_of_block (hb9.block b' (by have := HQ'.out.1; have := HDS.out; omega))).trans hHeld.2⟩ (fun hHeld => ?_)
      clear hK K hb9
      refine wpAnyH_take (i := 9) (v := .bool false) rfl (by kernel_rfl) (by kernel_rfl) (by kernel_rfl) (fun _ _ _ h => h) (Or.inl ⟨by kernel_rfl, fun w hSw => by (try dsimp only at hSw); go_simp; all_goals first | omega | exact IntWalk.i64_in _ (by omega)⟩) (by assumption) ?_
      refine wpAnyH_done (by kernel_rfl) ?_ _
      go_wp2_with fail
      go_roundw
      case rel => exact ⟨k + 1, by omega, by go_num, below_on HB.out (below_on HD.out HB9.out HDS.out) HWS.out⟩
      case measure => simp [intOf]; omega
    · go_wp2_with fail
      go_ret
      exact ⟨rfl, HB.out⟩
end Go.Proofs.Ytdkpmaahinbhlaa
/- Rows of numbers that lie side by side in one block: how they are read, written and marked (laws.markIntS, markIntSS). No condition. -/
namespace Go.Proofs.Ytdkpmaahinbhlaa
open Go.RowKit

/-- The block g holds the N numbers f. -/
def FlatAt (W : World) (g N : Nat) (f : Nat → Int) : Prop := W.ownsRow g 3 1 (.slice (some ⟨g, 0, none⟩) N N) N (intCells (rowF N f))
theorem FlatAt.cell {W : World} {g N : Nat} {f : Nat → Int} (h : FlatAt W g N f) {i : Nat} (hi : i < N) : W.cell? ⟨g, i, none⟩ = some (.int .i64 (f i)) := by
  have := (World.ownsRow.cellAt h i (by omega)).trans (intCells_get _ i (by rw [rowF_len]; exact hi))
  rw [rowF_getD hi] at this
  exact this
theorem FlatAt.lt {W : World} {g N : Nat} {f : Nat → Int} (h : FlatAt W g N f) : g < W.heap.size := (World.ownsRow.lt h g rfl).2
theorem FlatAt.congr {W : World} {g N : Nat} {f f' : Nat → Int} (h : FlatAt W g N f) (e : ∀ i, i < N → f i = f' i) : FlatAt W g N f' := by
  unfold FlatAt at h ⊢
  rw [← rowF_congr e]; exact h
theorem FlatAt.within {W W' : World} {g N a b : Nat} {f : Nat → Int} (h : FlatAt W g N f) (hw : Within a b W W') (hd : g < a ∨ b ≤ g) : FlatAt W' g N f := by
  have hl := h.lt
  have ho : OwnInts W g (g + 1) (some ⟨g, 0, none⟩) N (rowF N f) := ⟨hl, .inr ⟨g, rfl, Nat.le_refl _, Nat.lt_succ_self _, by unfold FlatAt at h; rw [rowF_len]; exact h⟩⟩
  have ho2 := ho.within hw (by omega)
  rcases ho2.2 with h0 | ⟨g', e, h1, h2, h3⟩
  · have hN : N = 0 := by have := congrArg List.length h0; rw [rowF_len] at this; exact this
    subst hN
    unfold FlatAt at h ⊢
    obtain ⟨l1, l2⟩ := h
    refine ⟨l1, ?_⟩
    rcases l2 with l2 | ⟨g2, c2, cur, e1, e2, e3, e4⟩
    · cases l2.1
    · cases e1
      exact .inr ⟨g, 0, cur, rfl, Nat.le_refl _, (hw.block g hl (by omega)).trans e3, e4⟩
  · cases e
    rw [rowF_len] at h3
    exact h3
theorem FlatAt.ints {W : World} {g N off n : Nat} {f : Nat → Int} (h : FlatAt W g N f) (hn : off + n ≤ N) {lo hi : Nat} (h1 : lo ≤ g) (h2 : g < hi) (h3 : hi ≤ W.heap.size) : IntsIn W lo hi (some ⟨g, off, none⟩) (rowF n fun j => f (off + j)) :=
  ⟨h3, fun _ => ⟨g, off, rfl, h1, h2, fun k hk => by
    rw [rowF_len] at hk
    rw [rowF_getD hk]
    exact h.cell (by omega)⟩⟩

set_option maxHeartbeats 1000000 in
set_option maxRecDepth 100000 in
theorem markFlat_c (g N off n cap : Nat) (f : Nat → Int) (k : Int) (w : World) (h : FlatAt w g N f) (hN : off + n ≤ N) (hn : n ≤ 1048576) (hk0 : 0 ≤ k) (hk1 : k ≤ 10000000) :
    Calls Try.prog 181 #[.slice (some ⟨g, off, none⟩) n cap, .int .i64 k] w fun e w' => e = .returned (.int .i64 (k + (n : Int))) ∧ FlatAt w' g N (fun i => if off ≤ i ∧ i < off + n then k + ((i - off : Nat) : Int) else f i) ∧ w.grownBy w' (some g) := by
  have HO := Lib.hid h
  clear h
  go_enter Try.func181, Try.ntmps181
  go_wp2_with fail
  go_loopw [1, 5] (fun m i wr => ∃ j : Nat, j ≤ n ∧ i = .int .i64 j ∧ m = .int .i64 (k + (j : Int)) ∧ FlatAt wr g N (fun i => if off ≤ i ∧ i < off + j then k + ((i - off : Nat) : Int) else f i) ∧ w.grownBy wr (some g)) (fun _ i _ => n - (intOf i).toNat)
  case atStart => exact ⟨0, by omega, rfl, by simp, HO.out.congr fun i _ => (if_neg (by omega)).symm, World.grownBy.refl _ _⟩
  case round =>
    obtain ⟨j, hj, rfl, rfl, hown, hg⟩ := hrel
    have HG := Lib.hid hg
    clear hg
    by_cases hlt : j < n
    · have hi : (j : Int) < (n : Int) := by omega
      have hd1 := hown.cell (i := off + j) (by omega)
      have hf1 := World.ownsRow.frozenAt hown (off + j)
      have hst1 := World.ownsRow.stored hown (off + j) (.int .i64 (k + (j : Int)))
      have HG2 := Lib.hid (HG.out.trans_ hst1.2)
      have hst3 := hst1.1
      rw [rowF_set (by omega)] at hst3
      have HST := Lib.hid (FlatAt.congr (f' := fun i => if off ≤ i ∧ i < off + (j + 1) then k + ((i - off : Nat) : Int) else f i) hst3 fun i _ => by
        by_cases e : i = off + j
        · subst e
          rw [if_pos rfl, if_pos (by omega), Nat.add_sub_cancel_left]
        · rw [if_neg e]
          by_cases e2 : off ≤ i ∧ i < off + j
          · rw [if_pos e2, if_pos (by omega)]
          · rw [if_neg e2, if_neg (by omega)])
      clear hst1 hst3 hown
      go_wp2_with fail
      go_roundw
      case rel => exact ⟨j + 1, by omega, by go_num, by go_num, HST.out, HG2.out⟩
      case measure => simp [intOf]; omega
    · obtain rfl : j = n := by omega
      go_wp2_with fail
      go_ret
      exact ⟨rfl, hown, HG.out⟩

/-- h rows of n numbers each, side by side in the block g in the order p; their row lies in the block gh. -/
structure RowsF (W : World) (lo hi gh g h n : Nat) (p : Nat → Nat) (f : Nat → Int) : Prop where
  top : hi ≤ W.heap.size
  hd : lo ≤ gh ∧ gh < hi
  nm : lo ≤ g ∧ g < hi
  ne : gh ≠ g
  per : ∀ i, i < h → p i < h
  row : W.ownsRow gh 29 1 (.slice (some ⟨gh, 0, none⟩) h h) h ((List.range h).map fun i => .slice (some ⟨g, p i * n, none⟩) n n)
  num : FlatAt W g (h * n) f
theorem at_row {h n i j : Nat} (hi : i < h) (hj : j < n) : i * n + j < h * n := by
  have h1 : i * n + n ≤ h * n := by
    have := Nat.mul_le_mul_right n (show i + 1 ≤ h from hi)
    rw [Nat.add_mul, Nat.one_mul] at this
    exact this
  omega
theorem RowsF.head {W : World} {lo hi gh g h n : Nat} {p : Nat → Nat} {f : Nat → Int} (r : RowsF W lo hi gh g h n p f) {i : Nat} (hi' : i < h) : W.cell? ⟨gh, i, none⟩ = some (.slice (some ⟨g, p i * n, none⟩) n n) := by
  have := World.ownsRow.cellAt r.row i (by omega)
  rw [List.getElem?_map, List.getElem?_range hi'] at this
  exact this
theorem RowsF.within {W W' : World} {lo hi gh g h n a b : Nat} {p : Nat → Nat} {f : Nat → Int} (r : RowsF W lo hi gh g h n p f) (hw : Within a b W W') (hd : hi ≤ a ∨ b ≤ lo) : RowsF W' lo hi gh g h n p f := by
  have h1 := r.hd
  have h2 := r.nm
  have ht := r.top
  refine ⟨Nat.le_trans ht hw.size, h1, h2, r.ne, r.per, ?_, r.num.within hw (by omega)⟩
  have hr := r.row
  obtain ⟨l1, l2⟩ := hr
  refine ⟨l1, ?_⟩
  rcases l2 with l2 | ⟨g2, c2, cur, e1, e2, e3, e4⟩
  · cases l2.1
  · cases e1
    exact .inr ⟨gh, h, cur, rfl, Nat.le_refl _, (hw.block gh (by omega) (by omega)).trans e3, e4⟩
/-- The rows, read. -/
def rowsV (h n : Nat) (p : Nat → Nat) (f : Nat → Int) : List (List Int) := (List.range h).map fun i => rowF n fun j => f (p i * n + j)
theorem rowsV_len (h n : Nat) (p : Nat → Nat) (f : Nat → Int) : (rowsV h n p f).length = h := by simp [rowsV]
theorem rowsV_get {h n i : Nat} {p : Nat → Nat} {f : Nat → Int} (hi : i < h) : (rowsV h n p f).getD i [] = rowF n fun j => f (p i * n + j) := by simp [rowsV, List.getD, hi]
theorem RowsF.reads {W : World} {lo hi gh g h n : Nat} {p : Nat → Nat} {f : Nat → Int} (r : RowsF W lo hi gh g h n p f) : RowsIn W lo hi (some ⟨gh, 0, none⟩) (rowsV h n p f) := by
  refine ⟨r.top, fun _ => ⟨gh, 0, rfl, r.hd.1, r.hd.2, fun k hk => ?_⟩⟩
  rw [rowsV_len] at hk
  refine ⟨some ⟨g, p k * n, none⟩, n, ?_, ?_⟩
  · rw [Nat.zero_add, rowsV_get hk, rowF_len]; exact r.head hk
  · rw [rowsV_get hk]
    have := r.per k hk
    refine r.num.ints ?_ r.nm.1 r.nm.2 r.top
    have := Nat.mul_le_mul_right n (show p k + 1 ≤ h from this)
    rw [Nat.add_mul, Nat.one_mul] at this
    exact this

set_option maxHeartbeats 2000000 in
set_option maxRecDepth 100000 in
theorem markRowsF_c (h n gh g lo hi cap : Nat) (f : Nat → Int) (k0 : Int) (w : World) (r : RowsF w lo hi gh g h n id f) (hh : h ≤ 1000) (hn : n ≤ 1000) (hk0 : 0 ≤ k0) (hk1 : k0 + ((h * n : Nat) : Int) ≤ 10000000) :
    Calls Try.prog 93 #[.slice (some ⟨gh, 0, none⟩) h cap, .int .i64 k0] w fun e w' => e = .returned (.int .i64 (k0 + ((h * n : Nat) : Int))) ∧ Within lo hi w w' ∧ RowsF w' lo hi gh g h n id (fun i => k0 + (i : Int)) := by
  have HM := Lib.hid r
  clear r
  go_enter Try.func93, Try.ntmps93
  go_wp2_with fail
  go_loopw [1, 5] (fun m i wr => ∃ j : Nat, j ≤ h ∧ i = .int .i64 j ∧ m = .int .i64 (k0 + ((j * n : Nat) : Int)) ∧ RowsF wr lo hi gh g h n id (fun i => if i < j * n then k0 + (i : Int) else f i) ∧ Within lo hi w wr) (fun _ i _ => h - (intOf i).toNat)
  case atStart => exact ⟨0, by omega, rfl, by simp, by
    have hM := HM.out
    exact ⟨hM.top, hM.hd, hM.nm, hM.ne, hM.per, hM.row, hM.num.congr fun i _ => (if_neg (by omega)).symm⟩, Within.refl _ _ _⟩
  case round =>
    obtain ⟨j, hj, rfl, rfl, hm, hw⟩ := hrel
    have HW := Lib.hid hw
    have HM := Lib.hid hm
    clear hm hw
    by_cases hlt : j < h
    · have hij : (j : Int) < (h : Int) := by omega
      have c1 : wr.cell? ⟨gh, j, none⟩ = some (.slice (some ⟨g, j * n, none⟩) n n) := HM.out.head hlt
      have hJN := Nat.mul_le_mul_right n (show j + 1 ≤ h from hlt)
      have hS : (j + 1) * n = j * n + n := by rw [Nat.add_mul, Nat.one_mul]
      obtain ⟨J, hJ⟩ : ∃ J, j * n = J := ⟨_, rfl⟩
      rw [hS, hJ] at hJN
      rw [hJ] at c1 hS ⊢
      have HS := Lib.hid hS
      have HJ := Lib.hid hJ
      have hM := HM.out.num
      rw [hJ] at hM
      have HF := Lib.hid hM
      clear hS hJ hM
      go_wp2_with fail
      refine (markFlat_c g (h * n) J n n _ (k0 + (J : Int)) _ HF.out hJN (by omega) (by omega) (by omega)).mono ?_
      rintro e w3 ⟨rfl, hf3, hg3⟩
      have hnm := HM.out.nm
      have hw3 : Within g (g + 1) wr w3 := ⟨hg3.os, hg3.tape, hg3.output, hg3.size, fun i hi' hd' => hg3.block i hi' (by simp; omega)⟩
      have HM3 := Lib.hid (show RowsF w3 lo hi gh g h n id (fun i => if i < (j + 1) * n then k0 + (i : Int) else f i) from by
        have hM := HM.out
        have h1 := hM.hd
        have hne := hM.ne
        have ht := hM.top
        refine ⟨Nat.le_trans ht hw3.size, h1, hM.nm, hne, hM.per, ?_, hf3.congr fun i _ => ?_⟩
        · obtain ⟨l1, l2⟩ := hM.row
          refine ⟨l1, ?_⟩
          rcases l2 with l2 | ⟨g2, c2, cur, e1, e2, e3, e4⟩
          · cases l2.1
          · cases e1
            exact .inr ⟨gh, h, cur, rfl, Nat.le_refl _, (hw3.block gh (by omega) (by omega)).trans e3, e4⟩
        · rw [HS.out]
          by_cases e1 : J ≤ i ∧ i < J + n
          · rw [if_pos e1, if_pos e1.2]
            omega
          · rw [if_neg e1]
            by_cases e2 : i < J
            · rw [if_pos e2, if_pos (by omega)]
            · rw [if_neg e2, if_neg (by omega)])
      have HW3 := Lib.hid (show Within lo hi w w3 from ⟨hw3.os.trans HW.out.os, hw3.tape.trans HW.out.tape, hw3.output.trans HW.out.output, Nat.le_trans HW.out.size hw3.size, fun i hi' hd' => (hw3.block i (Nat.lt_of_lt_of_le hi' HW.out.size) (by omega)).trans (HW.out.block i hi' hd')⟩)
      have hnx : k0 + (J : Int) + (n : Int) = k0 + (((j + 1) * n : Nat) : Int) := by rw [HS.out]; omega
      clear hw3 hf3 hg3
      rw [hnx]
      go_wp2_with fail
      go_roundw
      case rel => exact ⟨j + 1, by omega, by go_num, rfl, HM3.out, HW3.out⟩
      case measure => simp [intOf]; omega
    · obtain rfl : j = h := by omega
      go_wp2_with fail
      go_ret
      refine ⟨rfl, HW.out, ?_⟩
      have hM := HM.out
      exact ⟨hM.top, hM.hd, hM.nm, hM.ne, hM.per, hM.row, hM.num.congr fun i hi => if_pos hi⟩
end Go.Proofs.Ytdkpmaahinbhlaa
/- Rows of rows of ints that a law is handed: opened, measured, copied and compared (laws.szIntS, szIntSS, toIntS, toIntSS, eqIntS, eqIntSS). No condition. -/
namespace Go.Proofs.Ytdkpmaahinbhlaa
open Go.RowKit Go.Joins Go.ChangeShapes Go.WideShapes Go.Deep

/-- The slice at A reads as the ints zs, in a block from lo to hi. -/
def IntsD (W : World) (lo hi : Nat) (A : Option Addr) (zs : List Int) : Prop :=
  hi ≤ W.heap.size ∧ (0 < zs.length → ∃ b off, A = some ⟨b, off, none⟩ ∧ lo ≤ b ∧ b < hi ∧ ∀ k, k < zs.length → W.cell? ⟨b, off + k, none⟩ = some (.int .i64 (zs.getD k 0)))
theorem IntsD.kept {W W' : World} {lo hi : Nat} {A : Option Addr} {zs : List Int} (h : IntsD W lo hi A zs) (hs : W.heap.size ≤ W'.heap.size) (hk : ∀ b, lo ≤ b → b < hi → W'.heap[b]? = W.heap[b]?) : IntsD W' lo hi A zs :=
  ⟨Nat.le_trans h.1 hs, fun hl => by
    obtain ⟨b, off, e, h1, h2, hc⟩ := h.2 hl
    exact ⟨b, off, e, h1, h2, fun k hk' => (World.cell?_of_block (a := ⟨b, off + k, none⟩) (hk b h1 h2)).trans (hc k hk')⟩⟩
theorem IntsD.below {W W' : World} {lo hi : Nat} {A : Option Addr} {zs : List Int} (h : IntsD W lo hi A zs) (hb : Below W.heap.size W W') : IntsD W' lo hi A zs :=
  h.kept hb.size fun b _ h2 => hb.block b (Nat.lt_of_lt_of_le h2 h.1)
theorem IntsD.widen {W : World} {lo hi lo' hi' : Nat} {A : Option Addr} {zs : List Int} (h : IntsD W lo hi A zs) (h1 : lo' ≤ lo) (h2 : hi ≤ hi') (h3 : hi' ≤ W.heap.size) : IntsD W lo' hi' A zs :=
  ⟨h3, fun hl => by
    obtain ⟨b, off, e, q1, q2, hc⟩ := h.2 hl
    exact ⟨b, off, e, by omega, by omega, hc⟩⟩
def intCellsD (zs : List Int) : List Value := zs.map (Value.int .i64)
theorem intCellsD_get (zs : List Int) (k : Nat) (h : k < zs.length) : (intCellsD zs)[k]? = some (.int .i64 (zs.getD k 0)) := by
  simp [intCellsD, List.getD, List.getElem?_eq_getElem h]
theorem infoIntD : (Try.prog.info? 3).map (fun i => (i.zero, i.size, i.bytes)) = some (some (.int .i64 0), 1, 8) := by kernel_rfl
theorem own_intsD {w' : World} {base g cap : Nat} {zs : List Int} (h : w'.ownsRow base 3 1 (.slice (some ⟨g, 0, none⟩) zs.length cap) zs.length (intCellsD zs)) : IntsD w' base w'.heap.size (some ⟨g, 0, none⟩) zs :=
  ⟨Nat.le_refl _, fun _ => ⟨g, 0, rfl, (h.lt g rfl).1, (h.lt g rfl).2, fun k hk => by
    rw [Nat.zero_add]
    exact (h.cellAt k (by omega)).trans (intCellsD_get zs k hk)⟩⟩

theorem intsOfD_zero (n : Nat) : List.replicate n (Value.int .i64 0) = intCellsD (List.replicate n 0) := by simp [intCellsD]
theorem intsD_step (zs : List Int) (k : Nat) (h : k < zs.length) : (intCellsD (zs.take k ++ List.replicate (zs.length - k) 0)).set k (.int .i64 (zs.getD k 0)) = intCellsD (zs.take (k + 1) ++ List.replicate (zs.length - (k + 1)) 0) := by
  unfold intCellsD
  rw [← List.map_set]
  congr 1
  have hl0 : (zs.take k).length = k := by simp; omega
  obtain ⟨r, hr⟩ : ∃ r, zs.length - k = r + 1 := ⟨zs.length - k - 1, by omega⟩
  rw [List.set_append_right _ _ (by omega), hl0, Nat.sub_self, hr, List.replicate_succ, List.set_cons_zero, List.take_succ_eq_append_getElem h, show zs.length - (k + 1) = r by omega, List.append_assoc]
  simp [List.getD, List.getElem?_eq_getElem h]

set_option maxHeartbeats 1000000 in
set_option maxRecDepth 100000 in
theorem eqIntsD_c (zs : List Int) (A A' : Option Addr) (cap cap' : Nat) (lo hi lo' hi' : Nat) (w : World) (hl : IntsD w lo hi A zs) (hl' : IntsD w lo' hi' A' zs) (hn : zs.length ≤ 1048576) :
    Calls Try.prog 178 #[.slice A zs.length cap, .slice A' zs.length cap'] w fun e w' => e = .returned (.bool true) ∧ Below w.heap.size w w' := by
  have HL := Lib.hid hl
  have HL' := Lib.hid hl'
  clear hl hl'
  go_enter Try.func178, Try.ntmps178
  go_wp2_with fail
  go_loopw [5] (fun i wr => ∃ k : Nat, k ≤ zs.length ∧ i = .int .i64 k ∧ ∃ m, wr = w.drewN m) (fun i _ => zs.length - (intOf i).toNat)
  case atStart => exact ⟨0, by omega, rfl, 0, rfl⟩
  case round =>
    obtain ⟨k, hk, rfl, m, rfl⟩ := hrel
    by_cases hlt : k < zs.length
    · have hi : (k : Int) < (zs.length : Int) := by omega
      obtain ⟨b, off, rfl, _, _, hcell⟩ := HL.out.2 (by omega)
      obtain ⟨b', off', rfl, _, _, hcell'⟩ := HL'.out.2 (by omega)
      have hc1 := hcell k hlt
      have hc2 := hcell' k hlt
      clear hcell hcell'
      obtain ⟨x, hx⟩ : ∃ x, zs.getD k 0 = x := ⟨_, rfl⟩
      rw [hx] at hc1 hc2
      clear hx
      go_wp2_with fail
      go_quiet (fail)
      go_wp2_with fail
      go_roundw
      case rel => exact ⟨k + 1, by omega, by go_num, m + nq, rfl⟩
      case measure => simp [intOf]; omega
    · go_wp2_with fail
      go_ret
      exact ⟨rfl, below_drewN _ _ _⟩

/-- The numbers of the row are numbers of the machine. -/
def WfZ (zs : List Int) : Prop := ∀ n ∈ zs, (Lit.int .i64 n).wf = true
/-- The slice at A reads as the rows rs, in blocks from lo to hi. -/
def RowsD (W : World) (lo hi : Nat) (A : Option Addr) (rs : List (List Int)) : Prop :=
  hi ≤ W.heap.size ∧ (0 < rs.length → ∃ b off, A = some ⟨b, off, none⟩ ∧ lo ≤ b ∧ b < hi ∧ ∀ k, k < rs.length → ∃ A' c', W.cell? ⟨b, off + k, none⟩ = some (.slice A' (rs.getD k []).length c') ∧ IntsD W lo hi A' (rs.getD k []))
theorem RowsD.below {W W' : World} {lo hi : Nat} {A : Option Addr} {rs : List (List Int)} (h : RowsD W lo hi A rs) (hb : Below W.heap.size W W') : RowsD W' lo hi A rs :=
  ⟨Nat.le_trans h.1 hb.size, fun hl => by
    obtain ⟨b, off, e, h1, h2, hc⟩ := h.2 hl
    refine ⟨b, off, e, h1, h2, fun k hk => ?_⟩
    obtain ⟨A', c', h3, h4⟩ := hc k hk
    exact ⟨A', c', (hb.cell (p := ⟨b, off + k, none⟩) (Nat.lt_of_lt_of_le h2 h.1)).trans h3, h4.below hb⟩⟩

section
variable {H : Type} {enc : TypeId × Value → H} {w : World}
set_option maxRecDepth 100000 in
set_option maxHeartbeats 1000000 in
theorem open_rows {n : Nat} {v : Value} {y : DataW H × List MemPlace} (h : DataW.trod enc Try.prog w 0 (fun _ => true) true n 63 [v] = some y) :
    ∃ (A : Option Addr) (cap : Nat) (rs : List (List Int)), v = .slice A rs.length cap ∧ rs.length ≤ maxLen ∧ RowsD w 0 w.heap.size A rs ∧ ∀ k, k < rs.length → (rs.getD k []).length ≤ maxLen ∧ WfZ (rs.getD k []) := by
  rcases open_slice1 Try.underlying63 (by kernel_rfl) h with ⟨hv, _⟩ | ⟨a, len, cap, m, n, V, D, Pl, hv, _, hlc, hcm, hm, _, hi⟩
  · refine ⟨none, 0, [], ?_, by simp, ⟨Nat.le_refl _, fun h => absurd h (by simp)⟩, fun k hk => absurd hk (by simp)⟩
    simpa using hv
  · have hm' : m = cap := by simpa using hm
    have each : ∀ i, i < m → ∃ q : (Option Addr × Nat) × List Int, w.cell? (a.add i) = some (.slice q.1.1 q.2.length q.1.2) ∧ IntsD w 0 w.heap.size q.1.1 q.2 ∧ q.2.length ≤ maxLen ∧ WfZ q.2 := by
      intro i hi0
      obtain ⟨h1, h2⟩ := hi i hi0
      rcases open_ints Try.underlying29 Try.underlying3 (by kernel_rfl) h2 with ⟨hc, _⟩ | ⟨x, l, c, zs, hc, _, hl, hm, hz, _, hcell, hwz⟩
      · simp only [List.cons.injEq, and_true] at hc
        exact ⟨((none, 0), []), by rw [h1, hc]; rfl, ⟨Nat.le_refl _, fun h => absurd h (by simp)⟩, by simp, fun n hn => by simp at hn⟩
      · simp only [List.cons.injEq, and_true] at hc
        have hz' : zs.length = c := by simpa using hz
        have hlen : (zs.take l).length = l := by simp; omega
        refine ⟨((some x, c), zs.take l), by rw [h1, hc, hlen], ⟨Nat.le_refl _, fun hlt => ?_⟩, by rw [hlen]; omega, fun n hn => hwz n (List.mem_of_mem_take hn)⟩
        have hl' : 0 < zs.length := by rw [hlen] at hlt; omega
        obtain ⟨b, off, spot⟩ := x
        have hs : spot = none := by simpa [Addr.add] using World.cell?_spot (hcell 0 hl')
        subst hs
        have hadd : ∀ k, (⟨b, off, none⟩ : Addr).add k = ⟨b, off + k, none⟩ := fun k => by unfold Addr.add; split <;> simp_all
        have h0 := hcell 0 hl'
        rw [hadd] at h0
        refine ⟨b, off, rfl, Nat.zero_le _, World.block_lt_of_cell? w _ h0, fun k hk => ?_⟩
        have hk' : k < l ∧ k < zs.length := by rw [hlen] at hk; omega
        have := hcell k hk'.2
        rw [hadd] at this
        rw [this]
        simp [List.getD, hk'.1]
    obtain ⟨q, hq⟩ := choose_lt each
    refine ⟨some a, cap, (List.range len).map fun i => (q i).2, by simpa using hv, by simp; omega, ⟨Nat.le_refl _, fun hl => ?_⟩, fun k hk => ?_⟩
    · have hl' : 0 < len := by simpa using hl
      obtain ⟨b, off, spot⟩ := a
      have hs : spot = none := by simpa [Addr.add] using World.cell?_spot (hq 0 (by omega)).1
      subst hs
      have hadd : ∀ k, (⟨b, off, none⟩ : Addr).add k = ⟨b, off + k, none⟩ := fun k => by unfold Addr.add; split <;> simp_all
      have h0 := (hq 0 (by omega)).1
      rw [hadd] at h0
      refine ⟨b, off, rfl, Nat.zero_le _, World.block_lt_of_cell? w _ h0, fun k hk => ?_⟩
      have hk' : k < len := by simpa using hk
      have hg : ((List.range len).map fun i => (q i).2).getD k [] = (q k).2 := by simp [List.getD, hk']
      obtain ⟨c0, c1, _⟩ := hq k (by omega)
      rw [hadd] at c0
      rw [hg]
      exact ⟨(q k).1.1, (q k).1.2, c0, c1⟩
    · have hk' : k < len := by simpa using hk
      have hg : ((List.range len).map fun i => (q i).2).getD k [] = (q k).2 := by simp [List.getD, hk']
      rw [hg]
      exact (hq k (by omega)).2.2
end

/-- The number of ints in the first n rows. -/
def totD (rs : List (List Int)) : Nat → Nat
  | 0 => 0
  | n + 1 => totD rs n + (rs.getD n []).length
theorem totD_le (rs : List (List Int)) {j n : Nat} (h : j ≤ n) : totD rs j ≤ totD rs n := by
  induction n with
  | zero =>
    obtain rfl : j = 0 := by omega
    exact Nat.le_refl _
  | succ n ih =>
    by_cases e : j = n + 1
    · subst e; exact Nat.le_refl _
    · have := ih (by omega)
      rw [totD]; omega

end Go.Proofs.Ytdkpmaahinbhlaa
/- The laws' copy of a row of rows, and their comparison of two (laws.toIntSS, eqIntSS). No condition. -/
namespace Go.Proofs.Ytdkpmaahinbhlaa
open Go.RowKit

theorem infoIntsD : (Try.prog.info? 29).map (fun i => (i.zero, i.size, i.bytes)) = some (some (.slice none 0 0), 1, 24) := by kernel_rfl
/-- The values zs are the rows rs, each in a block from lo to hi. -/
def RowsV (W : World) (lo hi : Nat) (zs : List Value) (rs : List (List Int)) : Prop :=
  ∀ k, k < rs.length → k < zs.length → ∃ A' c', zs.getD k (.slice none 0 0) = .slice A' (rs.getD k []).length c' ∧ IntsD W lo hi A' (rs.getD k [])

end Go.Proofs.Ytdkpmaahinbhlaa
/- What impl.newRows answers: rows of zeros side by side in one block. No condition. -/
namespace Go.Proofs.Ytdkpmaahinbhlaa
open Go.RowKit

theorem rowF_zero (N : Nat) : List.replicate N (Value.int .i64 0) = intCells (rowF N fun _ => 0) := by
  rw [intsOf_zero]
  congr 1
  apply List.ext_getElem (by rw [rowF_len, List.length_replicate])
  intro i h1 h2
  rw [rowF_get h2, List.getElem_replicate]
def headV (g n : Nat) (i : Nat) : Value := .slice (some ⟨g, i * n, none⟩) n n

set_option maxHeartbeats 2000000 in
set_option maxRecDepth 100000 in
theorem newRows_c (h n : Nat) (w : World) (hh : h ≤ 1000) (hn : n ≤ 1000) (hn0 : 0 < n) :
    Calls Try.prog 156 #[.int .i64 h, .int .i64 n] w fun e w' => ∃ gh g, e = .returned (.slice (some ⟨gh, 0, none⟩) h h) ∧ RowsF w' w.heap.size w'.heap.size gh g h n id (fun _ => 0) ∧ Below w.heap.size w w' := by
  obtain ⟨N, hN⟩ : ∃ N, h * n = N := ⟨_, rfl⟩
  have hNb : N ≤ 1000000 := by rw [← hN]; exact Nat.mul_le_mul hh hn
  have hNc : ((h : Int) * (n : Int)) = (N : Int) := by rw [← hN]; exact (Int.natCast_mul ..).symm
  have hNw : IntKind.i64.wrap ((h : Int) * (n : Int)) = (N : Int) := by rw [hNc]; exact IntWalk.i64_in _ (by omega)
  have HN := Lib.hid hN
  clear hN hNc
  go_enter Try.func156, Try.ntmps156
  go_wp2_with (first
    | (at_make; refine wpList_mkn _ rfl _ _ 63 rfl w0.heap.size 29 (.slice none 0 0) 24 Try.underlying63 infoIntsD rfl _ _ _ _ h rfl rfl rfl rfl (by omega) (by unfold maxLen; omega) (Nat.le_refl _) ?_; intro w1 hown1 hb1)
    | (at_make; refine wpList_mkn _ rfl _ _ 29 rfl w.heap.size 3 (.int .i64 0) 8 Try.underlying29 infoInt rfl _ _ _ _ N rfl rfl rfl rfl (by omega) (by unfold maxLen; omega) (Nat.le_refl _) ?_; intro w0 hown0 hb0))
  obtain ⟨g, hg⟩ : ∃ g, w.heap.size = g := ⟨_, rfl⟩
  rw [hg] at hown0 hb0 ⊢
  rw [rowF_zero] at hown0
  have HF := Lib.hid (show FlatAt w0 g N (fun _ => 0) from hown0)
  have HB0 := Lib.hid hb0
  have HG := Lib.hid hg
  have hgs := HF.out.lt
  clear hown0 hb0 hg
  obtain ⟨gh, hgh⟩ : ∃ gh, w0.heap.size = gh := ⟨_, rfl⟩
  have HF1 := Lib.hid (HF.out.within (within_of hb1) (.inr (Nat.zero_le _)))
  have HB1 := Lib.hid (HB0.out.trans (hb1.mono (Nat.le_of_lt hgs)))
  rw [hgh] at hown1 hgs hb1 ⊢
  have HO1 := Lib.hid hown1
  clear hown1 hb1 hgh
  go_loopw [7, 16] (fun _ i wr => ∃ j : Nat, j ≤ h ∧ i = .int .i64 j ∧ wr.ownsRow gh 29 1 (.slice (some ⟨gh, 0, none⟩) h h) h ((List.range j).map (headV g n) ++ List.replicate (h - j) (.slice none 0 0)) ∧ FlatAt wr g N (fun _ => 0) ∧ Below g w wr) (fun _ i _ => h - (intOf i).toNat)
  case atStart => exact ⟨0, by omega, rfl, HO1.out, HF1.out, HB1.out⟩
  case round =>
    obtain ⟨j, hj, rfl, hown, hf, hb⟩ := hrel
    have HO := Lib.hid hown
    have HFJ := Lib.hid hf
    have HB := Lib.hid hb
    clear hown hf hb
    have hlen : ((List.range j).map (headV g n) ++ List.replicate (h - j) (Value.slice none 0 0)).length = h := by simp; omega
    by_cases hlt : j < h
    · have hji : (j : Int) < (h : Int) := by omega
      have hKN := Nat.mul_le_mul_right n (show j + 1 ≤ h from hlt)
      have hS : (j + 1) * n = j * n + n := by rw [Nat.add_mul, Nat.one_mul]
      rw [hS, HN.out] at hKN
      obtain ⟨K, hK⟩ : ∃ K, j * n = K := ⟨_, rfl⟩
      obtain ⟨K1, hK1⟩ : ∃ K1, K + n = K1 := ⟨_, rfl⟩
      rw [hK, hK1] at hKN
      have hw1 : IntKind.i64.wrap ((j : Int) * (n : Int)) = (K : Int) := by rw [← Int.natCast_mul, hK]; exact IntWalk.i64_in _ (by omega)
      have hw2 : IntKind.i64.wrap (((j : Int) + 1) * (n : Int)) = (K1 : Int) := by
        have : ((j : Int) + 1) * (n : Int) = (((j + 1) * n : Nat) : Int) := by rw [Int.natCast_mul]; rfl
        rw [this, hS, hK, hK1]; exact IntWalk.i64_in _ (by omega)
      have hkk : (K : Int) ≤ (K1 : Int) := by omega
      have hkn : (K1 : Int) ≤ (N : Int) := by omega
      have hk0 : (0 : Int) ≤ (K : Int) := by omega
      have hd := (HO.out.cellAt j (by omega)).trans (show ((List.range j).map (headV g n) ++ List.replicate (h - j) (Value.slice none 0 0))[j]? = some (Value.slice none 0 0) by
        rw [List.getElem?_append_right (by simp), List.length_map, List.length_range, Nat.sub_self, List.getElem?_replicate, if_pos (by omega)])
      have hfz := HO.out.frozenAt j
      have hv : Value.slice (if K1 = K then some ⟨g, 0, none⟩ else some ⟨g, K, none⟩) (K1 - K) (K1 - K) = headV g n j := by
        unfold headV
        rw [if_neg (by omega), hK, show K1 - K = n by omega]
      have hst := HO.out.stored j (headV g n j)
      have hstep : ((List.range j).map (headV g n) ++ List.replicate (h - j) (Value.slice none 0 0)).set j (headV g n j) = (List.range (j + 1)).map (headV g n) ++ List.replicate (h - (j + 1)) (.slice none 0 0) := by
        obtain ⟨r, hr⟩ : ∃ r, h - j = r + 1 := ⟨h - j - 1, by omega⟩
        rw [List.set_append_right _ _ (by simp), List.length_map, List.length_range, Nat.sub_self, hr, List.replicate_succ, List.set_cons_zero, show h - (j + 1) = r by omega, List.range_succ, List.map_append, List.append_assoc]
        rfl
      rw [hstep] at hst
      have hw3 : Within gh (gh + 1) wr (wr.setCell ⟨gh, j, none⟩ (headV g n j)) := ⟨hst.2.os, hst.2.tape, hst.2.output, hst.2.size, fun i hi' hd' => hst.2.block i hi' (by simp; omega)⟩
      have HST := Lib.hid hst.1
      have HF3 := Lib.hid (HFJ.out.within hw3 (.inl hgs))
      have HB3 := Lib.hid (within_on HB.out hw3 (by have := HFJ.out.lt; omega) (.inl (Nat.le_of_lt hgs)))
      have HV := Lib.hid hv
      clear hK hK1 hS hlen hv hst hstep hw3
      go_wp2_with fail
      rw [HV.out]
      go_roundw
      case rel => exact ⟨j + 1, by omega, by go_num, HST.out, HF3.out, HB3.out⟩
      case measure => simp [intOf]; omega
    · obtain rfl : j = h := by omega
      go_wp2_with fail
      go_ret
      rw [HG.out]
      have hrow := HO.out
      rw [Nat.sub_self, List.replicate_zero, List.append_nil] at hrow
      have hgl := (World.ownsRow.lt hrow gh rfl).2
      exact ⟨gh, g, rfl, ⟨Nat.le_refl _, ⟨by omega, hgl⟩, ⟨Nat.le_refl _, by omega⟩, by omega, fun i hi => hi, hrow, by rw [HN.out]; exact HFJ.out⟩, HB.out⟩
/-- A number stored. -/
theorem RowsF.store {W : World} {lo hi gh g h n : Nat} {p : Nat → Nat} {f : Nat → Int} (r : RowsF W lo hi gh g h n p f) {t : Nat} (ht : t < h * n) (x : Int) :
    RowsF (W.setCell ⟨g, t, none⟩ (.int .i64 x)) lo hi gh g h n p (fun s => if s = t then x else f s) ∧ Within g (g + 1) W (W.setCell ⟨g, t, none⟩ (.int .i64 x)) := by
  have hst := World.ownsRow.stored r.num t (.int .i64 x)
  have hw : Within g (g + 1) W (W.setCell ⟨g, t, none⟩ (.int .i64 x)) := ⟨hst.2.os, hst.2.tape, hst.2.output, hst.2.size, fun i hi' hd' => hst.2.block i hi' (by simp; omega)⟩
  refine ⟨⟨Nat.le_trans r.top hw.size, r.hd, r.nm, r.ne, r.per, ?_, ?_⟩, hw⟩
  · obtain ⟨l1, l2⟩ := r.row
    refine ⟨l1, ?_⟩
    have h1 := r.hd
    have ht := r.top
    have hne := r.ne
    rcases l2 with l2 | ⟨g2, c2, cur, e1, e2, e3, e4⟩
    · cases l2.1
    · cases e1
      exact .inr ⟨gh, h, cur, rfl, Nat.le_refl _, (hw.block gh (by omega) (by omega)).trans e3, e4⟩
  · have := hst.1
    rw [rowF_set ht] at this
    exact this
theorem RowsF.widen {W : World} {lo hi lo' hi' gh g h n : Nat} {p : Nat → Nat} {f : Nat → Int} (r : RowsF W lo hi gh g h n p f) (h1 : lo' ≤ lo) (h2 : hi ≤ hi') (h3 : hi' ≤ W.heap.size) : RowsF W lo' hi' gh g h n p f :=
  ⟨h3, by have := r.hd; omega, by have := r.nm; omega, r.ne, r.per, r.row, r.num⟩
theorem at_inj {n c r j i : Nat} (hr : r < n) (hi : i < n) (e : c * n + r = j * n + i) : c = j ∧ r = i := by
  rcases Nat.lt_trichotomy c j with h | h | h
  · have := Nat.mul_le_mul_right n (show c + 1 ≤ j from h)
    rw [Nat.add_mul, Nat.one_mul] at this
    omega
  · subst h; omega
  · have := Nat.mul_le_mul_right n (show j + 1 ≤ c from h)
    rw [Nat.add_mul, Nat.one_mul] at this
    omega
end Go.Proofs.Ytdkpmaahinbhlaa
/- What stands in memory while the program reduces a matrix: the struct, its rows in one block, and its pivots. No program's walk. No condition. -/
namespace Go.Proofs.Ytdkpmaahinbhlaa
open Go.RowKit

/-- The struct's block. -/
def BoxR (W : World) (bs gh m : Nat) (Ap : Option Addr) (L cp : Nat) (D : Int) : Prop := Cel3 W bs 142 (.slice (some ⟨gh, 0, none⟩) m m) (.slice Ap L cp) (.int .i64 D)
structure RedI (W : World) (B bs lo hi gh g m n : Nat) (p : Nat → Nat) (f : Nat → Int) (Ap : Option Addr) (cp plo phi : Nat) (ps : List Int) (D : Int) : Prop where
  bx : BoxR W bs gh m Ap ps.length cp D
  rows : RowsF W lo hi gh g m n p f
  piv : OwnR W plo phi Ap cp ps
  low : B ≤ bs ∧ B ≤ lo ∧ B ≤ plo
  ple : plo ≤ W.heap.size
  sep : (bs < lo ∨ hi ≤ bs) ∧ (bs < plo ∨ phi ≤ bs) ∧ (hi ≤ plo ∨ phi ≤ lo)
section
variable {W W' : World} {B bs lo hi gh g m n : Nat} {p : Nat → Nat} {f : Nat → Int} {Ap : Option Addr} {cp plo phi : Nat} {ps : List Int} {D : Int}
theorem RedI.bsz (h : RedI W B bs lo hi gh g m n p f Ap cp plo phi ps D) : bs < W.heap.size := Cel3.lt h.bx
theorem RedI.below (h : RedI W B bs lo hi gh g m n p f Ap cp plo phi ps D) (hb : Below W.heap.size W W') : RedI W' B bs lo hi gh g m n p f Ap cp plo phi ps D :=
  ⟨Cel3.kept h.bx hb, h.rows.within (within_of hb) (.inr (Nat.zero_le _)), h.piv.within (within_of hb) (.inr (Nat.zero_le _)), h.low, Nat.le_trans h.ple hb.size, h.sep⟩
/-- A number of the rows stored. -/
theorem RedI.num (h : RedI W B bs lo hi gh g m n p f Ap cp plo phi ps D) {t : Nat} (ht : t < m * n) (x : Int) :
    RedI (W.setCell ⟨g, t, none⟩ (.int .i64 x)) B bs lo hi gh g m n p (fun s => if s = t then x else f s) Ap cp plo phi ps D ∧ Within g (g + 1) W (W.setCell ⟨g, t, none⟩ (.int .i64 x)) := by
  have hst := h.rows.store ht x
  have hn := h.rows.nm
  have hs := h.sep
  exact ⟨⟨Cel3.within h.bx hst.2 (by omega), hst.1, h.piv.within hst.2 (by omega), h.low, Nat.le_trans h.ple hst.2.size, h.sep⟩, hst.2⟩
/-- A row put in another's place. -/
theorem RowsF.put (r : RowsF W lo hi gh g m n p f) {i q : Nat} (_hi : i < m) (hq : q < m) :
    RowsF (W.setCell ⟨gh, i, none⟩ (.slice (some ⟨g, q * n, none⟩) n n)) lo hi gh g m n (updA p i q) f ∧ Within gh (gh + 1) W (W.setCell ⟨gh, i, none⟩ (.slice (some ⟨g, q * n, none⟩) n n)) := by
  have hst := World.ownsRow.stored r.row i (.slice (some ⟨g, q * n, none⟩) n n)
  have hw : Within gh (gh + 1) W (W.setCell ⟨gh, i, none⟩ (.slice (some ⟨g, q * n, none⟩) n n)) := within_set ..
  have hne := r.ne
  refine ⟨⟨Nat.le_trans r.top hw.size, r.hd, r.nm, r.ne, fun k hk => ?_, ?_, r.num.within hw (by omega)⟩, hw⟩
  · unfold updA; split
    · exact hq
    · exact r.per k hk
  · have e : ((List.range m).map fun i => Value.slice (some ⟨g, p i * n, none⟩) n n).set i (.slice (some ⟨g, q * n, none⟩) n n) = (List.range m).map fun k => Value.slice (some ⟨g, updA p i q k * n, none⟩) n n := by
      apply List.ext_getElem (by simp)
      intro k h1 h2
      have r1 : ((List.range m).map fun k => Value.slice (some ⟨g, updA p i q k * n, none⟩) n n)[k]'h2 = Value.slice (some ⟨g, updA p i q k * n, none⟩) n n := by rw [List.getElem_map, List.getElem_range]
      rw [r1, List.getElem_set]
      by_cases e : i = k
      · subst e; rw [if_pos rfl, updA, if_pos rfl]
      · rw [if_neg e, updA, if_neg (fun h => e h.symm), List.getElem_map, List.getElem_range]
    rw [← e]; exact hst.1
theorem RedI.put (h : RedI W B bs lo hi gh g m n p f Ap cp plo phi ps D) {i q : Nat} (hi' : i < m) (hq : q < m) :
    RedI (W.setCell ⟨gh, i, none⟩ (.slice (some ⟨g, q * n, none⟩) n n)) B bs lo hi gh g m n (updA p i q) f Ap cp plo phi ps D ∧ Within gh (gh + 1) W (W.setCell ⟨gh, i, none⟩ (.slice (some ⟨g, q * n, none⟩) n n)) := by
  have hst := h.rows.put hi' hq
  have hn := h.rows.hd
  have hs := h.sep
  exact ⟨⟨Cel3.within h.bx hst.2 (by omega), hst.1, h.piv.within hst.2 (by omega), h.low, Nat.le_trans h.ple hst.2.size, h.sep⟩, hst.2⟩
/-- What an append onto the pivots leaves, and the struct behind it. -/
theorem RedI.app (h : RedI W B bs lo hi gh g m n p f Ap cp plo phi ps D) {A' : Option Addr} {c' lo' hi' : Nat} {y : Int}
    (hr : OwnR W' lo' hi' A' c' (ps ++ [y])) (hd : (lo' = plo ∧ hi' = phi) ∨ (W.heap.size ≤ lo' ∧ lo' ≤ W'.heap.size ∧ hi' ≤ W'.heap.size)) (hw : Within plo phi W W') (D' : Int) :
    BoxR W' bs gh m Ap ps.length cp D ∧ RowsF W' lo hi gh g m n p f ∧
      RedI ((W'.setCell ⟨bs, 1, none⟩ (.slice A' (ps.length + 1) c')).setCell ⟨bs, 2, none⟩ (.int .i64 D')) B bs lo hi gh g m n p f A' c' lo' hi' (ps ++ [y]) D' ∧
      Below B W ((W'.setCell ⟨bs, 1, none⟩ (.slice A' (ps.length + 1) c')).setCell ⟨bs, 2, none⟩ (.int .i64 D')) := by
  have hs := h.sep
  have hb := h.bsz
  have hl := h.low
  have hp := h.ple
  have ht := h.rows.top
  have hsz := hw.size
  have b1 : BoxR W' bs gh m Ap ps.length cp D := Cel3.within h.bx hw (by omega)
  have r1 := h.rows.within hw (by omega)
  have w1 := within_set W' bs 1 (.slice A' (ps.length + 1) c')
  have w2 := within_set (W'.setCell ⟨bs, 1, none⟩ (.slice A' (ps.length + 1) c')) bs 2 (.int .i64 D')
  have w3 := w1.trans w2
  refine ⟨b1, r1, ⟨?_, r1.within w3 (by omega), hr.within w3 (by omega), by omega, ?_, by omega⟩, ?_⟩
  · have := Cel3.set2 (Cel3.set1 b1 (.slice A' (ps.length + 1) c')) (.int .i64 D')
    unfold BoxR
    rw [List.length_append]
    exact this
  · have := w3.size; omega
  · have k1 : Below B W W' := within_on (Below.refl B W) hw (by omega) (.inl hl.2.2)
    exact within_on k1 w3 (by omega) (.inl hl.1)
end
/-- No two rows lie in one place. -/
def InjP (p : Nat → Nat) (m : Nat) : Prop := ∀ i j, i < m → j < m → p i = p j → i = j
theorem InjP.swap {p : Nat → Nat} {m a b : Nat} (h : InjP p m) (ha : a < m) (hb : b < m) : InjP (updA (updA p a (p b)) b (p a)) m := by
  intro i j hi hj
  unfold updA
  by_cases e1 : i = b
  · rw [if_pos e1]
    by_cases e2 : j = b
    · intro _; omega
    · rw [if_neg e2]
      by_cases e3 : j = a
      · rw [if_pos e3]; intro e; have := h _ _ ha hb e; omega
      · rw [if_neg e3]; intro e; have := h _ _ ha hj e; omega
  · rw [if_neg e1]
    by_cases e4 : i = a
    · rw [if_pos e4]
      by_cases e2 : j = b
      · rw [if_pos e2]; intro e; have := h _ _ hb ha e; omega
      · rw [if_neg e2]
        by_cases e3 : j = a
        · intro _; omega
        · rw [if_neg e3]; intro e; have := h _ _ hb hj e; omega
    · rw [if_neg e4]
      by_cases e2 : j = b
      · rw [if_pos e2]; intro e; have := h _ _ hi ha e; omega
      · rw [if_neg e2]
        by_cases e3 : j = a
        · rw [if_pos e3]; intro e; have := h _ _ hi hb e; omega
        · rw [if_neg e3]; intro e; exact h _ _ hi hj e
theorem swap_at {p : Nat → Nat} {a b : Nat} (R : Nat → Nat → Int) (f : Nat → Int) (n m : Nat) (h : ∀ i, i < m → ∀ j, j < n → f (p i * n + j) = R i j) (ha : a < m) (hb : b < m) :
    ∀ i, i < m → ∀ j, j < n → f (updA (updA p a (p b)) b (p a) i * n + j) = barSwap R a b i j := by
  intro i hi j hj
  unfold updA barSwap
  by_cases e1 : i = b
  · rw [if_pos e1]
    by_cases e2 : i = a
    · rw [if_pos e2, ← e1, e2]; exact h a ha j hj
    · rw [if_neg e2, if_pos e1]; exact h a ha j hj
  · rw [if_neg e1]
    by_cases e2 : i = a
    · rw [if_pos e2, if_pos e2]; exact h b hb j hj
    · rw [if_neg e2, if_neg e2, if_neg e1]; exact h i hi j hj
end Go.Proofs.Ytdkpmaahinbhlaa
/- slices.IndexFunc with the function value of the program's takeColumn: the first row with a number that is not 0 in a column. No condition. -/
namespace Go.Proofs.Ytdkpmaahinbhlaa
open Go.RowKit

/-- Rows that are read in a column: their slices, and their numbers there. -/
structure ColR (W : World) (bc c n gh K g : Nat) (q : Nat → Nat) (x : Nat → Int) (L : Nat) : Prop where
  col : W.cell? ⟨bc, 0, none⟩ = some (.int .i64 (c : Int))
  lt : c < n
  row : ∀ i, i < L → W.cell? ⟨gh, K + i, none⟩ = some (.slice (some ⟨g, q i, none⟩) n n)
  num : ∀ i, i < L → W.cell? ⟨g, q i + c, none⟩ = some (.int .i64 (x i))
theorem ne1_c (bc c n g o : Nat) (x : Int) (w : World) (h1 : w.cell? ⟨bc, 0, none⟩ = some (.int .i64 (c : Int))) (h2 : c < n) (h3 : w.cell? ⟨g, o + c, none⟩ = some (.int .i64 x)) :
    Calls Try.prog 236 #[.slice (some ⟨g, o, none⟩) n n, .pointer (some ⟨bc, 0, none⟩)] w fun e w' => e = .returned (.bool (x != 0)) ∧ w = w' := by
  have hci : (c : Int) < (n : Int) := by omega
  go_enter Try.func236, Try.ntmps236
  go_wp2
  go_ret
  exact ⟨rfl, rfl⟩
set_option maxHeartbeats 2000000 in
set_option maxRecDepth 100000 in
theorem idxR_c (bc c n gh K g L cap : Nat) (q : Nat → Nat) (x : Nat → Int) (w : World) (h : ColR w bc c n gh K g q x L) (hL : L ≤ 1000) (A : Option Addr) (hA : 0 < L → A = some ⟨gh, K, none⟩) :
    Calls Try.prog 235 #[.slice A L cap, .func (.func 236) #[] #[.pointer (some ⟨bc, 0, none⟩)]] w fun e w' => w = w' ∧
      ((e = .returned (.int .i64 (-1)) ∧ ∀ i, i < L → x i = 0) ∨ ∃ t : Nat, t < L ∧ e = .returned (.int .i64 t) ∧ x t ≠ 0 ∧ ∀ i, i < t → x i = 0) := by
  have HC := Lib.hid h
  have HA := Lib.hid hA
  clear h hA
  go_enter Try.func235, Try.ntmps235
  go_wp2_with fail
  go_loopw [5, 8] (fun _ i wr => w = wr ∧ ∃ j : Nat, j ≤ L ∧ i = .int .i64 j ∧ ∀ u : Nat, u < j → x u = 0) (fun _ i _ => L - (intOf i).toNat)
  case atStart => exact ⟨rfl, 0, Nat.zero_le _, rfl, fun u hu => absurd hu (Nat.not_lt_zero _)⟩
  case round =>
    obtain ⟨rfl, j, hj, rfl, hall⟩ := hrel
    have HALL := Lib.hid hall
    clear hall
    by_cases hlt : j < L
    · have hji : (j : Int) < (L : Int) := by omega
      obtain rfl := HA.out (by omega)
      have c1 := HC.out.row j hlt
      have HN := Lib.hid (ne1_c bc c n g (q j) (x j) w HC.out.col HC.out.lt (HC.out.num j hlt))
      obtain ⟨y, hy⟩ : ∃ y, x j = y := ⟨_, rfl⟩
      rw [hy] at HN
      have HY := Lib.hid hy
      clear hy
      by_cases hy0 : y = 0
      · have hb : (y != 0) = false := by simp [hy0]
        have HY0 := Lib.hid hy0
        rw [hb] at HN
        clear hy0 hb
        go_wp2_with (go_at_call 236; refine HN.out.mono ?_; rintro e w5 ⟨rfl, rfl⟩)
        go_roundw
        case rel => exact ⟨by simp, j + 1, by omega, by go_num, fun u hu => by
          by_cases e : u = j
          · subst e; rw [HY.out]; exact HY0.out
          · exact HALL.out u (by omega)⟩
        case measure => simp [intOf]; omega
      · have hb : (y != 0) = true := by simpa using hy0
        have HY0 := Lib.hid hy0
        rw [hb] at HN
        clear hy0 hb
        go_wp2_with (go_at_call 236; refine HN.out.mono ?_; rintro e w5 ⟨rfl, rfl⟩)
        go_ret
        exact ⟨by simp, .inr ⟨j, hlt, rfl, by rw [HY.out]; exact HY0.out, HALL.out⟩⟩
    · obtain rfl : j = L := by omega
      go_wp2_with fail
      go_ret
      exact ⟨by simp, .inl ⟨rfl, HALL.out⟩⟩
theorem idxR_no (bc c n gh K g L cap : Nat) (q : Nat → Nat) (x : Nat → Int) (w : World) (h : ColR w bc c n gh K g q x L) (hL : L ≤ 1000) (A : Option Addr) (hA : 0 < L → A = some ⟨gh, K, none⟩) (hz : ∀ i, i < L → x i = 0) :
    Calls Try.prog 235 #[.slice A L cap, .func (.func 236) #[] #[.pointer (some ⟨bc, 0, none⟩)]] w fun e w' => e = .returned (.int .i64 (-1)) ∧ w = w' :=
  (idxR_c bc c n gh K g L cap q x w h hL A hA).mono fun _ _ ⟨h1, h2⟩ => by
    rcases h2 with ⟨h3, _⟩ | ⟨t, ht, _, h4, _⟩
    · exact ⟨h3, h1⟩
    · exact absurd (hz t ht) h4
theorem idxR_yes (bc c n gh K g L cap t : Nat) (q : Nat → Nat) (x : Nat → Int) (w : World) (h : ColR w bc c n gh K g q x L) (hL : L ≤ 1000) (A : Option Addr) (hA : 0 < L → A = some ⟨gh, K, none⟩) (ht : t < L) (htz : x t ≠ 0) (hb : ∀ i, i < t → x i = 0) :
    Calls Try.prog 235 #[.slice A L cap, .func (.func 236) #[] #[.pointer (some ⟨bc, 0, none⟩)]] w fun e w' => e = .returned (.int .i64 (t : Int)) ∧ w = w' :=
  (idxR_c bc c n gh K g L cap q x w h hL A hA).mono fun _ _ ⟨h1, h2⟩ => by
    rcases h2 with ⟨_, h3⟩ | ⟨u, hu, h3, h4, h5⟩
    · exact absurd (h3 t ht) htz
    · have : u = t := by
        rcases Nat.lt_trichotomy u t with h | h | h
        · exact absurd (hb u h) h4
        · exact h
        · exact absurd (h5 t h) htz
      exact ⟨by rw [h3, this], h1⟩
end Go.Proofs.Ytdkpmaahinbhlaa
/- What (*impl.reducedMatrix).takeColumn does. No condition. -/
namespace Go.Proofs.Ytdkpmaahinbhlaa
open Go.RowKit

theorem box_int (w : World) (c : Int) : (w.alloc (.cells #[.int .i64 c] 3)).cell? ⟨w.heap.size, 0, none⟩ = some (.int .i64 c) := by
  rw [World.cell?_alloc_at _ _ _ _ rfl]; rfl
set_option maxHeartbeats 8000000 in
set_option maxRecDepth 100000 in
theorem take_c (B bs lo hi gh g m n c : Nat) (p : Nat → Nat) (f : Nat → Int) (Ap : Option Addr) (cp plo phi : Nat) (s : Red) (w : World) (h : RedI w B bs lo hi gh g m n p f Ap cp plo phi (pvI s) s.D)
    (hv : ∀ i, i < m → ∀ j, j < n → f (p i * n + j) = s.R i j) (hinj : InjP p m) (hS : RedS n m s c) (hc : c < n) (h9 : m ≤ 24) (hL : LimS n m s) (h12 : n ≤ 12) :
    Calls Try.prog 200 #[.pointer (some ⟨bs, 0, none⟩), .int .i64 (c : Int)] w fun e w' => e = .returned (.tuple #[]) ∧ ∃ p' f' Ap' cp' plo' phi',
      RedI w' B bs lo hi gh g m n p' f' Ap' cp' plo' phi' (pvI (s.take m c)) (s.take m c).D ∧ (∀ i, i < m → ∀ j, j < n → f' (p' i * n + j) = (s.take m c).R i j) ∧ InjP p' m ∧ Below B w w' := by
  have HS := Lib.hid hS
  have HLS := Lib.hid hL
  have HV := Lib.hid hv
  have HI := Lib.hid hinj
  have hle : (pvI s).length ≤ m := by rw [pvI_len]; exact hS.bar.le
  have HPL := Lib.hid (pvI_len s)
  clear hS hv hinj hL
  obtain ⟨ps, hps⟩ : ∃ ps, pvI s = ps := ⟨_, rfl⟩
  obtain ⟨D, hD⟩ : ∃ D, s.D = D := ⟨_, rfl⟩
  rw [hps, hD] at h
  rw [hps] at hle HPL
  have HPS := Lib.hid hps
  have HD := Lib.hid hD
  clear hps hD
  have hal := new_below w (.cells #[.int .i64 (c : Int)] 3)
  have HBA := Lib.hid (hal.mono (by have := h.low; have := h.bsz; omega : B ≤ w.heap.size))
  have HRA := Lib.hid (h.below hal)
  have HCB := Lib.hid (box_int w (c : Int))
  have HLOW := Lib.hid h.low
  have hbc : w.heap.size ≠ bs ∧ w.heap.size ≠ gh ∧ w.heap.size ≠ g := by
    have h1 := h.bsz
    have h2 := h.rows.hd
    have h3 := h.rows.nm
    have h4 := h.rows.top
    omega
  have hsz : (w.alloc (.cells #[.int .i64 (c : Int)] 3)).heap.size = w.heap.size + 1 := by simp
  have HSZ := Lib.hid hsz
  have HOLD := Lib.hid (show hi ≤ w.heap.size ∧ plo ≤ w.heap.size ∧ bs < w.heap.size ∧ phi ≤ w.heap.size from ⟨h.rows.top, h.ple, h.bsz, h.piv.1⟩)
  clear hal h hsz
  go_enter Try.func200, Try.ntmps200
  go_wp2_with fail
  generalize w.alloc (.cells #[.int .i64 (c : Int)] 3) = wA at *
  obtain ⟨bc, hbcE⟩ : ∃ bc, w.heap.size = bc := ⟨_, rfl⟩
  rw [hbcE] at hbc HCB ⊢
  have HBC := Lib.hid hbcE
  clear hbcE
  obtain ⟨b0, b1, b2, f0, f1, f2⟩ := Cel3.cells HRA.out.bx
  go_quiet (fail)
  have HB1 := Lib.hid (below_drewN wA.heap.size wA nq)
  have HR1 := Lib.hid (HRA.out.below HB1.out)
  have HBW := Lib.hid (HBA.out.trans (below_drewN B wA nq))
  have hcb : (wA.drewN nq).cell? ⟨bc, 0, none⟩ = some (.int .i64 (c : Int)) := (HB1.out.cell (p := ⟨bc, 0, none⟩) (by show bc < wA.heap.size; rw [HSZ.out, HBC.out]; omega)).trans HCB.out
  have hs1 : (wA.drewN nq).heap.size = bc + 1 := by
    have : (wA.drewN nq).heap.size = wA.heap.size := by simp
    rw [this, HSZ.out, HBC.out]
  have HSZ1 := Lib.hid hs1
  clear b0 b1 b2 f0 f1 f2 hs1
  generalize wA.drewN nq = w1 at *
  obtain ⟨b0, b1, b2, f0, f1, f2⟩ := Cel3.cells HR1.out.bx
  have hlei : (ps.length : Int) ≤ (m : Int) := by omega
  have HCOL := Lib.hid (show ColR w1 bc c n gh ps.length g (fun i => p (ps.length + i) * n) (fun i => s.R (ps.length + i) c) (m - ps.length) from ⟨hcb, hc, fun i hi => HR1.out.rows.head (by omega), fun i hi => by
    have hl : ps.length + i < m := by omega
    have := HR1.out.rows.num.cell (at_row (HR1.out.rows.per _ hl) hc)
    rw [HV.out _ hl c hc] at this
    exact this⟩)
  by_cases hfm : s.first m c < m
  · obtain ⟨t, hft⟩ : ∃ t, s.first m c = ps.length + t := ⟨s.first m c - ps.length, by have := (HS.out.first_nz hfm).2.1; have := HPL.out; omega⟩
    have HFI := Lib.hid hft
    have HFM := Lib.hid hfm
    have hF : ps.length + t < m := by omega
    have ht : t < m - ps.length := by omega
    have htz : s.R (ps.length + t) c ≠ 0 := by rw [← hft]; exact (HS.out.first_nz hfm).1
    have hbt : ∀ i, i < t → s.R (ps.length + i) c = 0 := fun i hi => by
      have := (fstI_spec (fun i => s.R i c != 0) (m - s.pv.length) s.pv.length).2.2.2 (ps.length + i) (by have := HPL.out; omega) (by show ps.length + i < s.first m c; omega)
      simpa using this
    have hKm : ¬ m = ps.length := by omega
    have hti : (t : Int) < ((m - ps.length : Nat) : Int) := by omega
    have h0i : (0 : Int) < ((m - ps.length : Nat) : Int) := by omega
    have hK : ps.length < m := by omega
    have ht0 : decide ((t : Int) < 0) = false := by simp
    have HTP := Lib.hid (Red.take_pv hfm)
    have HIX := Lib.hid (idxR_yes bc c n gh ps.length g (m - ps.length) (m - ps.length) t (fun i => p (ps.length + i) * n) (fun i => s.R (ps.length + i) c) w1 HCOL.out (by omega) (some ⟨gh, ps.length, none⟩) (fun _ => rfl) ht htz hbt)
    clear hft hfm htz hbt
    obtain ⟨wD, hwD⟩ : ∃ x, x = w1.drew := ⟨_, rfl⟩
    have HBD := Lib.hid (show Below w1.heap.size w1 wD by rw [hwD]; exact (Below.refl _ _).drew)
    have HRD := Lib.hid (HR1.out.below HBD.out)
    have hdF := HRD.out.rows.head hF
    have hdK := HRD.out.rows.head hK
    have fzF := World.ownsRow.frozenAt HRD.out.rows.row (ps.length + t)
    have fzK := World.ownsRow.frozenAt HRD.out.rows.row ps.length
    have hp1 := HRD.out.put hK (HRD.out.rows.per _ hF)
    have HP1 := Lib.hid hp1.2
    have HRP1 := Lib.hid hp1.1
    have hdF1 := HRP1.out.rows.head hF
    have fzF1 := World.ownsRow.frozenAt HRP1.out.rows.row (ps.length + t)
    have hp2 := HRP1.out.put hF (HRD.out.rows.per _ hK)
    have HP2 := Lib.hid hp2.2
    have HRP2 := Lib.hid hp2.1
    clear hp1 hp2
    go_wp2_with (go_at_call 235; refine HIX.out.mono ?_; rintro e w3 ⟨rfl, rfl⟩)
    clear b0 b1 b2 f0 f1 f2
    have HWD := Lib.hid hwD
    clear hwD
    refine (fun (rest : (?G : Prop)) => ?ways) ?rest
    case ways =>
      refine wp_region_held_drew (S := (fun _ => True)) (by kernel_rfl) ?_ (fun hHeld => ?_)
      · exact trivial
      rw [← HWD.out]
      refine wpAnyH_take (i := 0) (v := (.slice (some ⟨gh, ps.length, none⟩) (m - ps.length) (m - ps.length))) rfl (by kernel_rfl) (by kernel_rfl) (by kernel_rfl) (fun _ _ _ h => h) (Or.inl ⟨by kernel_rfl, fun w hSw => by (try dsimp only at hSw); go_simp; all_goals first | omega | exact IntWalk.i64_in _ (by omega)⟩) (by assumption) ?_
      refine wpAnyH_take (i := 1) (v := (.slice (some ⟨gh, ps.length, none⟩) (m - ps.length) (m - ps.length))) rfl (by kernel_rfl) (by kernel_rfl) (by kernel_rfl) (fun _ _ _ h => h) (Or.inl ⟨by kernel_rfl, fun w hSw => by (try dsimp only at hSw); go_simp; all_goals first | omega | exact IntWalk.i64_in _ (by omega)⟩) (by assumption) ?_
      refine wpAnyH_take (i := 2) (v := .int .i64 (t : Int)) rfl (by kernel_rfl) (by kernel_rfl) (by kernel_rfl) (fun _ _ _ h => h) (Or.inl ⟨by kernel_rfl, fun w hSw => by (try dsimp only at hSw); go_simp; all_goals first | omega | exact IntWalk.i64_in _ (by omega)⟩) (by assumption) ?_
      refine wpAnyH_take (i := 3) (v := (.slice (some ⟨gh, ps.length, none⟩) (m - ps.length) (m - ps.length))) rfl (by kernel_rfl) (by kernel_rfl) (by kernel_rfl) (fun _ _ _ h => h) (Or.inl ⟨by kernel_rfl, fun w hSw => by (try dsimp only at hSw); go_simp; all_goals first | omega | exact IntWalk.i64_in _ (by omega)⟩) (by assumption) ?_
      refine wpAnyH_take (i := 4) (v := .int .i64 (t : Int)) rfl (by kernel_rfl) (by kernel_rfl) (by kernel_rfl) (fun _ _ _ h => h) (Or.inl ⟨by kernel_rfl, fun w hSw => by (try dsimp only at hSw); go_simp; all_goals first | omega | exact IntWalk.i64_in _ (by omega)⟩) (by assumption) ?_
      refine wpAnyH_take (i := 5) (v := .pointer (some ⟨gh, ps.length + t, none⟩)) rfl (by kernel_rfl) (by kernel_rfl) (by kernel_rfl) (fun _ _ _ h => h) (Or.inl ⟨by kernel_rfl, fun w hSw => by (try dsimp only at hSw); go_simp; all_goals first | omega | exact IntWalk.i64_in _ (by omega)⟩) (by assumption) ?_
      refine wpAnyH_take (i := 7) (v := (.slice (some ⟨gh, ps.length, none⟩) (m - ps.length) (m - ps.length))) rfl (by kernel_rfl) (by kernel_rfl) (by kernel_rfl) (fun _ _ _ h => h) (Or.inl ⟨by kernel_rfl, fun w hSw => by (try dsimp only at hSw); go_simp; all_goals first | omega | exact IntWalk.i64_in _ (by omega)⟩) (by assumption) ?_
      refine wpAnyH_take (i := 8) (v := .pointer (some ⟨gh, ps.length, none⟩)) rfl (by kernel_rfl) (by kernel_rfl) (by kernel_rfl) (fun _ _ _ h => h) (Or.inl ⟨by kernel_rfl, fun w hSw => by (try dsimp only at hSw); go_simp; all_goals first | omega | exact IntWalk.i64_in _ (by omega)⟩) (by assumption) ?_
      refine wpAnyH_ready (rs := [6, 9]) (by kernel_rfl) (by simp) (AllReadyH.cons rfl (fun K hK => ?_) (AllReadyH.cons rfl (fun K hK => ?_) AllReadyH.nil))
      · go_simp
        refine hK _ _ trivial (fun hHeld => ?_)
        clear hK K
        refine wpAnyH_ready (rs := [9]) (by kernel_rfl) (by simp) (AllReadyH.cons rfl (fun K hK => ?_) AllReadyH.nil)
        go_simp
        refine hK _ _ trivial (fun hHeld => ?_)
        clear hK K
        refine wpAnyH_take (i := 10) (v := .pointer (some ⟨gh, ps.length, none⟩)) rfl (by kernel_rfl) (by kernel_rfl) (by kernel_rfl) (fun _ _ _ h => h) (Or.inl ⟨by kernel_rfl, fun w hSw => by (try dsimp only at hSw); go_simp; all_goals first | omega | exact IntWalk.i64_in _ (by omega)⟩) (by assumption) ?_
        refine wpAnyH_ready (rs := [11]) (by kernel_rfl) (by simp) (AllReadyH.cons rfl (fun K hK => ?_) AllReadyH.nil)
        go_simp
        refine hK _ _ trivial (fun hHeld => ?_)
        clear hK K
        refine wpAnyH_take (i := 12) (v := .pointer (some ⟨gh, ps.length + t, none⟩)) rfl (by kernel_rfl) (by kernel_rfl) (by kernel_rfl) (fun _ _ _ h => h) (Or.inl ⟨by kernel_rfl, fun w hSw => by (try dsimp only at hSw); go_simp; all_goals first | omega | exact IntWalk.i64_in _ (by omega)⟩) (by assumption) ?_
        refine wpAnyH_ready (rs := [13]) (by kernel_rfl) (by simp) (AllReadyH.cons rfl (fun K hK => ?_) AllReadyH.nil)
        go_simp
        refine hK _ _ trivial (fun hHeld => ?_)
        clear hK K
        refine wpAnyH_done (by kernel_rfl) ?_ _
        clear hHeld
        exact rest
      · go_simp
        refine hK _ _ trivial (fun hHeld => ?_)
        clear hK K
        refine wpAnyH_ready (rs := [6]) (by kernel_rfl) (by simp) (AllReadyH.cons rfl (fun K hK => ?_) AllReadyH.nil)
        go_simp
        refine hK _ _ trivial (fun hHeld => ?_)
        clear hK K
        refine wpAnyH_take (i := 10) (v := .pointer (some ⟨gh, ps.length, none⟩)) rfl (by kernel_rfl) (by kernel_rfl) (by kernel_rfl) (fun _ _ _ h => h) (Or.inl ⟨by kernel_rfl, fun w hSw => by (try dsimp only at hSw); go_simp; all_goals first | omega | exact IntWalk.i64_in _ (by omega)⟩) (by assumption) ?_
        refine wpAnyH_ready (rs := [11]) (by kernel_rfl) (by simp) (AllReadyH.cons rfl (fun K hK => ?_) AllReadyH.nil)
        go_simp
        refine hK _ _ trivial (fun hHeld => ?_)
        clear hK K
        refine wpAnyH_take (i := 12) (v := .pointer (some ⟨gh, ps.length + t, none⟩)) rfl (by kernel_rfl) (by kernel_rfl) (by kernel_rfl) (fun _ _ _ h => h) (Or.inl ⟨by kernel_rfl, fun w hSw => by (try dsimp only at hSw); go_simp; all_goals first | omega | exact IntWalk.i64_in _ (by omega)⟩) (by assumption) ?_
        refine wpAnyH_ready (rs := [13]) (by kernel_rfl) (by simp) (AllReadyH.cons rfl (fun K hK => ?_) AllReadyH.nil)
        go_simp
        refine hK _ _ trivial (fun hHeld => ?_)
        clear hK K
        refine wpAnyH_done (by kernel_rfl) ?_ _
        clear hHeld
        exact rest
    case rest =>
      have HSP := Lib.hid (show bs ≠ gh ∧ bs ≠ g ∧ bs ≠ bc by
        have h1 := HRP2.out.rows.hd
        have h2 := HRP2.out.rows.nm
        have h3 := HRP2.out.sep
        have h4 := hbc
        omega)
      have HV5 := Lib.hid (swap_at s.R f n m HV.out hK hF)
      have HI5 := Lib.hid (HI.out.swap hK hF)
      have HB5 := Lib.hid (show Below B w _ from within_on (within_on (HBW.out.trans (HBD.out.mono (by have := HSZ1.out; have := HOLD.out; have := HLOW.out; have := HBC.out; omega))) HP1.out (by have := HBD.out.size; have := HSZ1.out; have := HOLD.out; have := HLOW.out; have := HBC.out; omega) (.inl (by have := HRD.out.rows.hd; have := HLOW.out; omega))) HP2.out (by have := HP1.out.size; have := HBD.out.size; have := HSZ1.out; have := HOLD.out; have := HLOW.out; have := HBC.out; omega) (.inl (by have := HRD.out.rows.hd; have := HLOW.out; omega)))
      have hcb5 := (World.cell?_of_block (a := ⟨bc, 0, none⟩) (HP2.out.block bc (by have := HP1.out.size; have := HBD.out.size; have := HSZ1.out; omega) (by omega))).trans ((World.cell?_of_block (a := ⟨bc, 0, none⟩) (HP1.out.block bc (by have := HBD.out.size; have := HSZ1.out; omega) (by omega))).trans ((HBD.out.cell (p := ⟨bc, 0, none⟩) (by show bc < w1.heap.size; have := HSZ1.out; omega)).trans hcb))
      have HCB5 := Lib.hid hcb5
      have HSZ5 := Lib.hid (show bc < _ from Nat.lt_of_lt_of_le (by have := HSZ1.out; omega : bc < w1.heap.size) (Nat.le_trans HBD.out.size (Nat.le_trans HP1.out.size HP2.out.size)))
      clear hdF hdK fzF fzK hdF1 fzF1 hcb5 hcb HP1 HP2 HRP1 HRD
      obtain ⟨p5, hp5⟩ : ∃ q, updA (updA p ps.length (p (ps.length + t))) (ps.length + t) (p ps.length) = q := ⟨_, rfl⟩
      rw [hp5] at HRP2 HV5 HI5
      clear hp5
      generalize (wD.setCell ⟨gh, ps.length, none⟩ (.slice (some ⟨g, p (ps.length + t) * n, none⟩) n n)).setCell ⟨gh, ps.length + t, none⟩ (.slice (some ⟨g, p ps.length * n, none⟩) n n) = w5 at *
      obtain ⟨wE, hwE⟩ : ∃ x, x = w5.drew := ⟨_, rfl⟩
      have HBE := Lib.hid (show Below w5.heap.size w5 wE by rw [hwE]; exact (Below.refl _ _).drew)
      have HRE := Lib.hid (HRP2.out.below HBE.out)
      have HBWE := Lib.hid (show Below B w wE from HB5.out.trans (HBE.out.mono (by have := HSZ5.out; have := HBC.out; have := HOLD.out; have := HLOW.out; omega)))
      have HWE := Lib.hid hwE
      have HSZE := Lib.hid (show bc < wE.heap.size from Nat.lt_of_lt_of_le HSZ5.out HBE.out.size)
      have hK0 : ps.length < m := hK
      have hpk := HRE.out.rows.per _ hK
      obtain ⟨Q, hQ⟩ : ∃ Q, p5 ps.length * n = Q := ⟨_, rfl⟩
      have HQ0 := Lib.hid hQ
      obtain ⟨x, hx⟩ : ∃ x, s.R (ps.length + t) c = x := ⟨_, rfl⟩
      have HX := Lib.hid hx
      have HNUMF := Lib.hid (show f (Q + c) = x by
        rw [← hQ, HV5.out _ hK c hc, ← hx]
        unfold barSwap; rw [if_pos rfl])
      have HQN := Lib.hid (show Q + c < m * n by rw [← hQ]; exact at_row hpk hc)
      have HSE := Lib.hid (show wE.cell? ⟨bc, 0, none⟩ = some (.int .i64 (c : Int)) ∧ wE.cell? ⟨gh, ps.length, none⟩ = some (.slice (some ⟨g, Q, none⟩) n n) ∧ wE.cell? ⟨g, Q + c, none⟩ = some (.int .i64 x) from ⟨(HBE.out.cell (p := ⟨bc, 0, none⟩) HSZ5.out).trans HCB5.out, by have := HRE.out.rows.head hK; rw [hQ] at this; exact this, by have := HRE.out.rows.num.cell HQN.out; rw [HNUMF.out] at this; exact this⟩)
      have HAL := Lib.hid (new_below wE (.cells #[.int .i64 (c : Int)] 3))
      have HSA := Lib.hid (show (wE.alloc (.cells #[.int .i64 (c : Int)] 3)).cell? ⟨bc, 0, none⟩ = some (.int .i64 (c : Int)) ∧ (wE.alloc (.cells #[.int .i64 (c : Int)] 3)).cell? ⟨gh, ps.length, none⟩ = some (.slice (some ⟨g, Q, none⟩) n n) ∧ (wE.alloc (.cells #[.int .i64 (c : Int)] 3)).cell? ⟨g, Q + c, none⟩ = some (.int .i64 x) from ⟨(HAL.out.cell (p := ⟨bc, 0, none⟩) HSZE.out).trans HSE.out.1, (HAL.out.cell (p := ⟨gh, ps.length, none⟩) (by have := HRE.out.rows.hd; have := HRE.out.rows.top; show gh < wE.heap.size; omega)).trans HSE.out.2.1, (HAL.out.cell (p := ⟨g, Q + c, none⟩) (by have := HRE.out.rows.nm; have := HRE.out.rows.top; show g < wE.heap.size; omega)).trans HSE.out.2.2⟩)
      have HBX := Lib.hid (Cel3.cells HRE.out.bx)
      have HBXA := Lib.hid (Cel3.cells (Cel3.kept HRE.out.bx HAL.out))
      have b1 := HBX.out.2.1
      have b1a := HBXA.out.2.1
      have h0m : (0 : Int) < ((m - ps.length : Nat) : Int) := by omega
      have hcn : (c : Int) < (n : Int) := by omega
      clear hwE hQ hx
      go_wp2_with fail
      refine wp_region_held_drew (S := (fun W' : World => W'.cell? ⟨bc, 0, none⟩ = some (.int .i64 (c : Int)) ∧ W'.cell? ⟨gh, ps.length, none⟩ = some (.slice (some ⟨g, Q, none⟩) n n) ∧ W'.cell? ⟨g, Q + c, none⟩ = some (.int .i64 x))) (by kernel_rfl) ?_ (fun hHeld => ?_)
      · rw [← HWE.out]; exact HSE.out
      rw [← HWE.out] at hHeld ⊢
      refine wpAnyH_take (i := 0) (v := .pointer (some ⟨bs, 0, none⟩)) rfl (by kernel_rfl) (by kernel_rfl) (by kernel_rfl) (fun _ _ _ h => h) (Or.inl ⟨by kernel_rfl, fun w hSw => by (try dsimp only at hSw); go_simp; all_goals first | omega | exact IntWalk.i64_in _ (by omega)⟩) (by assumption) ?_
      refine wpAnyH_take (i := 1) (v := .pointer (some ⟨bs, 0, none⟩)) rfl (by kernel_rfl) (by kernel_rfl) (by kernel_rfl) (fun _ _ _ h => h) (Or.inl ⟨by kernel_rfl, fun w hSw => by (try dsimp only at hSw); go_simp; all_goals first | omega | exact IntWalk.i64_in _ (by omega)⟩) (by assumption) ?_
      refine wpAnyH_take (i := 2) (v := .pointer (some ⟨bs, 0, none⟩)) rfl (by kernel_rfl) (by kernel_rfl) (by kernel_rfl) (fun _ _ _ h => h) (Or.inl ⟨by kernel_rfl, fun w hSw => by (try dsimp only at hSw); go_simp; all_goals first | omega | exact IntWalk.i64_in _ (by omega)⟩) (by assumption) ?_
      refine wpAnyH_take (i := 3) (v := .pointer (some ⟨bs, 0, none⟩)) rfl (by kernel_rfl) (by kernel_rfl) (by kernel_rfl) (fun _ _ _ h => h) (Or.inl ⟨by kernel_rfl, fun w hSw => by (try dsimp only at hSw); go_simp; all_goals first | omega | exact IntWalk.i64_in _ (by omega)⟩) (by assumption) ?_
      refine wpAnyH_take (i := 4) (v := .pointer (some ⟨bs, 1, none⟩)) rfl (by kernel_rfl) (by kernel_rfl) (by kernel_rfl) (fun _ _ _ h => h) (Or.inl ⟨by kernel_rfl, fun w hSw => by (try dsimp only at hSw); go_simp; all_goals first | omega | exact IntWalk.i64_in _ (by omega)⟩) (by assumption) ?_
      refine wpAnyH_take (i := 6) (v := .int .i64 (c : Int)) rfl (by kernel_rfl) (by kernel_rfl) (by kernel_rfl) (fun _ _ _ h => h) (Or.inl ⟨by kernel_rfl, fun w hSw => by (try dsimp only at hSw); go_simp; all_goals first | omega | exact IntWalk.i64_in _ (by omega)⟩) (by assumption) ?_
      refine wpAnyH_take (i := 9) (v := .slice (some ⟨gh, ps.length, none⟩) (m - ps.length) (m - ps.length)) rfl (by kernel_rfl) (by kernel_rfl) (by kernel_rfl) (fun _ _ _ h => h) (Or.inl ⟨by kernel_rfl, fun w hSw => by (try dsimp only at hSw); go_simp; all_goals first | omega | exact IntWalk.i64_in _ (by omega)⟩) (by assumption) ?_
      refine wpAnyH_take (i := 10) (v := .pointer (some ⟨gh, ps.length, none⟩)) rfl (by kernel_rfl) (by kernel_rfl) (by kernel_rfl) (fun _ _ _ h => h) (Or.inl ⟨by kernel_rfl, fun w hSw => by (try dsimp only at hSw); go_simp; all_goals first | omega | exact IntWalk.i64_in _ (by omega)⟩) (by assumption) ?_
      refine wpAnyH_take (i := 11) (v := .slice (some ⟨g, Q, none⟩) n n) rfl (by kernel_rfl) (by kernel_rfl) (by kernel_rfl) (fun _ _ _ h => h) (Or.inl ⟨by kernel_rfl, fun w hSw => by (try dsimp only at hSw); go_simp; all_goals first | omega | exact IntWalk.i64_in _ (by omega)⟩) (by assumption) ?_
      refine wpAnyH_take (i := 12) (v := .int .i64 (c : Int)) rfl (by kernel_rfl) (by kernel_rfl) (by kernel_rfl) (fun _ _ _ h => h) (Or.inl ⟨by kernel_rfl, fun w hSw => by (try dsimp only at hSw); go_simp; all_goals first | omega | exact IntWalk.i64_in _ (by omega)⟩) (by assumption) ?_
      refine wpAnyH_take (i := 13) (v := .pointer (some ⟨g, Q + c, none⟩)) rfl (by kernel_rfl) (by kernel_rfl) (by kernel_rfl) (fun _ _ _ h => h) (Or.inl ⟨by kernel_rfl, fun w hSw => by (try dsimp only at hSw); go_simp; all_goals first | omega | exact IntWalk.i64_in _ (by omega)⟩) (by assumption) ?_
      refine wpAnyH_take (i := 14) (v := .int .i64 x) rfl (by kernel_rfl) (by kernel_rfl) (by kernel_rfl) (fun _ _ _ h => h) (Or.inl ⟨by kernel_rfl, fun w hSw => by (try dsimp only at hSw); go_simp; all_goals first | omega | exact IntWalk.i64_in _ (by omega)⟩) (by assumption) ?_
      refine (fun (rest2 : (?G2 : Prop)) => ?ways2) ?rest2
      case ways2 =>
        refine wpAnyH_ready (rs := [5, 7]) (by kernel_rfl) (by simp) (AllReadyH.cons rfl (fun K hK => ?_) (AllReadyH.cons rfl (fun K hK => ?_) AllReadyH.nil))
        · go_simp
          refine hK _ _ HSE.out (fun hHeld => ?_)
          clear hK K
          refine wpAnyH_ready (rs := [7]) (by kernel_rfl) (by simp) (AllReadyH.cons rfl (fun K hK => ?_) AllReadyH.nil)
          go_simp
          refine hK _ _ HSA.out (fun hHeld => ?_)
          clear hK K
          clear hHeld
          exact rest2
        · go_simp
          refine hK _ _ HSA.out (fun hHeld => ?_)
          clear hK K
          refine wpAnyH_ready (rs := [5]) (by kernel_rfl) (by simp) (AllReadyH.cons rfl (fun K hK => ?_) AllReadyH.nil)
          go_simp
          refine hK _ _ HSA.out (fun hHeld => ?_)
          clear hK K
          clear hHeld
          exact rest2
      case rest2 =>
        have hHeld := HSA.out
        refine wpAnyH_ready (rs := [8]) (by kernel_rfl) (by simp) (AllReadyH.cons rfl (fun K hK => ?_) AllReadyH.nil)
        refine step_pushZ wE (by rfl) _ _ (by rfl) plo phi Ap cp ps (c : Int) (by rfl) HRE.out.piv _ (by rfl) (by omega) HRE.out.ple ?_
        intro A6 c6 w16 lo6 hi6 hr6 hor6 hw6
        have HAP := Lib.hid (HRE.out.app hr6 hor6 hw6 x)
        have hcb6 : w16.cell? ⟨bc, 0, none⟩ = some (.int .i64 (c : Int)) := (World.cell?_of_block (a := ⟨bc, 0, none⟩) (hw6.block bc (by have := HSZE.out; omega) (by have := HOLD.out; have := HBC.out; omega))).trans HSE.out.1
        have HS6 := Lib.hid (show ∀ W' : World, Within bs (bs + 1) w16 W' → ((fun W' : World => W'.cell? ⟨bc, 0, none⟩ = some (.int .i64 (c : Int)) ∧ W'.cell? ⟨gh, ps.length, none⟩ = some (.slice (some ⟨g, Q, none⟩) n n) ∧ W'.cell? ⟨g, Q + c, none⟩ = some (.int .i64 x))) W' from fun W' hw => ⟨(World.cell?_of_block (a := ⟨bc, 0, none⟩) (hw.block bc (by have := hw6.size; have := HSZE.out; omega) (by omega))).trans hcb6, (World.cell?_of_block (a := ⟨gh, ps.length, none⟩) (hw.block gh (by have := HAP.out.2.1.hd; have := HAP.out.2.1.top; omega) (by have := HSP.out; omega))).trans (by have := HAP.out.2.1.head hK0; rw [HQ0.out] at this; exact this), (World.cell?_of_block (a := ⟨g, Q + c, none⟩) (hw.block g (by have := HAP.out.2.1.nm; have := HAP.out.2.1.top; omega) (by have := HSP.out; omega))).trans (by have := HAP.out.2.1.num.cell HQN.out; rw [HNUMF.out] at this; exact this)⟩)
        have HS60 := Lib.hid (HS6.out w16 (Within.refl _ _ _))
        have HS61 := Lib.hid (HS6.out _ (within_set w16 bs 1 (.slice A6 (ps.length + 1) c6)))
        have HS62 := Lib.hid (HS6.out _ ((within_set w16 bs 1 (.slice A6 (ps.length + 1) c6)).trans (within_set _ bs 2 (.int .i64 x))))
        obtain ⟨_, q1, q2, _, q4, q5⟩ := Cel3.cells HAP.out.1
        obtain ⟨_, _, q7, _, _, q8⟩ := Cel3.cells (Cel3.set1 HAP.out.1 (.slice A6 (ps.length + 1) c6))
        clear hr6 hor6 hw6 hcb6
        refine hK _ _ HS60.out (fun hHeld => ?_)
        clear hK K
        refine wpAnyH_take (i := 15) (v := .pointer (some ⟨bs, 0, none⟩)) rfl (by kernel_rfl) (by kernel_rfl) (by kernel_rfl) (fun _ _ _ h => h) (Or.inl ⟨by kernel_rfl, fun w hSw => by (try dsimp only at hSw); go_simp; all_goals first | omega | exact IntWalk.i64_in _ (by omega)⟩) (by assumption) ?_
        refine wpAnyH_take (i := 16) (v := .pointer (some ⟨bs, 1, none⟩)) rfl (by kernel_rfl) (by kernel_rfl) (by kernel_rfl) (fun _ _ _ h => h) (Or.inl ⟨by kernel_rfl, fun w hSw => by (try dsimp only at hSw); go_simp; all_goals first | omega | exact IntWalk.i64_in _ (by omega)⟩) (by assumption) ?_
        refine wpAnyH_ready (rs := [17]) (by kernel_rfl) (by simp) (AllReadyH.cons rfl (fun K hK => ?_) AllReadyH.nil)
        go_simp
        refine hK _ _ HS61.out (fun hHeld => ?_)
        clear hK K
        refine wpAnyH_take (i := 18) (v := .pointer (some ⟨bs, 0, none⟩)) rfl (by kernel_rfl) (by kernel_rfl) (by kernel_rfl) (fun _ _ _ h => h) (Or.inl ⟨by kernel_rfl, fun w hSw => by (try dsimp only at hSw); go_simp; all_goals first | omega | exact IntWalk.i64_in _ (by omega)⟩) (by assumption) ?_
        refine wpAnyH_take (i := 19) (v := .pointer (some ⟨bs, 2, none⟩)) rfl (by kernel_rfl) (by kernel_rfl) (by kernel_rfl) (fun _ _ _ h => h) (Or.inl ⟨by kernel_rfl, fun w hSw => by (try dsimp only at hSw); go_simp; all_goals first | omega | exact IntWalk.i64_in _ (by omega)⟩) (by assumption) ?_
        refine wpAnyH_ready (rs := [20]) (by kernel_rfl) (by simp) (AllReadyH.cons rfl (fun K hK => ?_) AllReadyH.nil)
        go_simp
        refine hK _ _ HS62.out (fun hHeld => ?_)
        clear hK K
        refine wpAnyH_done (by kernel_rfl) ?_ _
        have HRL := Lib.hid HAP.out.2.2.1
        have HBL := Lib.hid (show Below B w _ from HBWE.out.trans HAP.out.2.2.2)
        have HCL := Lib.hid HS62.out.1
        clear hHeld q1 q2 q4 q5 q7 q8 b1 b1a HS6 HS60 HS61 HS62 HAP HBX HBXA HSA HAL HSE HBWE HRE HBE HRP2 HB5
        generalize (w16.setCell ⟨bs, 1, none⟩ (.slice A6 (ps.length + 1) c6)).setCell ⟨bs, 2, none⟩ (.int .i64 x) = wL at *
        have HSPC := Lib.hid (show bc ≠ g from hbc.2.2)
        have HD0 := Lib.hid (show D ≠ 0 by rw [← HD.out]; exact HS.out.bar.nz)
        have HLIM := Lib.hid (fun (i : Nat) (hi : i < m) (j : Nat) (hj : j < n) => HLS.out.swap (a := s.pv.length) (by have := HPL.out; omega) hF hi hj)
        rw [← HPL.out] at HLIM
        have HTR := Lib.hid (show ∀ i j, (s.take m c).R i j = barStep (barSwap s.R ps.length (ps.length + t)) ps.length D c i j from fun i j => by
          unfold Red.take
          rw [if_pos (show s.first m c < m by rw [HFI.out]; exact hF), HFI.out, ← HPL.out, HD.out])
        have HTD := Lib.hid (show (s.take m c).D = x by rw [HTP.out.2, HFI.out]; exact HX.out)
        have HTV := Lib.hid (show pvI (s.take m c) = ps ++ [(c : Int)] by
          unfold pvI
          rw [HTP.out.1, List.map_append, ← HPS.out]; rfl)
        have HXR := Lib.hid (show x = barSwap s.R ps.length (ps.length + t) ps.length c by unfold barSwap; rw [if_pos rfl]; exact HX.out.symm)
        obtain ⟨R5, hR5⟩ : ∃ r, barSwap s.R ps.length (ps.length + t) = r := ⟨_, rfl⟩
        rw [hR5] at HV5 HLIM HTR HXR
        obtain ⟨RT, hRT⟩ : ∃ r, (s.take m c).R = r := ⟨_, rfl⟩
        rw [hRT] at HTR
        have HRT := Lib.hid hRT
        clear hR5 hRT
        obtain ⟨K, hKe⟩ : ∃ K, ps.length = K := ⟨_, rfl⟩
        rw [hKe] at HTR HXR hK0 hpk HQ0 h0m hKm ⊢
        have HKE := Lib.hid hKe
        have hKm2 : K < m := hK0
        obtain ⟨L0, hL0⟩ : ∃ L0, m - K = L0 := ⟨_, rfl⟩
        rw [hL0] at h0m ⊢
        have hl0 : 0 < L0 := by omega
        clear hL0 h0m
        clear hKe hlei hti h0i hF hK ht
        have hdz : ¬ D = 0 := HD0.out
        have hdz' : (D != 0) = true := by simpa using hdz
        obtain ⟨c0, c1, c2, g0, g1, g2⟩ := Cel3.cells HRL.out.bx
        go_wp2_with fail
        clear c0 c1 c2 g0 g1 g2
        go_loopw [8, 9, 68] (fun _ _ i wr => ∃ (u : Nat) (f3 : Nat → Int), u ≤ m ∧ i = .int .i64 u ∧ RedI wr B bs lo hi gh g m n p5 f3 A6 c6 lo6 hi6 (ps ++ [(c : Int)]) x ∧ (∀ i, i < m → ∀ j, j < n → f3 (p5 i * n + j) = if i < u then RT i j else R5 i j) ∧ wr.cell? ⟨bc, 0, none⟩ = some (.int .i64 (c : Int)) ∧ Below B w wr) (fun _ _ i _ => m - (intOf i).toNat)
        case atStart => exact ⟨0, f, by omega, rfl, HRL.out, fun i hi j hj => by rw [HV5.out i hi j hj, if_neg (by omega)], HCL.out, HBL.out⟩
        case round =>
          obtain ⟨u, f3, hu, rfl, hr3, hv3, hc3, hb3⟩ := hrel
          have HR3 := Lib.hid hr3
          have HV3 := Lib.hid hv3
          have HC3 := Lib.hid hc3
          have HB3 := Lib.hid hb3
          clear hr3 hv3 hc3 hb3
          by_cases hum : u < m
          · have hui : (u : Int) < (m : Int) := by omega
            have cu := HR3.out.rows.head hum
            by_cases huK : u = K
            · have hee : ((u : Int) == (K : Int)) = true := by simp [huK]
              have HUK := Lib.hid huK
              clear huK
              go_wp2_with fail
              go_roundw
              case rel => exact ⟨u + 1, f3, by omega, by go_num, HR3.out, fun i hi j hj => by
                rw [HV3.out i hi j hj]
                by_cases e : i < u
                · rw [if_pos e, if_pos (by omega)]
                · rw [if_neg e]
                  by_cases e2 : i = u
                  · rw [if_pos (by omega), HTR.out, barStep, if_pos (by rw [e2]; exact HUK.out), e2, HUK.out]
                  · rw [if_neg (by omega)], HC3.out, HB3.out⟩
              case measure => simp [intOf]; omega
            · have hee : ((u : Int) == (K : Int)) = false := by simp; omega
              have HUK := Lib.hid huK
              have hpu := HR3.out.rows.per _ hum
              have cy := HR3.out.rows.num.cell (at_row hpu hc)
              rw [HV3.out u hum c hc, if_neg (by omega)] at cy
              have hc3 := HC3.out
              have hy := HLIM.out u hum c hc
              obtain ⟨y, hyv⟩ : ∃ y, R5 u c = y := ⟨_, rfl⟩
              rw [hyv] at cy hy
              have HY := Lib.hid hyv
              obtain ⟨Pu, hPu⟩ : ∃ q, p5 u * n = q := ⟨_, rfl⟩
              rw [hPu] at cu cy
              have HPU := Lib.hid hPu
              clear hyv huK hPu
              obtain ⟨wq, hwq⟩ : ∃ v, v = wr := ⟨_, rfl⟩
              rw [← hwq] at HR3 HC3 HB3 cu cy hc3 ⊢
              clear hwq
              go_wp2_with fail
              clear cu cy hc3
              go_loopw [11, 82] (fun _ i wr2 => ∃ (v : Nat) (f4 : Nat → Int), v ≤ n ∧ i = .int .i64 v ∧ RedI wr2 B bs lo hi gh g m n p5 f4 A6 c6 lo6 hi6 (ps ++ [(c : Int)]) x ∧ (∀ i, i < m → ∀ j, j < n → f4 (p5 i * n + j) = if i < u then RT i j else if i = u then (if j < v then RT u j else R5 u j) else R5 i j) ∧ wr2.cell? ⟨bc, 0, none⟩ = some (.int .i64 (c : Int)) ∧ Below B w wr2) (fun _ i _ => n - (intOf i).toNat)
              case atStart => exact ⟨0, f3, by omega, rfl, HR3.out, fun i hi j hj => by
                rw [HV3.out i hi j hj]
                by_cases e : i < u
                · rw [if_pos e, if_pos e]
                · rw [if_neg e, if_neg e]
                  by_cases e2 : i = u
                  · rw [if_pos e2, if_neg (by omega), e2]
                  · rw [if_neg e2], HC3.out, HB3.out⟩
              case round =>
                obtain ⟨v, f4, hvn, rfl, hr4, hv4, hc4, hb4⟩ := hrel
                have HR4 := Lib.hid hr4
                have HV4 := Lib.hid hv4
                have HC4 := Lib.hid hc4
                have HB4 := Lib.hid hb4
                clear hr4 hv4 hc4 hb4
                by_cases hvl : v < n
                · have hvi : (v : Int) < (n : Int) := by omega
                  have hidx : Pu + v < m * n := by rw [← HPU.out]; exact at_row hpu hvl
                  have ca := HR4.out.rows.num.cell hidx
                  have cb := HR4.out.rows.num.cell (at_row hpk hvl)
                  have hfa : f4 (Pu + v) = R5 u v := by
                    rw [← HPU.out, HV4.out u hum v hvl, if_neg (by omega), if_pos rfl, if_neg (by omega)]
                  have hfb : f4 (p5 K * n + v) = R5 K v := by
                    rw [HV4.out K hKm2 v hvl]
                    by_cases e : K < u
                    · rw [if_pos e, HTR.out, barStep, if_pos rfl]
                    · rw [if_neg e, if_neg (fun h => HUK.out h.symm)]
                  rw [hfa] at ca
                  rw [hfb, HQ0.out] at cb
                  have ck := HR4.out.rows.head hKm2
                  rw [HQ0.out] at ck
                  obtain ⟨_, _, cx, _, _, _⟩ := Cel3.cells HR4.out.bx
                  have la := HLIM.out u hum v hvl
                  have lb := HLIM.out K hKm2 v hvl
                  have lx := HLIM.out K hKm2 c hc
                  rw [← HXR.out] at lx
                  have HQV := Lib.hid (show RT u v = Int.tdiv (R5 u v * x - R5 K v * y) D by
                    rw [HTR.out, barStep, if_neg HUK.out, ← HXR.out, HY.out])
                  obtain ⟨a, haE⟩ : ∃ a, R5 u v = a := ⟨_, rfl⟩
                  obtain ⟨b, hbE⟩ : ∃ b, R5 K v = b := ⟨_, rfl⟩
                  rw [haE] at ca la HQV
                  rw [hbE] at cb lb HQV
                  have m1 := mul_bd la lx
                  have m2 := mul_bd lb hy
                  obtain ⟨ax, hax⟩ : ∃ z, a * x = z := ⟨_, rfl⟩
                  obtain ⟨byy, hby⟩ : ∃ z, b * y = z := ⟨_, rfl⟩
                  rw [hax] at m1 HQV
                  rw [hby] at m2 HQV
                  have m1' : -18014398509481984 ≤ ax ∧ ax ≤ 18014398509481984 := m1
                  have m2' : -18014398509481984 ≤ byy ∧ byy ≤ 18014398509481984 := m2
                  have e1 : IntKind.i64.wrap (a * x) = ax := by rw [hax]; exact IntWalk.i64_in _ (by omega)
                  have e2 : IntKind.i64.wrap (b * y) = byy := by rw [hby]; exact IntWalk.i64_in _ (by omega)
                  obtain ⟨df, hdf⟩ : ∃ z, ax - byy = z := ⟨_, rfl⟩
                  rw [hdf] at HQV
                  have e3 : IntKind.i64.wrap (ax - byy) = df := by rw [hdf]; exact IntWalk.i64_in _ (by omega)
                  have hdfb : -36028797018963968 ≤ df ∧ df ≤ 36028797018963968 := by omega
                  have htd := tdiv_bd (x := df) (d := D)
                  obtain ⟨q, hq⟩ : ∃ z, Int.tdiv df D = z := ⟨_, rfl⟩
                  rw [hq] at HQV htd
                  have e4 : IntKind.i64.wrap (Int.tdiv df D) = q := by rw [hq]; exact IntWalk.i64_in _ (by omega)
                  have HR4D := Lib.hid (show RedI wr.drew B bs lo hi gh g m n p5 f4 A6 c6 lo6 hi6 (ps ++ [(c : Int)]) x from HR4.out.below (Below.refl _ _).drew)
                  have hst := HR4D.out.num hidx q
                  have HR5 := Lib.hid hst.1
                  have HC5 := Lib.hid (show (wr.drew.setCell ⟨g, Pu + v, none⟩ (.int .i64 q)).cell? ⟨bc, 0, none⟩ = some (.int .i64 (c : Int)) from (World.cell?_of_block (a := ⟨bc, 0, none⟩) (hst.2.block bc (World.block_lt_of_cell? wr _ HC4.out) (by have := HSPC.out; omega))).trans HC4.out)
                  have HB5 := Lib.hid (within_on HB4.out.drew hst.2 (by have := HLOW.out; have := HR4.out.bsz; have : wr.drew.heap.size = wr.heap.size := rfl; omega) (.inl (by have := HLOW.out; have := HR4.out.rows.nm; omega)))
                  clear hst haE hbE hax hby hdf hq hfa hfb m1 m2
                  go_wp2_with fail
                  go_still_tail 22, (by kernel_rfl)
                  change wpList _ _ _ _ _ wr.drew
                  have ca2 : wr.drew.cell? ⟨g, Pu + v, none⟩ = some (.int .i64 a) := ca
                  have fz2 := World.ownsRow.frozenAt HR4D.out.rows.num (Pu + v)
                  go_wp2_with fail
                  go_roundw
                  case rel => exact ⟨v + 1, _, by omega, by go_num, HR5.out, fun i hi j hj => by
                    by_cases e : p5 i * n + j = Pu + v
                    · rw [if_pos e]
                      rw [← HPU.out] at e
                      obtain ⟨ea, eb⟩ := at_inj hj hvl e
                      have ei := HI5.out i u hi hum ea
                      subst ei; subst eb
                      rw [if_neg (by omega), if_pos rfl, if_pos (by omega), HQV.out]
                    · rw [if_neg e, HV4.out i hi j hj]
                      by_cases e2 : i < u
                      · rw [if_pos e2, if_pos e2]
                      · rw [if_neg e2, if_neg e2]
                        by_cases e3 : i = u
                        · rw [if_pos e3, if_pos e3]
                          have hjv : j ≠ v := fun h => e (by rw [e3, h, HPU.out])
                          by_cases e4 : j < v
                          · rw [if_pos e4, if_pos (by omega)]
                          · rw [if_neg e4, if_neg (by omega)]
                        · rw [if_neg e3, if_neg e3], HC5.out, HB5.out⟩
                  case measure => simp [intOf]; omega
                · obtain rfl : v = n := by omega
                  go_wp2_with fail
                  go_roundw
                  case rel => exact ⟨u + 1, f4, by omega, by go_num, HR4.out, fun i hi j hj => by
                    rw [HV4.out i hi j hj]
                    by_cases e2 : i < u
                    · rw [if_pos e2, if_pos (by omega)]
                    · rw [if_neg e2]
                      by_cases e3 : i = u
                      · rw [if_pos e3, if_pos hj, if_pos (by omega), e3]
                      · rw [if_neg e3, if_neg (by omega)], HC4.out, HB4.out⟩
                  case measure => simp [intOf]; omega
          · obtain rfl : u = m := by omega
            go_wp2_with fail
            first | go_end0 | refine bodyPost_ret (results_none rfl _ _ _) rfl ?_
            rw [HTV.out, HTD.out, HRT.out]
            exact ⟨rfl, p5, f3, A6, c6, lo6, hi6, HR3.out, fun i hi j hj => by rw [HV3.out i hi j hj, if_pos hi], HI5.out, HB3.out⟩
  · have HFI := Lib.hid (show s.first m c = m by
      have := (fstI_spec (fun i => s.R i c != 0) (m - s.pv.length) s.pv.length).2.1
      have h2 : s.first m c ≤ s.pv.length + (m - s.pv.length) := this
      have := HPL.out
      omega)
    have HTK := Lib.hid (show s.take m c = s from Red.take_no hfm)
    have hz : ∀ i, i < m - ps.length → s.R (ps.length + i) c = 0 := fun i hi => by
      have := (fstI_spec (fun i => s.R i c != 0) (m - s.pv.length) s.pv.length).2.2.2 (ps.length + i) (by have := HPL.out; omega) (by show ps.length + i < s.first m c; rw [HFI.out]; omega)
      simpa using this
    clear hfm
    by_cases hKm : m = ps.length
    · subst hKm
      have HIX := Lib.hid (idxR_no bc c n gh ps.length g (ps.length - ps.length) (ps.length - ps.length) (fun i => p (ps.length + i) * n) (fun i => s.R (ps.length + i) c) w1 HCOL.out (by omega) (some ⟨gh, 0, none⟩) (fun hL => absurd hL (by omega)) hz)
      rw [Nat.sub_self] at HIX
      clear hz
      go_wp2_with (go_at_call 235; refine HIX.out.mono ?_; rintro e w3 ⟨rfl, rfl⟩)
      first | go_end0 | refine bodyPost_ret (results_none rfl _ _ _) rfl ?_
      rw [HTK.out, HPS.out, HD.out]
      exact ⟨rfl, p, f, Ap, cp, plo, phi, HR1.out, HV.out, HI.out, HBW.out⟩
    · have HIX := Lib.hid (idxR_no bc c n gh ps.length g (m - ps.length) (m - ps.length) (fun i => p (ps.length + i) * n) (fun i => s.R (ps.length + i) c) w1 HCOL.out (by omega) (some ⟨gh, ps.length, none⟩) (fun _ => rfl) hz)
      clear hz
      go_wp2_with (go_at_call 235; refine HIX.out.mono ?_; rintro e w3 ⟨rfl, rfl⟩)
      first | go_end0 | refine bodyPost_ret (results_none rfl _ _ _) rfl ?_
      rw [HTK.out, HPS.out, HD.out]
      exact ⟨rfl, p, f, Ap, cp, plo, phi, HR1.out, HV.out, HI.out, HBW.out⟩
end Go.Proofs.Ytdkpmaahinbhlaa
/- A copy of a row of ints into a part of a block of numbers. No condition. -/
namespace Go.Proofs.Ytdkpmaahinbhlaa
open Go.RowKit

theorem splice_F {N off n : Nat} {f : Nat → Int} {zs : List Int} (hl : zs.length = n) (hN : off + n ≤ N) :
    (intCells (rowF N f)).take off ++ (intCells zs ++ (intCells (rowF N f)).drop (off + n)) = intCells (rowF N fun i => if off ≤ i ∧ i < off + n then zs.getD (i - off) 0 else f i) := by
  have hL : (intCells (rowF N f)).length = N := by rw [intCells_len, rowF_len]
  have hz : (intCells zs).length = n := by rw [intCells_len, hl]
  apply List.ext_getElem?
  intro i
  by_cases hi : i < N
  · have h2 : (intCells (rowF N fun i => if off ≤ i ∧ i < off + n then zs.getD (i - off) 0 else f i))[i]? = some (.int .i64 (if off ≤ i ∧ i < off + n then zs.getD (i - off) 0 else f i)) := by
      rw [intCells_get _ i (by rw [rowF_len]; exact hi), rowF_getD hi]
    have h1 : (intCells (rowF N f))[i]? = some (.int .i64 (f i)) := by rw [intCells_get _ i (by rw [rowF_len]; exact hi), rowF_getD hi]
    rw [h2]
    by_cases e1 : i < off
    · rw [List.getElem?_append_left (by rw [List.length_take, hL]; omega), List.getElem?_take, if_pos e1, h1, if_neg (by omega)]
    · rw [List.getElem?_append_right (by rw [List.length_take, hL]; omega), List.length_take, hL, Nat.min_eq_left (by omega)]
      by_cases e2 : i < off + n
      · rw [List.getElem?_append_left (by rw [hz]; omega), intCells_get _ _ (by omega), if_pos (by omega)]
      · rw [List.getElem?_append_right (by rw [hz]; omega), hz, List.getElem?_drop, show off + n + (i - off - n) = i by omega, h1, if_neg (by omega)]
  · rw [List.getElem?_eq_none (by simp only [List.length_append, List.length_take, List.length_drop, hL, hz]; omega), List.getElem?_eq_none (by rw [intCells_len, rowF_len]; omega)]
theorem wpList_copyF {w : World} {ops : Array Oper} {rest : List Oper} {o : Oper} {a : Act} {Q : Exit → Act → World → Prop} (hgd : o.guard = none) (d s : Operand)
    (ho : o.op = .call { callee := .builtin .copy, args := #[d, s], argTypes := #[29, 29] }) (g off N n cd cs lo hi : Nat) (f : Nat → Int) (A : Option Addr) (zs : List Int) (hd : a.eval d = .slice (some ⟨g, off, none⟩) n cd) (hs : a.eval s = .slice A n cs)
    (hF : FlatAt w g N f) (hy : IntsIn w lo hi A zs) (hl : zs.length = n) (hn0 : 0 < n) (hN : off + n ≤ N)
    (h : ∀ w', FlatAt w' g N (fun i => if off ≤ i ∧ i < off + n then zs.getD (i - off) 0 else f i) → Within g (g + 1) w w' → wpList Try.prog ops Q rest (a.put o.dst (goInt n)) w') : wpList Try.prog ops Q (o :: rest) a w := by
  have hu := Try.underlying29
  have hsz : (Try.prog.info? 3).map (·.size) = some 1 := by kernel_rfl
  obtain ⟨b, bo, rfl, _, _, hc⟩ := hy.2 (by omega)
  rcases hF.2 with ⟨e0, _⟩ | ⟨g', cap', cur, e1, hg1, hheap, n1, n2, n3, n4⟩
  · cases e0
  · cases e1
    have hcl : (intCells zs).length = n := by rw [intCells_len, hl]
    have hcur : cur.toList = intCells (rowF N f) := by
      rw [← n4, Nat.mul_one]
      exact (List.take_of_length_le (by simp [n3])).symm
    have hcs : cur.size = N := by rw [n3, Nat.mul_one]
    refine wpList_copy_own hgd d s _ _ ho 3 hu hsz g off n cd ⟨b, bo, none⟩ n cs hd hs cur _ hheap (intCells zs) (by rw [hcl]; exact (Nat.min_self n).symm) ?_ (by rw [hcl, hcs]; exact hN) (intCells_one zs) ?_
    · intro j v hj
      have hjl : j < zs.length := by rw [hl, ← hcl]; exact (List.getElem?_eq_some_iff.1 hj).1
      have e := (hc j hjl).trans (intCells_get zs j hjl).symm
      rw [hj] at e
      have ha : (⟨b, bo, none⟩ : Addr).add j = ⟨b, bo + j, none⟩ := by unfold Addr.add; split <;> simp_all
      rw [ha]
      exact e
    · rw [hcl, hcur, splice_F hl hN]
      have hset := setRow_heap w g _ ((intCells (rowF N fun i => if off ≤ i ∧ i < off + n then zs.getD (i - off) 0 else f i)).toArray) _ _ hheap
      refine h _ ⟨by rw [intCells_len, rowF_len, Nat.mul_one], .inr ⟨g, N, _, rfl, hg1, hset, Nat.le_refl _, n2, ?_, ?_⟩⟩ ⟨rfl, rfl, rfl, ?_, fun k _ hd => setRow_other w g k _ (by omega)⟩
      · simp [intCells_len, rowF_len]
      · simp only [Nat.mul_one]
        exact List.take_of_length_le (by simp [intCells_len, rowF_len])
      · simp [World.setRow]
end Go.Proofs.Ytdkpmaahinbhlaa
/- The program's test of a matrix (impl.IsMatrix, isMatrixRow). No condition. -/
namespace Go.Proofs.Ytdkpmaahinbhlaa
open Go.RowKit

noncomputable def rowOkB (row : List Int) : Bool := @decide (RngP row row.length ∧ sqsP row row.length ≤ 64) (Classical.propDecidable _)
theorem rowOkB_yes {row : List Int} (h : RngP row row.length ∧ sqsP row row.length ≤ 64) : rowOkB row = true := by unfold rowOkB; exact @decide_eq_true _ (Classical.propDecidable _) h
theorem rowOkB_no {row : List Int} (h : ¬ (RngP row row.length ∧ sqsP row row.length ≤ 64)) : rowOkB row = false := by unfold rowOkB; exact @decide_eq_false _ (Classical.propDecidable _) h
set_option maxHeartbeats 2000000 in
set_option maxRecDepth 100000 in
theorem matRow_c (row : List Int) (A : Option Addr) (cap lo hi : Nat) (w : World) (hl : IntsIn w lo hi A row) (hn : row.length ≤ 12) :
    Calls Try.prog 154 #[.slice A row.length cap] w fun e w' => e = .returned (.bool (rowOkB row)) ∧ w = w' := by
  have HL := Lib.hid hl
  clear hl
  obtain ⟨bm, hbm⟩ : ∃ bm, rowOkB row = bm := ⟨_, rfl⟩
  rw [hbm]
  have HBM := Lib.hid hbm
  clear hbm
  go_enter Try.func154, Try.ntmps154
  go_wp2_with fail
  go_loopw [3, 5, 8] (fun s _ i wr => w = wr ∧ ∃ t : Nat, t ≤ row.length ∧ i = .int .i64 t ∧ s = .int .i64 (sqsP row t) ∧ RngP row t) (fun _ _ i _ => row.length - (intOf i).toNat)
  case atStart => exact ⟨rfl, 0, by omega, rfl, rfl, fun t ht => absurd ht (Nat.not_lt_zero t)⟩
  case round =>
    obtain ⟨rfl, t, ht, rfl, rfl, hg⟩ := hrel
    have HG := Lib.hid hg
    clear hg
    have hp := sqsP_pos row t
    have hq := sqsP_bd HG.out t (Nat.le_refl t)
    have HNX := Lib.hid (show sqsP row (t + 1) = sqsP row t + row.getD t 0 * row.getD t 0 from rfl)
    obtain ⟨y, hy⟩ : ∃ y, sqsP row t = y := ⟨_, rfl⟩
    rw [hy] at hp hq HNX ⊢
    have HY := Lib.hid hy
    clear hy
    by_cases htl : t < row.length
    · have hti : (t : Int) < (row.length : Int) := by omega
      obtain ⟨bi, oi, rfl, _, _, hc⟩ := HL.out.2 (by omega)
      have c2 := hc t htl
      clear hc
      obtain ⟨x, hxv⟩ : ∃ x, row.getD t 0 = x := ⟨_, rfl⟩
      rw [hxv] at c2 HNX
      have HXV := Lib.hid hxv
      clear hxv
      by_cases h1 : x < -8
      · have h1' : decide (x < -8) = true := by simpa using h1
        have hno : bm = false := by
          rw [← HBM.out]
          refine rowOkB_no fun h => ?_
          have := h.1 t htl
          rw [HXV.out] at this
          omega
        go_wp2_with fail
        go_ret
        exact ⟨by first | rfl | (rw [hno]; rfl), by simp⟩
      · have h1' : decide (x < -8) = false := by simpa using h1
        by_cases h2 : 8 < x
        · have h2' : decide (8 < x) = true := by simpa using h2
          have hno : bm = false := by
            rw [← HBM.out]
            refine rowOkB_no fun h => ?_
            have := h.1 t htl
            rw [HXV.out] at this
            omega
          go_wp2_with fail
          go_ret
          exact ⟨by first | rfl | (rw [hno]; rfl), by simp⟩
        · have h2' : decide (8 < x) = false := by simpa using h2
          have hx : -8 ≤ x ∧ x ≤ 8 := by omega
          have hsq := sq_bd hx
          have hsq0 := sq_pos x
          obtain ⟨z, hz⟩ : ∃ z, x * x = z := ⟨_, rfl⟩
          have hz1 : IntKind.i64.wrap (x * x) = z := by rw [hz]; exact IntWalk.i64_in _ (by omega)
          rw [hz] at hsq hsq0 HNX
          have HX := Lib.hid hx
          clear hz hx h1 h2
          go_wp2_with fail
          go_roundw
          case rel => exact ⟨by simp, t + 1, by omega, by go_num, by rw [HNX.out], fun u hu => by
            by_cases e : u = t
            · subst e; rw [HXV.out]; exact HX.out
            · exact HG.out u (by omega)⟩
          case measure => simp [intOf]; omega
    · obtain rfl : t = row.length := by omega
      have hv : bm = decide (y ≤ 64) := by
        rw [← HBM.out]
        by_cases h64 : y ≤ 64
        · rw [rowOkB_yes ⟨HG.out, by rw [HY.out]; exact h64⟩, decide_eq_true h64]
        · rw [rowOkB_no (fun h => h64 (by rw [← HY.out]; exact h.2)), decide_eq_false h64]
      go_wp2_with fail
      go_ret
      exact ⟨by first | rfl | (rw [hv]; rfl), by simp⟩

set_option maxHeartbeats 4000000 in
set_option maxRecDepth 100000 in
theorem implMat (m : List (List Int)) (A : Option Addr) (cap lo hi : Nat) (w : World) (hl : RowsIn w lo hi A m) (hn : m.length ≤ 1048576) (hr : ∀ k, k < m.length → (m.getD k []).length ≤ 1048576) :
    Calls Try.prog 64 #[.slice A m.length cap] w fun e w' => e = .returned (.bool (isMatB m)) ∧ w = w' := by
  obtain ⟨bm, hbm⟩ : ∃ bm, isMatB m = bm := ⟨_, rfl⟩
  rw [hbm]
  have HBM := Lib.hid hbm
  clear hbm
  by_cases h0 : m.length < 1
  · have hno : bm = false := by rw [← HBM.out]; exact isMatB_no fun h => by have := h.h0; omega
    have h0' : decide ((m.length : Int) < 1) = true := by simp; omega
    clear hl hr
    rw [hno]
    go_enter Try.func64, Try.ntmps64
    go_wp2_with fail
    go_ret
    exact ⟨rfl, rfl⟩
  · have h0' : decide ((m.length : Int) < 1) = false := by simp; omega
    by_cases h9 : m.length ≤ 9
    · have h9' : decide (9 < (m.length : Int)) = false := by simp; omega
      have HRR := Lib.hid hr
      obtain ⟨b, off, S, rfl, hbw, hc⟩ := rows_fn hl (by omega)
      have HC := Lib.hid hc
      clear hc hl hr
      have c0 := (HC.out 0 (by omega)).1
      rw [Nat.add_zero] at c0
      have hr0 := HRR.out 0 (by omega)
      obtain ⟨W, hW⟩ : ∃ W, (m.getD 0 []).length = W := ⟨_, rfl⟩
      rw [hW] at c0 hr0
      have HWD := Lib.hid (show widM m = W from hW)
      clear hW
      obtain ⟨⟨A0, cz⟩, hS0⟩ : ∃ s, S 0 = s := ⟨_, rfl⟩
      rw [hS0] at c0
      dsimp only at c0
      clear hS0
      have hmi : (0 : Int) < (m.length : Int) := by omega
      by_cases hw1 : W < 1
      · have hw1' : decide ((W : Int) < 1) = true := by simp; omega
        have hno : bm = false := by
          rw [← HBM.out]
          refine isMatB_no fun h => ?_
          have h1 := h.w1
          rw [HWD.out] at h1
          omega
        rw [hno]
        go_enter Try.func64, Try.ntmps64
        go_wp2_with fail
        go_ret
        exact ⟨rfl, rfl⟩
      · have hw1' : decide ((W : Int) < 1) = false := by simp; omega
        by_cases hw2 : 12 < W
        · have hw2' : decide (12 < (W : Int)) = true := by simp; omega
          have hno : bm = false := by
            rw [← HBM.out]
            refine isMatB_no fun h => ?_
            have h1 := h.w12
            rw [HWD.out] at h1
            omega
          rw [hno]
          go_enter Try.func64, Try.ntmps64
          go_wp2_with fail
          go_ret
          exact ⟨rfl, rfl⟩
        · have hw2' : decide (12 < (W : Int)) = false := by simp; omega
          go_enter Try.func64, Try.ntmps64
          go_wp2_with fail
          go_loopw [5, 26] (fun _ i wr => w = wr ∧ ∃ k : Nat, k ≤ m.length ∧ i = .int .i64 k ∧ ∀ u, u < k → (m.getD u []).length = W ∧ RngP (m.getD u []) W ∧ sqsP (m.getD u []) W ≤ 64) (fun _ i _ => m.length - (intOf i).toNat)
          case atStart => exact ⟨rfl, 0, by omega, rfl, fun t ht => absurd ht (Nat.not_lt_zero t)⟩
          case round =>
            obtain ⟨rfl, k, hk, rfl, hs⟩ := hrel
            have HS := Lib.hid hs
            clear hs
            by_cases hlt : k < m.length
            · have hki : (k : Int) < (m.length : Int) := by omega
              have c1 := (HC.out k hlt).1
              have HI := Lib.hid (HC.out k hlt).2
              have hrk := HRR.out k hlt
              obtain ⟨row, hrow⟩ : ∃ row, m.getD k [] = row := ⟨_, rfl⟩
              obtain ⟨⟨A', c'⟩, hSk⟩ : ∃ s, S k = s := ⟨_, rfl⟩
              rw [hrow] at c1 hrk HI
              rw [hSk] at c1 HI
              dsimp only at c1 HI
              have HROW := Lib.hid hrow
              clear hrow hSk
              by_cases hlw : row.length = W
              · have hne : ((row.length : Int) != (W : Int)) = false := by simp [hlw]
                have HRC := Lib.hid (matRow_c row A' c' lo hi w HI.out (by omega))
                have HLW := Lib.hid hlw
                clear hlw
                by_cases hok : RngP row row.length ∧ sqsP row row.length ≤ 64
                · have HOK := Lib.hid hok
                  rw [rowOkB_yes hok] at HRC
                  clear hok
                  go_wp2_with fail
                  refine HRC.out.mono ?_
                  rintro e w3 ⟨rfl, rfl⟩
                  go_wp2_with fail
                  go_roundw
                  case rel => exact ⟨by simp, k + 1, by omega, by go_num, fun u hu => by
                    by_cases e : u = k
                    · subst e; rw [HROW.out, ← HLW.out]; exact ⟨rfl, HOK.out⟩
                    · exact HS.out u (by omega)⟩
                  case measure => simp [intOf]; omega
                · have HOK := Lib.hid hok
                  rw [rowOkB_no hok] at HRC
                  clear hok
                  have hno : bm = false := by
                    rw [← HBM.out]
                    refine isMatB_no fun h => HOK.out ?_
                    have h1 := (h.row k hlt).2
                    have h2 := h.sq k hlt
                    rw [HROW.out, HWD.out, ← HLW.out] at h1 h2
                    exact ⟨h1, h2⟩
                  go_wp2_with fail
                  refine HRC.out.mono ?_
                  rintro e w3 ⟨rfl, rfl⟩
                  go_wp2_with fail
                  go_ret
                  exact ⟨by first | rfl | (rw [hno]; rfl), by simp⟩
              · have hne : ((row.length : Int) != (W : Int)) = true := by simp; omega
                have hno : bm = false := by
                  rw [← HBM.out]
                  refine isMatB_no fun h => hlw ?_
                  have := (h.row k hlt).1
                  rw [HROW.out, HWD.out] at this
                  exact this
                go_wp2_with fail
                go_ret
                exact ⟨by first | rfl | (rw [hno]; rfl), by simp⟩
            · obtain rfl : k = m.length := by omega
              have hyes : bm = true := by
                rw [← HBM.out]
                exact isMatB_yes ⟨by omega, h9, by rw [HWD.out]; omega, by rw [HWD.out]; omega, fun u hu => by rw [HWD.out]; exact ⟨(HS.out u hu).1, (HS.out u hu).2.1⟩, fun u hu => by rw [HWD.out]; exact (HS.out u hu).2.2⟩
              go_wp2_with fail
              go_ret
              exact ⟨by first | rfl | (rw [hyes]; rfl), by simp⟩
    · have h9' : decide (9 < (m.length : Int)) = true := by simp; omega
      have hno : bm = false := by rw [← HBM.out]; exact isMatB_no fun h => by have := h.h9; omega
      clear hl hr
      rw [hno]
      go_enter Try.func64, Try.ntmps64
      go_wp2_with fail
      go_ret
      exact ⟨rfl, rfl⟩
end Go.Proofs.Ytdkpmaahinbhlaa
/- What impl.reduceMatrix answers: the reduction, column by column. No condition. -/
namespace Go.Proofs.Ytdkpmaahinbhlaa
open Go.RowKit

set_option maxHeartbeats 8000000 in
set_option maxRecDepth 100000 in
theorem rdm_c (m : List (List Int)) (hM : MatQ m) (A : Option Addr) (cap lo hi : Nat) (w : World) (hl : RowsIn w lo hi A m) :
    Calls Try.prog 150 #[.slice A m.length cap] w fun e w' => ∃ gh g p f Ap cp plo phi lo2 hi2,
      e = .returned (.agg #[.slice (some ⟨gh, 0, none⟩) m.length m.length, .slice Ap (pvI (Red.run m.length (atM m) (widM m))).length cp, .int .i64 (Red.run m.length (atM m) (widM m)).D]) ∧
      RowsF w' lo2 hi2 gh g m.length (widM m) p f ∧ OwnR w' plo phi Ap cp (pvI (Red.run m.length (atM m) (widM m))) ∧ (∀ i, i < m.length → ∀ j, j < widM m → f (p i * widM m + j) = (Red.run m.length (atM m) (widM m)).R i j) ∧
      (w.heap.size ≤ lo2 ∧ w.heap.size ≤ plo) ∧ Below w.heap.size w w' := by
  obtain ⟨b, off, S0, rfl, hbw, hc⟩ := rows_fn hl hM.h0
  have HC := Lib.hid hc
  have h0 := hM.h0
  have h9 := hM.h9
  have h12 := hM.w12
  have hn1 := hM.w1
  have HRED := Lib.hid (fun (c : Nat) (h : c ≤ widM m) => hM.red h)
  have HLIM := Lib.hid (fun (c : Nat) (h : c ≤ widM m) => hM.limS h)
  have HROW := Lib.hid hM.row
  have hw0 := (hM.row 0 h0).1
  have hal := new_below w (.cells #[.slice none 0 0, .slice none 0 0, .int .i64 0] 142)
  have HBA := Lib.hid hal
  have HBR := Lib.hid (cel3_new w (.slice none 0 0) (.slice none 0 0) (.int .i64 0) 142)
  have hsz : (w.alloc (.cells #[.slice none 0 0, .slice none 0 0, .int .i64 0] 142)).heap.size = w.heap.size + 1 := by simp
  have HSZ := Lib.hid hsz
  have c0 := rows_cell hbw hc hal (i := 0) h0
  rw [Nat.add_zero, hw0] at c0
  clear hc hl hM hal hsz hw0
  obtain ⟨n, hn⟩ : ∃ n, widM m = n := ⟨_, rfl⟩
  have HN := Lib.hid hn
  rw [hn] at h12 HRED HLIM hn1 c0 ⊢
  obtain ⟨M, hMM⟩ : ∃ M, m.length = M := ⟨_, rfl⟩
  have HMM := Lib.hid hMM
  rw [hMM] at h0 h9 HRED HLIM ⊢
  obtain ⟨⟨A0, z0⟩, hS0⟩ : ∃ s, S0 0 = s := ⟨_, rfl⟩
  rw [hS0] at c0
  dsimp only at c0
  clear hn hMM hS0
  have hsl : (0 : Int) < (M : Int) := by omega
  go_enter Try.func150, Try.ntmps150
  go_wp2_with fail
  generalize w.alloc (.cells #[.slice none 0 0, .slice none 0 0, .int .i64 0] 142) = w0 at *
  refine (newRows_c M n w0 (by omega) (by omega) (by omega)).mono ?_
  rintro e w1 ⟨gh, g, rfl, hf, hb⟩
  have hal2 := new_below w1 (.cells #[.slice (some ⟨gh, 0, none⟩) M M, .slice none 0 0, .int .i64 1] 142)
  have HBS := Lib.hid (cel3_new w1 (.slice (some ⟨gh, 0, none⟩) M M) (.slice none 0 0) (.int .i64 1) 142)
  have hsz2 : (w1.alloc (.cells #[.slice (some ⟨gh, 0, none⟩) M M, .slice none 0 0, .int .i64 1] 142)).heap.size = w1.heap.size + 1 := by simp
  have HF2 := Lib.hid (hf.within (within_of hal2) (.inr (Nat.zero_le _)))
  have HB2 := Lib.hid (below_on hb hal2 hb.size)
  have hs1 := hb.size
  have HS1 := Lib.hid hs1
  have HR0 := Lib.hid (show RedI (w1.alloc (.cells #[.slice (some ⟨gh, 0, none⟩) M M, .slice none 0 0, .int .i64 1] 142)) w0.heap.size w1.heap.size w0.heap.size w1.heap.size gh g M n id (fun _ => 0) none 0 (w1.heap.size + 1) (w1.heap.size + 1) [] 1 from
    ⟨HBS.out, HF2.out, ownR_nil _ _ _ (by rw [hsz2]; exact Nat.le_refl _), by omega, by rw [hsz2]; exact Nat.le_refl _, by omega⟩)
  clear hf hb hal2 c0 hs1 hsz2
  go_wp2_with fail
  generalize w1.alloc (.cells #[.slice (some ⟨gh, 0, none⟩) M M, .slice none 0 0, .int .i64 1] 142) = w2 at *
  obtain ⟨bs, hbs⟩ : ∃ x, w1.heap.size = x := ⟨_, rfl⟩
  rw [hbs] at HR0 ⊢
  clear hbs HBS HF2
  go_loopw [5, 6, 19] (fun _ _ i wr => ∃ (k : Nat) (f : Nat → Int), k ≤ M ∧ i = .int .i64 k ∧ RedI wr w0.heap.size bs w0.heap.size bs gh g M n id f none 0 (bs + 1) (bs + 1) [] 1 ∧ Below w0.heap.size w0 wr ∧ ∀ i, i < k → ∀ j, j < n → f (i * n + j) = atM m i j) (fun _ _ i _ => M - (intOf i).toNat)
  case atStart => exact ⟨0, _, by omega, rfl, HR0.out, HB2.out, fun i hi => absurd hi (Nat.not_lt_zero i)⟩
  case round =>
    obtain ⟨k, f, hk, rfl, hr, hb, hv⟩ := hrel
    have HR := Lib.hid hr
    have HB := Lib.hid hb
    have HV := Lib.hid hv
    clear hr hb hv
    have HBW := Lib.hid (HBA.out.trans (HB.out.mono (by rw [HSZ.out]; omega)))
    by_cases hlt : k < M
    · have hki : (k : Int) < (M : Int) := by omega
      have hltm : k < m.length := by rw [HMM.out]; exact hlt
      have hrl := (HROW.out k hltm).1
      have c1 := rows_cell hbw HC.out HBW.out hltm
      rw [hrl, HN.out] at c1
      have hin := (HC.out k hltm).2.within (within_of HBW.out) (.inr (Nat.zero_le _))
      obtain ⟨⟨A', c'⟩, hSk⟩ : ∃ s, S0 k = s := ⟨_, rfl⟩
      rw [hSk] at c1 hin
      dsimp only at c1 hin
      have HIN := Lib.hid hin
      have HRL := Lib.hid (show (m.getD k []).length = n by rw [hrl, HN.out])
      obtain ⟨b0, b1, b2, q0, q1, q2⟩ := Cel3.cells HR.out.bx
      have ch := HR.out.rows.head hlt
      have hKN := Nat.mul_le_mul_right n (show k + 1 ≤ M from hlt)
      rw [Nat.add_mul, Nat.one_mul] at hKN
      have HKN := Lib.hid hKN
      have hid1 : id k * n = k * n := rfl
      rw [hid1] at ch
      obtain ⟨K, hK⟩ : ∃ K, k * n = K := ⟨_, rfl⟩
      rw [hK] at ch HKN
      have HK := Lib.hid hK
      clear hSk hin hrl hKN hid1 hK
      go_wp2_with (with_reducible refine wpList_copyF rfl _ _ rfl g K (M * n) n n c' lo hi f A' (m.getD k []) rfl rfl HR.out.rows.num HIN.out HRL.out (by omega) HKN.out ?_; intro w5 hf5 hw5; have HF5 := Lib.hid hf5; have HW5 := Lib.hid hw5; clear hf5 hw5)
      have hnm := HR.out.rows.nm
      have hsp := HR.out.sep
      have hR5 : RedI w5 w0.heap.size bs w0.heap.size bs gh g M n id (fun i => if K ≤ i ∧ i < K + n then (m.getD k []).getD (i - K) 0 else f i) none 0 (bs + 1) (bs + 1) [] 1 := by
        have hr := HR.out.rows
        have h1 := hr.hd
        have hne := hr.ne
        have ht := hr.top
        have hbz := HR.out.bsz
        refine ⟨Cel3.within HR.out.bx HW5.out (by omega), ⟨Nat.le_trans ht HW5.out.size, h1, hr.nm, hne, hr.per, own_blk hr.row (HW5.out.block gh (by omega) (by omega)), HF5.out⟩, HR.out.piv.within HW5.out (by omega), HR.out.low, Nat.le_trans HR.out.ple HW5.out.size, hsp⟩
      have HR5 := Lib.hid hR5
      have HB5 := Lib.hid (within_on HB.out HW5.out HB.out.size (.inl hnm.1))
      clear hR5
      go_roundw
      case rel => exact ⟨k + 1, _, by omega, by go_num, HR5.out, HB5.out, fun i hi j hj => by
        by_cases e : i = k
        · subst e
          rw [HK.out, if_pos (by omega), Nat.add_sub_cancel_left]; rfl
        · have h1 := HV.out i (by omega) j hj
          have h2 : i * n + j < k * n := at_row (by omega) hj
          rw [HK.out] at h2
          rw [if_neg (by omega)]
          exact h1⟩
      case measure => simp [intOf]; omega
    · obtain rfl : k = M := by omega
      have HR6 := Lib.hid (show ∃ p f Ap cp plo phi, RedI wr w0.heap.size bs w0.heap.size bs gh g k n p f Ap cp plo phi (pvI (Red.run k (atM m) 0)) (Red.run k (atM m) 0).D ∧ (∀ i, i < k → ∀ j, j < n → f (p i * n + j) = (Red.run k (atM m) 0).R i j) ∧ InjP p k from
        ⟨id, f, none, 0, bs + 1, bs + 1, HR.out, fun i hi j hj => HV.out i hi j hj, fun i j _ _ e => e⟩)
      clear HR HV HBW
      go_wp2_with fail
      go_loopw [7, 33] (fun _ i wr2 => ∃ c : Nat, c ≤ n ∧ i = .int .i64 c ∧ Below w0.heap.size w0 wr2 ∧ ∃ p f Ap cp plo phi, RedI wr2 w0.heap.size bs w0.heap.size bs gh g k n p f Ap cp plo phi (pvI (Red.run k (atM m) c)) (Red.run k (atM m) c).D ∧ (∀ i, i < k → ∀ j, j < n → f (p i * n + j) = (Red.run k (atM m) c).R i j) ∧ InjP p k) (fun _ i _ => n - (intOf i).toNat)
      case atStart => exact ⟨0, by omega, rfl, HB.out, HR6.out⟩
      case round =>
        clear HR6 HB
        obtain ⟨c, hc, rfl, hb, p, f, Ap, cp, plo, phi, hr, hv, hi⟩ := hrel
        have HB := Lib.hid hb
        have HR := Lib.hid hr
        have HV := Lib.hid hv
        have HI := Lib.hid hi
        clear hb hr hv hi
        by_cases hcn : c < n
        · have hci : (c : Int) < (n : Int) := by omega
          have HTK := Lib.hid (take_c w0.heap.size bs w0.heap.size bs gh g k n c p f Ap cp plo phi (Red.run k (atM m) c) wr HR.out HV.out HI.out (HRED.out c (by omega)) hcn h9 (HLIM.out c (by omega)) h12)
          go_wp2_with fail
          refine HTK.out.mono ?_
          rintro e w5 ⟨rfl, p', f', Ap', cp', plo', phi', hr', hv', hi', hb5⟩
          have HR5 := Lib.hid (show ∃ p f Ap cp plo phi, RedI w5 w0.heap.size bs w0.heap.size bs gh g k n p f Ap cp plo phi (pvI (Red.run k (atM m) (c + 1))) (Red.run k (atM m) (c + 1)).D ∧ (∀ i, i < k → ∀ j, j < n → f (p i * n + j) = (Red.run k (atM m) (c + 1)).R i j) ∧ InjP p k from ⟨p', f', Ap', cp', plo', phi', hr', hv', hi'⟩)
          have HB5 := Lib.hid (HB.out.trans hb5)
          clear hr' hv' hi' hb5
          go_wp2_with fail
          go_roundw
          case rel => exact ⟨c + 1, by omega, by go_num, HB5.out, HR5.out⟩
          case measure => simp [intOf]; omega
        · obtain rfl : c = n := by omega
          have HBW := Lib.hid (HBA.out.trans (HB.out.mono (by rw [HSZ.out]; omega)))
          have hbr := Cel3.kept HBR.out HB.out
          have hbs0 : w.heap.size < w0.heap.size := by rw [HSZ.out]; omega
          obtain ⟨PS, hPS⟩ : ∃ q, pvI (Red.run k (atM m) c) = q := ⟨_, rfl⟩
          obtain ⟨DD, hDD⟩ : ∃ q, (Red.run k (atM m) c).D = q := ⟨_, rfl⟩
          rw [hPS, hDD] at HR
          have HPS := Lib.hid hPS
          have HDD := Lib.hid hDD
          clear hPS hDD
          obtain ⟨b0, b1, b2, q0, q1, q2⟩ := Cel3.cells HR.out.bx
          obtain ⟨r0, r1, r2, t0, t1, t2⟩ := Cel3.cells hbr
          have h3 := ret3 hbr (.slice (some ⟨gh, 0, none⟩) k k) (.slice Ap PS.length cp) (.int .i64 DD)
          obtain ⟨s0, s1, s2, _⟩ := Cel3.cells h3.1
          have HW := Lib.hid h3.2
          clear h3 hbr
          go_wp2_with fail
          refine bodyPost_ret (v := .agg #[.slice (some ⟨gh, 0, none⟩) k k, .slice Ap PS.length cp, .int .i64 DD]) ?_ rfl ?_
          · simp [results, Try.results150, go_sem, s0, s1, s2]
          · have hl0 := HR.out.rows.hd
            have hl1 := HR.out.rows.nm
            have hlw := HR.out.low
            rw [HPS.out, HDD.out]
            exact ⟨gh, g, p, f, Ap, cp, plo, phi, w0.heap.size, bs, rfl, HR.out.rows.within HW.out (by omega), HR.out.piv.within HW.out (by omega), HV.out, by omega, within_on HBW.out HW.out HBW.out.size (.inl (Nat.le_refl _))⟩
end Go.Proofs.Ytdkpmaahinbhlaa
/- What impl.RankOfMatrix answers. No condition. -/
namespace Go.Proofs.Ytdkpmaahinbhlaa
open Go.RowKit

set_option maxRecDepth 100000 in
theorem field_pv (a : Value) (A : Option Addr) (n c : Nat) (d : Value) (w : World) : (Instr.field 142 (.agg #[a, .slice A n c, d]) 1).run Try.prog w = .ok (.slice A n c) w := by kernel_rfl
set_option maxHeartbeats 2000000 in
set_option maxRecDepth 100000 in
theorem implRkm (m : List (List Int)) (A : Option Addr) (cap lo hi : Nat) (w : World) (hl : RowsIn w lo hi A m) (hn : m.length ≤ 1048576) (hr : ∀ k, k < m.length → (m.getD k []).length ≤ 1048576) :
    Calls Try.prog 59 #[.slice A m.length cap] w fun e w' => e = .returned (.int .i64 (rkmV m)) ∧ Below w.heap.size w w' := by
  have HMAT := Lib.hid (implMat m A cap lo hi w hl hn hr)
  by_cases hM : MatP m
  · have HV := Lib.hid (show rkmV m = ((pvI (Red.run m.length (atM m) (widM m))).length : Int) from if_pos (isMatB_yes hM))
    rw [isMatB_yes hM] at HMAT
    have HRD := Lib.hid (rdm_c m hM.q A cap lo hi w hl)
    clear hl hr hM
    go_enter Try.func59, Try.ntmps59
    go_wp2_with fail
    refine HMAT.out.mono ?_
    rintro e w1 ⟨rfl, rfl⟩
    go_wp2_with fail
    refine HRD.out.mono ?_
    rintro e w2 ⟨gh, g, p, f, Ap, cp, plo, phi, lo2, hi2, rfl, _, _, _, _, hb2⟩
    have HB2 := Lib.hid hb2
    clear hb2
    have hfld := field_pv
    go_wp2_with fail
    go_ret
    exact ⟨by rw [HV.out]; rfl, HB2.out⟩
  · have HV := Lib.hid (show rkmV m = -1 from if_neg (by rw [isMatB_no hM]; decide))
    rw [isMatB_no hM] at HMAT
    clear hl hr hM
    go_enter Try.func59, Try.ntmps59
    go_wp2_with fail
    refine HMAT.out.mono ?_
    rintro e w1 ⟨rfl, rfl⟩
    go_wp2_with fail
    go_ret
    exact ⟨by rw [HV.out]; rfl, Below.refl _ _⟩
end Go.Proofs.Ytdkpmaahinbhlaa
/- What spec.l2Has answers. No condition. -/
namespace Go.Proofs.Ytdkpmaahinbhlaa
open Go.RowKit

set_option maxHeartbeats 1000000 in
set_option maxRecDepth 100000 in
theorem has_c (zs : List Int) (x : Int) (A : Option Addr) (cap lo hi : Nat) (w : World) (hl : IntsIn w lo hi A zs) (hn : zs.length ≤ 1048576) :
    Calls Try.prog 112 #[.slice A zs.length cap, .int .i64 x] w fun e w' => e = .returned (.bool (decide (x ∈ zs))) ∧ w = w' := by
  have HL := Lib.hid hl
  clear hl
  go_enter Try.func112, Try.ntmps112
  go_wp2_with fail
  go_loop [5] (fun i => ∃ k : Nat, k ≤ zs.length ∧ i = .int .i64 k ∧ ∀ j, j < k → zs.getD j 0 ≠ x) (fun i => zs.length - (intOf i).toNat)
  case atStart => exact ⟨0, by omega, rfl, fun j hj => absurd hj (by omega)⟩
  case round =>
    obtain ⟨k, hk, rfl, hall⟩ := hrel
    have HALL := Lib.hid hall
    clear hall
    by_cases hlt : k < zs.length
    · have hi : (k : Int) < (zs.length : Int) := by omega
      obtain ⟨b, off, rfl, _, _, hcell⟩ := HL.out.2 (by omega)
      have hc := hcell k hlt
      clear hcell
      have HM := Lib.hid (show zs.getD k 0 ∈ zs by
        have : zs.getD k 0 = zs[k] := by simp [List.getD, List.getElem?_eq_getElem hlt]
        rw [this]; exact List.getElem_mem hlt)
      obtain ⟨y, hy⟩ : ∃ y, zs.getD k 0 = y := ⟨_, rfl⟩
      rw [hy] at hc HM
      by_cases he : y = x
      · have he' : (y == x) = true := by simpa using he
        have HD := Lib.hid (show decide (x ∈ zs) = true by rw [← he]; exact decide_eq_true HM.out)
        clear he hy
        go_wp2_with fail
        go_ret
        exact ⟨by rw [HD.out]; rfl, rfl⟩
      · have he' : (y == x) = false := by simpa using he
        have HS := Lib.hid (show ∀ j, j < k + 1 → zs.getD j 0 ≠ x from fun j hj => by
          by_cases e : j = k
          · subst e; rw [hy]; exact he
          · exact HALL.out j (by omega))
        clear he hy
        go_wp2_with fail
        go_round
        case rel => exact ⟨k + 1, by omega, by go_num, HS.out⟩
        case measure => simp [intOf]; omega
    · obtain rfl : k = zs.length := by omega
      have HD := Lib.hid (show decide (x ∈ zs) = false by
        refine decide_eq_false fun hm => ?_
        obtain ⟨i, hi, e⟩ := List.getElem_of_mem hm
        refine HALL.out i hi ?_
        simpa [List.getD, List.getElem?_eq_getElem hi] using e)
      go_wp2_with fail
      go_ret
      exact ⟨by rw [HD.out]; rfl, rfl⟩
end Go.Proofs.Ytdkpmaahinbhlaa
/- What spec.NullspaceOf answers. No condition. -/
namespace Go.Proofs.Ytdkpmaahinbhlaa
open Go.RowKit

theorem rowsIn_widen' {W : World} {lo hi lo' hi' : Nat} {A : Option Addr} {rs : List (List Int)} (h : RowsIn W lo hi A rs) (h1 : lo' ≤ lo) (h2 : hi ≤ hi') (h3 : hi' ≤ W.heap.size) : RowsIn W lo' hi' A rs :=
  ⟨h3, fun hl => by
    obtain ⟨b, off, e, q1, q2, hc⟩ := h.2 hl
    exact ⟨b, off, e, by omega, by omega, fun k hk => by
      obtain ⟨A', c', p1, p2⟩ := hc k hk
      exact ⟨A', c', p1, p2.widen h1 h2 h3⟩⟩⟩
theorem ints_kept {W W' : World} {lo hi : Nat} {A : Option Addr} {zs : List Int} (h : IntsIn W lo hi A zs) (hs : W.heap.size ≤ W'.heap.size) (hk : ∀ b, lo ≤ b → b < hi → W'.heap[b]? = W.heap[b]?) : IntsIn W' lo hi A zs :=
  ⟨Nat.le_trans h.1 hs, fun hl => by
    obtain ⟨b, off, e, h1, h2, hc⟩ := h.2 hl
    exact ⟨b, off, e, h1, h2, fun k hk' => (World.cell?_of_block (a := ⟨b, off + k, none⟩) (hk b h1 h2)).trans (hc k hk')⟩⟩
/-- The rows stand where nothing from their first block on changed. -/
theorem RedW.kept {W W' : World} {B gh cap m n : Nat} {S : Nat → Option Addr × Nat} {P : Nat → List Int} {Ac : Option Addr} {cc clo chi : Nat} {cs : List Int} (h : RedW W B gh cap m n S P Ac cc clo chi cs) (hs : W.heap.size ≤ W'.heap.size)
    (hk : ∀ b, B ≤ b → b < W.heap.size → W'.heap[b]? = W.heap[b]?) : RedW W' B gh cap m n S P Ac cc clo chi cs := by
  have hl := h.lt
  have hb := h.bnd
  refine ⟨own_blk h.own (hk gh hl.1 hl.2), fun i hi => ?_, ?_, h.sep, h.bnd.1, Nat.le_trans h.bnd.2 hs⟩
  · obtain ⟨h1, r, h2, h3, h4⟩ := h.row i hi
    have h5 := h2.1
    exact ⟨h1, r, ints_kept h2 hs fun b q1 q2 => hk b (by omega) (by omega), h3, h4⟩
  · have h5 := h.col.1
    refine ⟨Nat.le_trans h5 hs, ?_⟩
    rcases h.col.2 with q | ⟨g, e, q1, q2, q3⟩
    · exact .inl q
    · exact .inr ⟨g, e, q1, q2, own_blk q3 (hk g (by omega) (by omega))⟩
theorem flat_store {W : World} {g N : Nat} {f : Nat → Int} (r : FlatAt W g N f) {t : Nat} (ht : t < N) (x : Int) :
    FlatAt (W.setCell ⟨g, t, none⟩ (.int .i64 x)) g N (fun s => if s = t then x else f s) ∧ Within g (g + 1) W (W.setCell ⟨g, t, none⟩ (.int .i64 x)) := by
  have hst := World.ownsRow.stored r t (.int .i64 x)
  refine ⟨?_, ⟨hst.2.os, hst.2.tape, hst.2.output, hst.2.size, fun i hi' hd' => hst.2.block i hi' (by simp; omega)⟩⟩
  have := hst.1
  rw [rowF_set ht] at this
  exact this
theorem flat_ints {W : World} {g n lo hi : Nat} {f : Nat → Int} (h : FlatAt W g n f) (h1 : lo ≤ g) (h2 : g < hi) (h3 : hi ≤ W.heap.size) : IntsIn W lo hi (some ⟨g, 0, none⟩) (rowF n f) := by
  have := h.ints (off := 0) (n := n) (by omega) h1 h2 h3
  rw [show (fun j => f (0 + j)) = f from funext fun j => by rw [Nat.zero_add]] at this
  exact this
theorem nullE_succ (n : Nat) (s : Red) (free d t j : Nat) : nullE n s free d (t + 1) j = if j = free then (d : Int) else if s.pv.getD t 0 = j then -(Int.tdiv (pcell n s t free * d) (pcell n s t (s.pv.getD t 0))) else nullE n s free d t j := by
  show (if j = free then _ else _) = _
  rfl
theorem nullE_free (n : Nat) (s : Red) (free d t : Nat) : nullE n s free d t free = d := by
  unfold nullE; rw [if_pos rfl]
/-- Nothing from B to E changed. -/
def Kept (B E : Nat) (W W' : World) : Prop := E ≤ W.heap.size ∧ W.heap.size ≤ W'.heap.size ∧ ∀ b, B ≤ b → b < E → W'.heap[b]? = W.heap[b]?
theorem Kept.within {B E lo hi : Nat} {W V V' : World} (h : Kept B E W V) (hw : Within lo hi V V') (hd : hi ≤ B ∨ E ≤ lo) : Kept B E W V' :=
  ⟨h.1, Nat.le_trans h.2.1 hw.size, fun b h1 h2 => (hw.block b (by have := h.1; have := h.2.1; omega) (by omega)).trans (h.2.2 b h1 h2)⟩
theorem Kept.below {B E : Nat} {W V V' : World} (h : Kept B E W V) (hb : Below V.heap.size V V') : Kept B E W V' :=
  ⟨h.1, Nat.le_trans h.2.1 hb.size, fun b h1 h2 => (hb.block b (by have := h.1; have := h.2.1; omega)).trans (h.2.2 b h1 h2)⟩

set_option maxHeartbeats 8000000 in
set_option maxRecDepth 100000 in
theorem null_c (m : List (List Int)) (hM : MatQ m) (A : Option Addr) (cap lo hi : Nat) (w : World) (hl : RowsIn w lo hi A m) :
    Calls Try.prog 153 #[.slice A m.length cap, .int .i64 (widM m : Int)] w fun e w' => ∃ A' c', e = .returned (.slice A' (nulK (widM m) (Red.run m.length (atM m) (widM m)) (widM m)).length c') ∧
      RowsIn w' w.heap.size w'.heap.size A' (nulK (widM m) (Red.run m.length (atM m) (widM m)) (widM m)) ∧ Below w.heap.size w w' := by
  have HL := Lib.hid hl
  have h0 := hM.h0
  have h9 := hM.h9
  have h12 := hM.w12
  have hS := hM.red (c := widM m) (Nat.le_refl _)
  have hL := hM.limS (c := widM m) (Nat.le_refl _)
  have HRD := Lib.hid (fun (W : World) (h : RowsIn W lo hi A m) => rdc_c m hM A cap lo hi W h)
  clear hl hM
  obtain ⟨n, hn⟩ : ∃ n, widM m = n := ⟨_, rfl⟩
  rw [hn] at h12 hS hL HRD ⊢
  obtain ⟨M, hMM⟩ : ∃ M, m.length = M := ⟨_, rfl⟩
  rw [hMM] at h0 h9 hS hL HRD ⊢
  obtain ⟨s, hs⟩ : ∃ s, Red.run M (atM m) n = s := ⟨_, rfl⟩
  rw [hs] at hS hL HRD ⊢
  have HS := Lib.hid hS
  have HLS := Lib.hid hL
  have HPL := Lib.hid (pvI_len s)
  have hkm : (pvI s).length ≤ M := by rw [pvI_len]; exact hS.bar.le
  clear hn hMM hs hS hL
  have HAL := Lib.hid (new_below w (.cells #[] 29))
  have HG0 := Lib.hid (RowsG.made w)
  have HSZ := Lib.hid (show (w.alloc (.cells #[] 29)).heap.size = w.heap.size + 1 by simp)
  go_enter Try.func153, Try.ntmps153
  go_wp2_with fail
  generalize w.alloc (.cells #[] 29) = wA at *
  refine (HRD.out _ (rsIn_below HL.out HAL.out)).mono ?_
  rintro e w2 ⟨gh, c1, S, Ac, cc, clo, chi, rfl, hR, hb2⟩
  have HR2 := Lib.hid hR
  have HB2 := Lib.hid (below_on HAL.out hb2 HAL.out.size)
  have HG2 := Lib.hid (HG0.out.below hb2)
  have hsz2 := hb2.size
  have HSZ2 := Lib.hid hsz2
  obtain ⟨cs, hcs⟩ : ∃ cs, pvI s = cs := ⟨_, rfl⟩
  rw [hcs] at HR2 HPL hkm ⊢
  have HCS := Lib.hid hcs
  clear hR hb2 hcs hsz2
  go_wp2_with fail
  go_loopw [5, 8] (fun o i w' => ∃ (k T lo2 hi2 : Nat) (A' : Option Addr) (c' : Nat), k ≤ n ∧ i = .int .i64 k ∧ o = .slice A' (nulK n s k).length c' ∧ RowsG w' w.heap.size T lo2 hi2 A' c' (nulK n s k) ∧ Below w.heap.size w w' ∧ Kept wA.heap.size w2.heap.size w2 w' ∧ (hi2 ≤ wA.heap.size ∨ w2.heap.size ≤ lo2)) (fun _ i _ => n - (intOf i).toNat)
  case atStart => exact ⟨0, _, _, _, _, _, Nat.zero_le _, rfl, rfl, HG2.out, HB2.out, ⟨Nat.le_refl _, Nat.le_refl _, fun _ _ _ => rfl⟩, .inl (by rw [HSZ.out]; exact Nat.le_refl _)⟩
  case round =>
    obtain ⟨k, T, lo2, hi2, A2, c2, hk, rfl, rfl, hrg, hb, hkp, hsd⟩ := hrel
    have HRG := Lib.hid hrg
    have HB := Lib.hid hb
    have HKP := Lib.hid hkp
    have HSD := Lib.hid hsd
    have HR := Lib.hid (HR2.out.kept hkp.2.1 hkp.2.2)
    clear hrg hb hkp hsd
    by_cases hkn : k < n
    · have hki : (k : Int) < (n : Int) := by omega
      have HNK := Lib.hid (show nulK n s (k + 1) = if (k : Int) ∈ pvI s then nulK n s k else nulK n s k ++ [nullV n s k] from rfl)
      rw [HCS.out] at HNK
      have HLK := Lib.hid (nulK_len n s k)
      obtain ⟨os, hos⟩ : ∃ os, nulK n s k = os := ⟨_, rfl⟩
      rw [hos] at HRG HNK HLK ⊢
      clear hos
      have HHC := Lib.hid (has_c cs (k : Int) Ac cc clo chi wr HR.out.col.ints.reads (by omega))
      by_cases hin : (k : Int) ∈ cs
      · rw [decide_eq_true hin] at HHC
        have HN := Lib.hid (show nulK n s (k + 1) = os by rw [HNK.out, if_pos hin])
        clear hin
        go_wp2_with fail
        refine HHC.out.mono ?_
        rintro e w5 ⟨rfl, rfl⟩
        go_wp2_with fail
        go_roundw
        case rel => exact ⟨k + 1, T, lo2, hi2, A2, c2, by omega, by go_num, by rw [HN.out], by rw [HN.out]; exact HRG.out, HB.out, HKP.out, HSD.out⟩
        case measure => simp [intOf]; omega
      · rw [decide_eq_false hin] at HHC
        have HN := Lib.hid (show nulK n s (k + 1) = os ++ [nullV n s k] by rw [HNK.out, if_neg hin])
        have HNF := Lib.hid (show ∀ t, t < cs.length → s.pv.getD t 0 ≠ k from fun t ht e => hin (by rw [← HCS.out]; exact pv_mem.2 ⟨t, by rw [← HPL.out]; exact ht, e⟩))
        clear hin
        obtain ⟨wq, hwq⟩ : ∃ x, x = wr := ⟨_, rfl⟩
        rw [← hwq] at HHC HRG HB HKP HR ⊢
        clear hwq
        go_wp2_with fail
        refine HHC.out.mono ?_
        rintro e w5 ⟨rfl, rfl⟩
        go_wp2_with fail
        go_loopw [9, 10] (fun d i w' => ∃ t : Nat, t ≤ cs.length ∧ i = .int .i64 t ∧ d = .int .i64 (nullD n s k t) ∧ Below wq.heap.size wq w') (fun _ i _ => cs.length - (intOf i).toNat)
        case atStart => exact ⟨0, by omega, rfl, rfl, Below.refl _ _⟩
        case round =>
          obtain ⟨t, ht, rfl, rfl, hb5⟩ := hrel
          have HB5 := Lib.hid hb5
          have HR5 := Lib.hid (HR.out.below hb5)
          clear hb5
          have hdl := HS.out.nullD_le (Nat.le_refl n) HLS.out hkn (t := t) (by have := HPL.out; omega)
          by_cases htc : t < cs.length
          · have hti : (t : Int) < (cs.length : Int) := by omega
            have htp : t < s.pv.length := by have := HPL.out; omega
            have htM : t < M := by omega
            have htMi : (t : Int) < (M : Int) := by omega
            have hct := (HS.out.pv_lt htp).1
            have hc1 := HR5.out.head htM
            obtain ⟨bi, oi, e1, hp1⟩ := HR5.out.num htM hct
            obtain ⟨bi2, oi2, e2, hp2⟩ := HR5.out.num htM hkn
            rw [e1] at e2
            injection e2 with e2
            injection e2 with e2 e3
            subst e2 e3
            obtain ⟨⟨A3, c3⟩, hSt⟩ : ∃ q, S t = q := ⟨_, rfl⟩
            rw [hSt] at hc1 e1
            dsimp only at hc1 e1
            subst e1
            have hp1' : wr.cell? ⟨bi, oi + s.pv.getD t 0, none⟩ = some (.int .i64 (pcell n s t (s.pv.getD t 0))) := hp1
            have hp2' : wr.cell? ⟨bi, oi + k, none⟩ = some (.int .i64 (pcell n s t k)) := hp2
            have hcr := HR5.out.col.ints.reads
            obtain ⟨bc, oc, rfl, _, _, hcc⟩ := hcr.2 (by omega)
            have hcv := hcc t htc
            have hgv : cs.getD t 0 = ((s.pv.getD t 0 : Nat) : Int) := by rw [← HCS.out]; exact pvI_get htp
            rw [hgv] at hcv
            have lp := pcell_lim HS.out HLS.out (i := t) (j := s.pv.getD t 0) htM hct
            have lf := pcell_lim HS.out HLS.out (i := t) (j := k) htM hkn
            have hnz := HS.out.pnz (Nat.le_refl n) htp
            have hql := HS.out.nullQ_le (Nat.le_refl n) HLS.out hkn htp
            have hdl2 := HS.out.nullD_le (Nat.le_refl n) HLS.out hkn (t := t + 1) (by omega)
            have HQ := Lib.hid (show nullQ n s k t = (pcell n s t (s.pv.getD t 0)).natAbs / Nat.gcd (pcell n s t (s.pv.getD t 0)).natAbs (pcell n s t k).natAbs from rfl)
            have HDN := Lib.hid (show nullD n s k (t + 1) = Nat.lcm (nullD n s k t) (nullQ n s k t) from rfl)
            obtain ⟨ct, hctE⟩ : ∃ c, s.pv.getD t 0 = c := ⟨_, rfl⟩
            rw [hctE] at hct hp1' hcv lp hnz HQ
            obtain ⟨pc, hpc⟩ : ∃ x, pcell n s t ct = x := ⟨_, rfl⟩
            obtain ⟨pf, hpf⟩ : ∃ x, pcell n s t k = x := ⟨_, rfl⟩
            obtain ⟨d, hd⟩ : ∃ x, nullD n s k t = x := ⟨_, rfl⟩
            obtain ⟨q, hq⟩ : ∃ x, nullQ n s k t = x := ⟨_, rfl⟩
            obtain ⟨d', hd'⟩ : ∃ x, nullD n s k (t + 1) = x := ⟨_, rfl⟩
            rw [hpc] at hp1' lp hnz HQ
            rw [hpf] at hp2' lf HQ
            rw [hd] at hdl HDN ⊢
            rw [hq] at hql HQ HDN
            rw [hd'] at hdl2 HDN
            have HD' := Lib.hid hd'
            obtain ⟨a, ha⟩ : ∃ x, pc.natAbs = x := ⟨_, rfl⟩
            rw [ha] at HQ
            have hmx : max pc (-pc) = (a : Int) := by omega
            have hal : 0 < a ∧ a ≤ 134217728 := by omega
            have HG1 := Lib.hid (fun W : World => specGcd (a : Int) pf W)
            have hg1 : gcdV (a : Int) pf = ((Nat.gcd a pf.natAbs : Nat) : Int) := if_pos ⟨by unfold OkG; omega, by unfold OkG; omega⟩
            rw [hg1] at HG1
            have hgp := Nat.gcd_pos_of_pos_left pf.natAbs hal.1
            obtain ⟨gg, hgg⟩ : ∃ x, Nat.gcd a pf.natAbs = x := ⟨_, rfl⟩
            rw [hgg] at HG1 hgp HQ
            have hq1 : Int.tdiv (a : Int) (gg : Int) = (q : Int) := by rw [HQ.out]; rfl
            have hq2 : IntKind.i64.wrap (Int.tdiv (a : Int) (gg : Int)) = (q : Int) := by rw [hq1]; exact IntWalk.i64_in _ (by omega)
            have hq3 : (a : Int) / (gg : Int) = (q : Int) := by rw [← hq1]; rfl
            have hgz : ¬ gg = 0 := by omega
            have HG2' := Lib.hid (fun W : World => specGcd (d : Int) (q : Int) W)
            have hg2 : gcdV (d : Int) (q : Int) = ((Nat.gcd d q : Nat) : Int) := if_pos ⟨by unfold OkG; omega, by unfold OkG; omega⟩
            rw [hg2] at HG2'
            have hlr := lcm_round d q
            rw [← HDN.out] at hlr
            have hgc : Int.gcd (d : Int) (q : Int) = Nat.gcd d q := rfl
            rw [hgc] at hlr
            have hgp2 := Nat.gcd_pos_of_pos_left q hdl.2
            have hud := Nat.div_le_self d (Nat.gcd d q)
            obtain ⟨g2, hg2e⟩ : ∃ x, Nat.gcd d q = x := ⟨_, rfl⟩
            rw [hg2e] at HG2' hlr hgp2 hud
            have hu1 : Int.tdiv (d : Int) (g2 : Int) = ((d / g2 : Nat) : Int) := rfl
            obtain ⟨u, hu⟩ : ∃ x, d / g2 = x := ⟨_, rfl⟩
            rw [hu] at hu1 hud
            have hu2 : IntKind.i64.wrap (Int.tdiv (d : Int) (g2 : Int)) = (u : Int) := by rw [hu1]; exact IntWalk.i64_in _ (by omega)
            rw [hu1] at hlr
            have hm2 : IntKind.i64.wrap ((u : Int) * (q : Int)) = (d' : Int) := by rw [hlr]; exact IntWalk.i64_in _ (by omega)
            have hu3 : (d : Int) / (g2 : Int) = (u : Int) := by rw [← hu1]; rfl
            have hgz2 : ¬ g2 = 0 := by omega
            clear hSt hp1 hp2 hcr hcc hgv hctE hpc hpf hd hq hd' ha hg1 hgg hg2 hlr hgc hg2e hu hu1 hq1
            go_wp2_with fail
            go_quiet (fail)
            have HB6 := Lib.hid (below_drewN wr.heap.size wr nq)
            have hc1b : (wr.drewN nq).cell? ⟨gh, t, none⟩ = some (.slice (some ⟨bi, oi, none⟩) n c3) := hc1
            have hp2b : (wr.drewN nq).cell? ⟨bi, oi + k, none⟩ = some (.int .i64 pf) := hp2'
            generalize wr.drewN nq = w6 at *
            clear hc1 hp1' hp2' hcv
            go_wp2_with fail
            refine (HG1.out _).mono ?_
            rintro e w7 ⟨rfl, rfl⟩
            go_wp2_with fail
            refine (HG2'.out _).mono ?_
            rintro e w7 ⟨rfl, rfl⟩
            go_wp2_with fail
            go_roundw
            case rel => exact ⟨t + 1, by omega, by go_num, by rw [HD'.out], below_on HB5.out HB6.out HB5.out.size⟩
            case measure => simp [intOf]; omega
          · obtain rfl : t = cs.length := by omega
            have HNV := Lib.hid (HS.out.nullE_ok (Nat.le_refl n) HLS.out hkn)
            rw [← HPL.out] at HNV
            have HCE := Lib.hid (fun (d t : Nat) (hd : d ≤ 134217728) (ht : t < s.pv.length) => nullE_cell HS.out HLS.out (free := k) (d := d) (t := t) hkn hd ht)
            obtain ⟨d, hd⟩ : ∃ x, nullD n s k cs.length = x := ⟨_, rfl⟩
            rw [hd] at hdl HNV ⊢
            clear hd
            go_wp2_with (at_make; refine wpList_mkn _ rfl _ _ 29 rfl wr.heap.size 3 (.int .i64 0) 8 Try.underlying29 infoInt rfl _ _ _ _ n rfl rfl rfl rfl (by omega) (by unfold maxLen; omega) (Nat.le_refl _) ?_; intro w6 hown6 hb6; rw [rowF_zero] at hown6; have hF6 : FlatAt w6 wr.heap.size n (fun _ => 0) := hown6; have hd6 := hF6.cell hkn; have hz6 := World.ownsRow.frozenAt hown6 k; have HF6 := Lib.hid (flat_store hF6 hkn (d : Int)); have HB6 := Lib.hid hb6; have HL6 := Lib.hid hF6.lt; clear hown6 hF6 hb6)
            clear hd6 hz6
            obtain ⟨gv, hgv⟩ : ∃ g, wr.heap.size = g := ⟨_, rfl⟩
            rw [hgv] at HF6 HB6 HL6 ⊢
            have HGV := Lib.hid hgv
            have hgvs := HB5.out.size
            rw [hgv] at hgvs
            have HB7 := Lib.hid (within_on (HB5.out.trans (HB6.out.mono hgvs)) HF6.out.2 (by have := HL6.out; omega) (.inl hgvs))
            have HF7 := Lib.hid HF6.out.1
            clear hgv
            generalize w6.setCell ⟨gv, k, none⟩ (.int .i64 (d : Int)) = w7 at *
            clear HF6
            go_loopw [14] (fun i w' => ∃ (t : Nat) (fv : Nat → Int), t ≤ cs.length ∧ i = .int .i64 t ∧ FlatAt w' gv n fv ∧ (∀ j, j < n → fv j = nullE n s k d t j) ∧ Below wq.heap.size wq w') (fun i _ => cs.length - (intOf i).toNat)
            case atStart => exact ⟨0, _, by omega, rfl, HF7.out, fun j hj => by
              unfold nullE
              rfl, HB7.out⟩
            case round =>
              obtain ⟨t, fv, ht, rfl, hfv, hvv, hb8⟩ := hrel
              have HFV := Lib.hid hfv
              have HVV := Lib.hid hvv
              have HB8 := Lib.hid hb8
              have HR8 := Lib.hid (HR.out.below hb8)
              clear hfv hvv hb8
              by_cases htc : t < cs.length
              · have hti : (t : Int) < (cs.length : Int) := by omega
                have htp : t < s.pv.length := by have := HPL.out; omega
                have htM : t < M := by omega
                have htMi : (t : Int) < (M : Int) := by omega
                have hct := (HS.out.pv_lt htp).1
                have hcne := HNF.out t htc
                have hc1 := HR8.out.head htM
                obtain ⟨bi, oi, e1, hp1⟩ := HR8.out.num htM hct
                obtain ⟨bi2, oi2, e2, hp2⟩ := HR8.out.num htM hkn
                rw [e1] at e2
                injection e2 with e2
                injection e2 with e2 e3
                subst e2 e3
                obtain ⟨⟨A3, c3⟩, hSt⟩ : ∃ q, S t = q := ⟨_, rfl⟩
                rw [hSt] at hc1 e1
                dsimp only at hc1 e1
                subst e1
                have hp1' : wr.cell? ⟨bi, oi + s.pv.getD t 0, none⟩ = some (.int .i64 (pcell n s t (s.pv.getD t 0))) := hp1
                have hp2' : wr.cell? ⟨bi, oi + k, none⟩ = some (.int .i64 (pcell n s t k)) := hp2
                have hcr := HR8.out.col.ints.reads
                obtain ⟨bc, oc, rfl, _, _, hcc⟩ := hcr.2 (by omega)
                have hcv := hcc t htc
                have hgv : cs.getD t 0 = ((s.pv.getD t 0 : Nat) : Int) := by rw [← HCS.out]; exact pvI_get htp
                rw [hgv] at hcv
                have hnz := HS.out.pnz (Nat.le_refl n) htp
                have hbd := HCE.out d t hdl.1 htp
                have HNE := Lib.hid (fun j => nullE_succ n s k d t j)
                have hdc := HFV.out.cell hct
                have hzc := World.ownsRow.frozenAt HFV.out (s.pv.getD t 0)
                obtain ⟨ct, hctE⟩ : ∃ c, s.pv.getD t 0 = c := ⟨_, rfl⟩
                rw [hctE] at hct hp1' hcv hnz hbd hdc hzc HNE hcne
                obtain ⟨pc, hpc⟩ : ∃ x, pcell n s t ct = x := ⟨_, rfl⟩
                obtain ⟨pf, hpf⟩ : ∃ x, pcell n s t k = x := ⟨_, rfl⟩
                rw [hpc] at hp1' hnz hbd HNE
                rw [hpf] at hp2' hbd HNE
                obtain ⟨pd, hpd⟩ : ∃ x, pf * (d : Int) = x := ⟨_, rfl⟩
                rw [hpd] at hbd HNE
                obtain ⟨x, hx⟩ : ∃ x, Int.tdiv pd pc = x := ⟨_, rfl⟩
                rw [hx] at hbd HNE
                obtain ⟨y, hy⟩ : ∃ y, -x = y := ⟨_, rfl⟩
                rw [hy] at hbd HNE
                have q1 : IntKind.i64.wrap (pf * (d : Int)) = pd := by rw [hpd]; exact IntWalk.i64_in _ (by omega)
                have q2 : IntKind.i64.wrap (Int.tdiv pd pc) = x := by rw [hx]; exact IntWalk.i64_in _ (by omega)
                have q3 : IntKind.i64.wrap (-x) = y := by rw [hy]; exact IntWalk.i64_in _ (by omega)
                have hpz : ¬ pc = 0 := hnz
                have hst := flat_store (W := wr.drew) HFV.out hct y
                have HFV3 := Lib.hid hst.1
                have HB9 := Lib.hid (within_on HB8.out.drew hst.2 HB8.out.size (.inl hgvs))
                have hcti : (ct : Int) < (n : Int) := by omega
                clear hSt hp1 hp2 hcr hcc hgv hctE hpc hpf hpd hx hst hnz
                go_wp2_with fail
                go_still_tail 26, (by kernel_rfl)
                change wpList _ _ _ _ _ wr.drew
                have hdc2 : wr.drew.cell? ⟨gv, ct, none⟩ = some (.int .i64 (fv ct)) := hdc
                have hzc2 := World.ownsRow.frozenAt (w := wr.drew) HFV.out ct
                clear hdc hzc
                go_wp2_with fail
                go_roundw
                case rel => exact ⟨t + 1, _, by omega, by go_num, HFV3.out, fun j hj => by
                  rw [HNE.out j]
                  by_cases e : j = ct
                  · rw [if_pos e, if_neg (by rw [e]; exact hcne), if_pos e.symm]
                  · rw [if_neg e, HVV.out j hj]
                    by_cases e2 : j = k
                    · rw [if_pos e2, e2, nullE_free]
                    · rw [if_neg e2, if_neg (fun h => e h.symm)], HB9.out⟩
                case measure => simp [intOf]; omega
              · obtain rfl : t = cs.length := by omega
                have hrw : rowF n fv = rowF n (nullE n s k d cs.length) := rowF_congr HVV.out
                have hPV := specPv (rowF n fv) (some ⟨gv, 0, none⟩) n gv (gv + 1) wr (flat_ints HFV.out (Nat.le_refl _) (Nat.lt_succ_self _) HFV.out.lt) (by rw [rowF_len]; omega)
                rw [rowF_len, hrw, HNV.out, nullV_len] at hPV
                have HPV := Lib.hid hPV
                obtain ⟨nv, hnv⟩ : ∃ v, nullV n s k = v := ⟨_, rfl⟩
                have HNL := Lib.hid (nullV_len n s k)
                rw [hnv] at HPV HN HNL
                clear hrw hPV hnv
                go_wp2_with fail
                refine HPV.out.mono ?_
                rintro e w3 ⟨Ar, cr, rfl, ho3, hb3⟩
                have HO3 := Lib.hid ho3
                have HB3 := Lib.hid (below_on HB8.out hb3 HB8.out.size)
                have HRG5 := Lib.hid (HRG.out.below HB3.out)
                have HTOP := Lib.hid (show T ≤ wr.heap.size from Nat.le_trans HRG.out.top HB8.out.size)
                have HK3 := Lib.hid (HKP.out.below HB3.out)
                have hos3 : os.length ≤ 1048576 := by have := HLK.out; omega
                clear ho3 hb3
                obtain ⟨zs, r, S', z1, z2, z3, z4⟩ := HRG5.out.rows
                have HZ1 := Lib.hid z1
                have HZ2 := Lib.hid z2
                have HZ3 := Lib.hid (show RowsP _ w.heap.size T lo2 hi2 zs os from ⟨r, S', z3, z4⟩)
                have HLO := Lib.hid (show lo2 ≤ _ from Nat.le_trans HRG5.out.out.2.1 HRG5.out.top)
                have HOB := Lib.hid (HRG5.out.out.1)
                clear z1 z2 z3 z4
                go_wp2_with (at_builtin; refine wpList_pushS _ rfl _ _ rfl lo2 hi2 A2 c2 zs (.slice Ar n cr) rfl (by rw [HZ1.out]; rfl) HZ2.out _ rfl (by have := HZ1.out; omega) HLO.out ?_; intro A7 c7 w8 lo7 hi7 ho7 hd7 hw7; have HO7 := Lib.hid ho7; have HD7 := Lib.hid hd7; have HW7 := Lib.hid hw7; clear ho7 hd7 hw7)
                have HRG7 := Lib.hid (HRG5.out.push (q := (wr.heap.size, w3.heap.size)) (x := nv) HO3.out HTOP.out HZ1.out HZ3.out (by rw [HNL.out]; exact HO7.out) HD7.out HW7.out)
                have HK7 := Lib.hid (HK3.out.within HW7.out HSD.out)
                go_roundw
                case rel => exact ⟨k + 1, _, _, _, _, _, by omega, by go_num, by rw [HN.out, List.length_append, HZ1.out]; rfl, by rw [HN.out]; exact HRG7.out, within_on (below_on HB.out HB3.out HB.out.size) HW7.out (Nat.le_trans HB.out.size HB3.out.size) (.inl HOB.out), HK7.out, (by have := HD7.out; have := HSD.out; have := HK3.out.2.1; omega)⟩
                case measure => simp [intOf]; omega
    · obtain rfl : k = n := by omega
      go_wp2_with fail
      go_ret
      have ht := HRG.out.top
      exact ⟨A2, c2, rfl, rowsIn_widen' HRG.out.cells.reads (Nat.le_refl _) ht (Nat.le_refl _), HB.out⟩

set_option maxHeartbeats 4000000 in
set_option maxRecDepth 100000 in
theorem specNul (m : List (List Int)) (A : Option Addr) (cap lo hi : Nat) (w : World) (hl : RowsIn w lo hi A m) (hn : m.length ≤ 1048576) (hr : ∀ k, k < m.length → (m.getD k []).length ≤ 1048576) :
    Calls Try.prog 63 #[.slice A m.length cap] w fun e w' => ∃ A' c', e = .returned (.slice A' (nulV m).length c') ∧ RowsIn w' w.heap.size w'.heap.size A' (nulV m) ∧ Below w.heap.size w w' := by
  have HL := Lib.hid hl
  have HMAT := Lib.hid (specMat m A cap lo hi w hl hn hr)
  by_cases hM : MatP m
  · have HV := Lib.hid (show nulV m = nulK (widM m) (Red.run m.length (atM m) (widM m)) (widM m) from if_pos (isMatB_yes hM))
    rw [isMatB_yes hM] at HMAT
    obtain ⟨b, off, S, rfl, hbw, hc⟩ := rows_fn hl hM.h0
    have HC := Lib.hid hc
    have h0 := hM.h0
    have hw0 := (hM.row 0 h0).1
    have HNU := Lib.hid (fun (W : World) (h : RowsIn W lo hi (some ⟨b, off, none⟩) m) => null_c m hM.q (some ⟨b, off, none⟩) cap lo hi W h)
    have hsl : (0 : Int) < (m.length : Int) := by omega
    clear hc hl hr hM
    obtain ⟨n, hn'⟩ : ∃ n, widM m = n := ⟨_, rfl⟩
    rw [hn'] at hw0 HNU HV
    clear hn'
    go_enter Try.func63, Try.ntmps63
    go_wp2_with fail
    refine HMAT.out.mono ?_
    rintro e w1 ⟨rfl, hb⟩
    have HB := Lib.hid hb
    have c0 := rows_cell hbw HC.out hb (i := 0) h0
    rw [Nat.add_zero, hw0] at c0
    clear hb
    go_wp2_with fail
    refine (HNU.out _ (rsIn_below HL.out HB.out)).mono ?_
    rintro e w2 ⟨A2, c2, rfl, hr2, hb2⟩
    have HR2 := Lib.hid hr2
    have HB2 := Lib.hid (below_on HB.out hb2 HB.out.size)
    have hs1 := HB.out.size
    clear hb2 hr2 c0
    go_wp2_with fail
    go_ret
    rw [HV.out]
    exact ⟨A2, c2, rfl, rowsIn_widen' HR2.out hs1 (Nat.le_refl _) (Nat.le_refl _), HB2.out⟩
  · have HV := Lib.hid (show nulV m = [] from if_neg (by rw [isMatB_no hM]; decide))
    rw [isMatB_no hM] at HMAT
    clear hl hr hM
    go_enter Try.func63, Try.ntmps63
    go_wp2_with fail
    refine HMAT.out.mono ?_
    rintro e w1 ⟨rfl, hb⟩
    have HB := Lib.hid (hb.trans ((new_below w1 (.cells #[] 29)).mono hb.size))
    clear hb
    go_wp2_with fail
    go_ret
    exact ⟨_, _, by rw [HV.out]; rfl, by rw [HV.out]; exact ⟨Nat.le_refl _, fun h => absurd h (by simp)⟩, HB.out⟩
end Go.Proofs.Ytdkpmaahinbhlaa
/- What impl.PrimitiveVector answers. No condition. -/
namespace Go.Proofs.Ytdkpmaahinbhlaa
open Go.RowKit

theorem own_ints_v {w' : World} {base g cap : Nat} {zs : List Int} (h : w'.ownsRow base 3 1 (.slice (some ⟨g, 0, none⟩) zs.length cap) zs.length (intCells zs)) : OwnInts w' base w'.heap.size (some ⟨g, 0, none⟩) cap zs :=
  ⟨Nat.le_refl _, .inr ⟨g, rfl, (h.lt g rfl).1, (h.lt g rfl).2, h⟩⟩
theorem ne0_c (x : Int) (w : World) :
    Calls Try.prog 159 #[.int .i64 x] w fun e w' => e = .returned (.bool (x != 0)) ∧ w = w' := by
  go_enter Try.func159, Try.ntmps159
  go_wp2
  go_ret
  exact ⟨rfl, rfl⟩
set_option maxHeartbeats 2000000 in
set_option maxRecDepth 100000 in
theorem idxN_c (v : List Int) (A : Option Addr) (cap lo hi : Nat) (w : World) (hl : IntsIn w lo hi A v) (hn : v.length ≤ 1048576) :
    Calls Try.prog 158 #[.slice A v.length cap, .func (.func 159) #[] #[]] w fun e w' => w = w' ∧
      ((e = .returned (.int .i64 (-1)) ∧ ∀ i, i < v.length → v.getD i 0 = 0) ∨ ∃ f : Nat, f < v.length ∧ e = .returned (.int .i64 f) ∧ v.getD f 0 ≠ 0 ∧ ∀ i, i < f → v.getD i 0 = 0) := by
  have HL := Lib.hid hl
  clear hl
  go_enter Try.func158, Try.ntmps158
  go_wp2_with fail
  go_loopw [8] (fun i wr => w = wr ∧ ∃ j : Nat, j ≤ v.length ∧ i = .int .i64 j ∧ ∀ u : Nat, u < j → v.getD u 0 = 0) (fun i _ => v.length - (intOf i).toNat)
  case atStart => exact ⟨rfl, 0, Nat.zero_le _, rfl, fun u hu => absurd hu (Nat.not_lt_zero _)⟩
  case round =>
    obtain ⟨rfl, j, hj, rfl, hall⟩ := hrel
    have HALL := Lib.hid hall
    clear hall
    by_cases hlt : j < v.length
    · have hji : (j : Int) < (v.length : Int) := by omega
      obtain ⟨bi, oi, rfl, _, _, hc⟩ := HL.out.2 (by omega)
      have c1 := hc j hlt
      clear hc
      obtain ⟨x, hxv⟩ : ∃ x, v.getD j 0 = x := ⟨_, rfl⟩
      rw [hxv] at c1
      have HXV := Lib.hid hxv
      clear hxv
      by_cases hx : x = 0
      · have hx' : (x != 0) = false := by simp [hx]
        have HX := Lib.hid hx
        have HNE := Lib.hid (ne0_c x w)
        rw [hx'] at HNE
        clear hx hx'
        go_wp2_with (go_at_call 159; refine HNE.out.mono ?_; rintro e w5 ⟨rfl, rfl⟩)
        go_roundw
        case rel => exact ⟨by simp, j + 1, by omega, by go_num, fun u hu => by
          by_cases e : u = j
          · subst e; rw [HXV.out]; exact HX.out
          · exact HALL.out u (by omega)⟩
        case measure => simp [intOf]; omega
      · have hx' : (x != 0) = true := by simpa using hx
        have HX := Lib.hid hx
        have HNE := Lib.hid (ne0_c x w)
        rw [hx'] at HNE
        clear hx hx'
        go_wp2_with (go_at_call 159; refine HNE.out.mono ?_; rintro e w5 ⟨rfl, rfl⟩)
        go_ret
        exact ⟨by simp, .inr ⟨j, hlt, rfl, by rw [HXV.out]; exact HX.out, HALL.out⟩⟩
    · obtain rfl : j = v.length := by omega
      go_wp2_with fail
      go_ret
      exact ⟨by simp, .inl ⟨rfl, HALL.out⟩⟩

set_option maxHeartbeats 4000000 in
set_option maxRecDepth 100000 in
theorem implPv (v : List Int) (A : Option Addr) (cap lo hi : Nat) (w : World) (hl : IntsIn w lo hi A v) (hn : v.length ≤ 1048576) :
    Calls Try.prog 69 #[.slice A v.length cap] w fun e w' => ∃ A' c', e = .returned (.slice A' (pV v).length c') ∧ OwnInts w' w.heap.size w'.heap.size A' c' (pV v) ∧ Below w.heap.size w w' := by
  have HL := Lib.hid hl
  obtain ⟨r, hr⟩ : ∃ r, pV v = r := ⟨_, rfl⟩
  rw [hr]
  have HR := Lib.hid hr
  clear hr
  go_enter Try.func69, Try.ntmps69
  go_wp2_with fail
  refine (slCloneR v A cap lo hi w hl hn).mono ?_
  rintro e w1 ⟨A2, c2, rfl, ho, hb⟩
  have HO := Lib.hid ho
  have HB := Lib.hid hb
  have HL1 := Lib.hid (hl.within (within_of hb) (.inr (Nat.zero_le _)))
  have hs1 := hb.size
  have HEV := Lib.hid (fun h : r = v => (show OwnInts w1 w.heap.size w1.heap.size A2 c2 r by rw [h]; exact HO.out.ints))
  clear hl ho hb
  go_wp2_with fail
  go_loopw [4, 6, 13] (fun g _ i wr => Below w1.heap.size w1 wr ∧ ∃ k : Nat, k ≤ v.length ∧ i = .int .i64 k ∧ g = .int .i64 (gP v k) ∧ AllG v k) (fun _ _ i _ => v.length - (intOf i).toNat)
  case atStart => exact ⟨Below.refl _ _, 0, by omega, rfl, rfl, fun j hj => absurd hj (Nat.not_lt_zero j)⟩
  case round =>
    obtain ⟨hb1, k, hk, rfl, rfl, hg⟩ := hrel
    have HB1 := Lib.hid hb1
    have HBW := Lib.hid (below_on HB.out hb1 hs1)
    have hgl := gP_le k hk hg
    have HG := Lib.hid hg
    clear hg hb1
    have hvi := HL1.out.within (within_of HB1.out) (.inr (Nat.zero_le _))
    by_cases hlt : k < v.length
    · have hki : (k : Int) < (v.length : Int) := by omega
      obtain ⟨bi, oi, rfl, _, _, hc⟩ := hvi.2 (by omega)
      have c1 := hc k hlt
      clear hc hvi
      have HNX := Lib.hid (gP_succ hlt)
      obtain ⟨x, hxv⟩ : ∃ x, v.getD k 0 = x := ⟨_, rfl⟩
      rw [hxv] at c1 HNX
      have HXV := Lib.hid hxv
      obtain ⟨gk, hgk⟩ : ∃ gk, gP v k = gk := ⟨_, rfl⟩
      rw [hgk] at hgl HNX ⊢
      clear hxv hgk
      by_cases hx : OkG x
      · have HX := Lib.hid hx
        have HLI := Lib.hid (hasGcd_c x wr)
        rw [decide_eq_true hx] at HLI
        have HGC := Lib.hid (implGcd gk x wr)
        have hgv : gcdV gk x = (gP v (k + 1) : Int) := by
          unfold gcdV
          rw [if_pos ⟨by unfold OkG; omega, hx⟩, HNX.out]
          rfl
        rw [hgv] at HGC
        clear hgv hx
        go_wp2_with fail
        refine HLI.out.mono ?_
        rintro e w3 ⟨rfl, rfl⟩
        go_wp2_with fail
        refine HGC.out.mono ?_
        rintro e w3 ⟨rfl, hb3⟩
        have HB3 := Lib.hid (below_on HB1.out hb3 HB1.out.size)
        clear hb3
        go_wp2_with fail
        go_roundw
        case rel => exact ⟨HB3.out, k + 1, by omega, by go_num, rfl, fun u hu => by
          by_cases e : u = k
          · subst e; rw [HXV.out]; exact HX.out
          · exact HG.out u (by omega)⟩
        case measure => simp [intOf]; omega
      · have HLI := Lib.hid (hasGcd_c x wr)
        rw [decide_eq_false hx] at HLI
        have HE := Lib.hid (show r = v by rw [← HR.out]; exact pV_no fun h => hx (by have := h k hlt; rw [HXV.out] at this; exact this))
        clear hx
        go_wp2_with fail
        refine HLI.out.mono ?_
        rintro e w3 ⟨rfl, rfl⟩
        go_wp2_with fail
        go_ret
        have ho := HEV.out HE.out
        have hs2 := HB1.out.size
        exact ⟨A2, c2, by rw [HE.out]; rfl, (ho.within (within_of HB1.out) (.inr (Nat.zero_le _))).widen (Nat.le_refl _) hs2 (Nat.le_refl _), HBW.out⟩
    · obtain rfl : k = v.length := by omega
      rw [gP_all] at hgl ⊢
      have HPV := Lib.hid (show r = primV v by rw [← HR.out]; exact pV_ok HG.out)
      have HIX := Lib.hid (idxN_c v A cap lo hi wr hvi hn)
      have HVI := Lib.hid hvi
      clear hvi
      go_wp2_with fail
      refine HIX.out.mono ?_
      rintro e w3 ⟨rfl, hor⟩
      rcases hor with ⟨rfl, hz⟩ | ⟨f, hf, rfl, hfz, hbf⟩
      · have HE := Lib.hid (show r = v by rw [HPV.out]; exact primV_zero (zero_all hz))
        clear hz
        go_wp2_with fail
        go_ret
        have ho := HEV.out HE.out
        have hs2 := HB1.out.size
        exact ⟨A2, c2, by rw [HE.out]; rfl, (ho.within (within_of HB1.out) (.inr (Nat.zero_le _))).widen (Nat.le_refl _) hs2 (Nat.le_refl _), HBW.out⟩
      · have h0 := gcd_nz hf hfz
        have HE := Lib.hid (show r = rowF v.length fun j => Int.tdiv (v.getD j 0) (divZ v) by rw [HPV.out]; exact primV_row h0)
        have hfi := fP_first hf hbf hfz
        have HDZ := Lib.hid (divZ_nz h0)
        have hdv : divZ v = if v.getD f 0 < 0 then -(gcdL v : Int) else gcdL v := by unfold divZ; rw [hfi]
        have HDV := Lib.hid hdv
        obtain ⟨bi, oi, e1, _, _, hc⟩ := HVI.out.2 (by omega)
        subst e1
        have c1 := hc f hf
        have hfl : (f : Int) < (v.length : Int) := by omega
        have hf0 : decide ((f : Int) < 0) = false := by simp
        obtain ⟨x, hxv⟩ : ∃ x, v.getD f 0 = x := ⟨_, rfl⟩
        rw [hxv] at c1 HDV hfz
        obtain ⟨g, hgg⟩ : ∃ g, gcdL v = g := ⟨_, rfl⟩
        rw [hgg] at hgl HDV h0 ⊢
        have HF := Lib.hid hf
        clear hgg hc hxv hfi hdv hbf hf
        -- the copy's own row
        have hoR := HO.out.within (within_of HB1.out) (.inr (Nat.zero_le _))
        have hlo := hoR.1
        rcases hoR.2 with ⟨_, _, hnil⟩ | ⟨gb, rfl, hg1, hg2, hown⟩
        · have := HF.out; rw [hnil] at this; exact absurd this (Nat.not_lt_zero _)
        · have hrow0 : v = rowF v.length fun j => if j < 0 then Int.tdiv (v.getD j 0) (divZ v) else v.getD j 0 := by
            refine (rowF_of v).symm.trans (rowF_congr fun j _ => ?_)
            rw [if_neg (by omega)]
          have HOW := Lib.hid (show wr.ownsRow w.heap.size 3 1 (.slice (some ⟨gb, 0, none⟩) v.length c2) v.length (intCells (rowF v.length fun j => if j < 0 then Int.tdiv (v.getD j 0) (divZ v) else v.getD j 0)) by rw [← hrow0]; exact hown)
          clear hrow0 hown hoR hlo
          by_cases hneg : x < 0
          · obtain ⟨d, hng⟩ : ∃ d, -(g : Int) = d := ⟨_, rfl⟩
            have HDN := Lib.hid (show divZ v = d by rw [HDV.out, if_pos hneg, hng])
            have hs0 : decide (x < 0) = true := by simpa using hneg
            have hd0 : (d != 0) = true := by simp; omega
            have hgz : ¬ d = 0 := by simpa using hd0
            clear hneg h0 hfz
            go_wp2_with fail
            go_loopw [8, 39] (fun _ i wr2 => ∃ k : Nat, k ≤ v.length ∧ i = .int .i64 k ∧ wr2.ownsRow w.heap.size 3 1 (.slice (some ⟨gb, 0, none⟩) v.length c2) v.length (intCells (rowF v.length fun j => if j < k then Int.tdiv (v.getD j 0) (divZ v) else v.getD j 0)) ∧ Below w.heap.size w wr2) (fun _ i _ => v.length - (intOf i).toNat)
            case atStart => exact ⟨0, by omega, rfl, HOW.out, HBW.out⟩
            case round =>
              obtain ⟨k, hk, rfl, hown, hb2⟩ := hrel
              have HB2 := Lib.hid hb2
              clear hb2
              by_cases hlt : k < v.length
              · have hki : (k : Int) < (v.length : Int) := by omega
                have hxg := HG.out k hlt
                have hd := (hown.cellAt k (by omega)).trans (intCells_get _ k (by rw [rowF_len]; exact hlt))
                rw [rowF_getD hlt, if_neg (by omega)] at hd
                have hfr := hown.frozenAt k
                have HQE := Lib.hid (show Int.tdiv (v.getD k 0) (divZ v) = Int.tdiv (v.getD k 0) d by rw [HDN.out])
                obtain ⟨y, hy⟩ : ∃ y, v.getD k 0 = y := ⟨_, rfl⟩
                rw [hy] at hd hxg HQE
                obtain ⟨q, hq⟩ : ∃ q, Int.tdiv y d = q := ⟨_, rfl⟩
                have hqg := quo_ok (d := d) hxg (by rw [← HDN.out]; exact HDZ.out)
                rw [hq] at hqg HQE
                have hqw : IntKind.i64.wrap (Int.tdiv y d) = q := by rw [hq]; exact IntWalk.i64_in _ (by unfold OkG at hqg; omega)
                have hst := hown.stored k (.int .i64 q)
                have hst1 := hst.1
                rw [rowF_set hlt] at hst1
                have heq : (rowF v.length fun t => if t = k then q else if t < k then Int.tdiv (v.getD t 0) (divZ v) else v.getD t 0) = rowF v.length fun t => if t < k + 1 then Int.tdiv (v.getD t 0) (divZ v) else v.getD t 0 := by
                  apply rowF_congr
                  intro t _
                  by_cases e : t = k
                  · subst e; rw [if_pos rfl, if_pos (by omega), hy, HQE.out]
                  · rw [if_neg e]
                    by_cases e2 : t < k
                    · rw [if_pos e2, if_pos (by omega)]
                    · rw [if_neg e2, if_neg (by omega)]
                rw [heq] at hst1
                have HST := Lib.hid hst1
                have HB3 := Lib.hid (HB2.out.grown hst.2 HB2.out.size fun g' e => by cases e; exact hg1)
                clear hst hst1 heq hqg hq hxg hy hown
                go_wp2_with fail
                go_roundw
                case rel => exact ⟨k + 1, by omega, by go_num, HST.out, HB3.out⟩
                case measure => simp [intOf]; omega
              · obtain rfl : k = v.length := by omega
                have heq : (rowF v.length fun j => if j < v.length then Int.tdiv (v.getD j 0) (divZ v) else v.getD j 0) = r := by
                  rw [HE.out]
                  exact rowF_congr fun j hj => if_pos hj
                rw [heq] at hown
                have HOWN := Lib.hid hown
                have HRL := Lib.hid (show r.length = v.length by rw [HE.out, rowF_len])
                clear hown heq
                go_wp2_with fail
                go_ret
                have hh := HOWN.out
                rw [← HRL.out] at hh
                exact ⟨some ⟨gb, 0, none⟩, c2, by rw [HRL.out]; rfl, own_ints_v hh, HB2.out⟩
          · obtain ⟨d, hng⟩ : ∃ d : Int, (g : Int) = d := ⟨_, rfl⟩
            have HDN := Lib.hid (show divZ v = d by rw [HDV.out, if_neg hneg, hng])
            have hs0 : decide (x < 0) = false := by simpa using hneg
            have hd0 : (d != 0) = true := by simp; omega
            have hgz : ¬ d = 0 := by simpa using hd0
            rw [hng]
            clear hneg h0 hfz hng
            go_wp2_with fail
            go_loopw [8, 39] (fun _ i wr2 => ∃ k : Nat, k ≤ v.length ∧ i = .int .i64 k ∧ wr2.ownsRow w.heap.size 3 1 (.slice (some ⟨gb, 0, none⟩) v.length c2) v.length (intCells (rowF v.length fun j => if j < k then Int.tdiv (v.getD j 0) (divZ v) else v.getD j 0)) ∧ Below w.heap.size w wr2) (fun _ i _ => v.length - (intOf i).toNat)
            case atStart => exact ⟨0, by omega, rfl, HOW.out, HBW.out⟩
            case round =>
              obtain ⟨k, hk, rfl, hown, hb2⟩ := hrel
              have HB2 := Lib.hid hb2
              clear hb2
              by_cases hlt : k < v.length
              · have hki : (k : Int) < (v.length : Int) := by omega
                have hxg := HG.out k hlt
                have hd := (hown.cellAt k (by omega)).trans (intCells_get _ k (by rw [rowF_len]; exact hlt))
                rw [rowF_getD hlt, if_neg (by omega)] at hd
                have hfr := hown.frozenAt k
                have HQE := Lib.hid (show Int.tdiv (v.getD k 0) (divZ v) = Int.tdiv (v.getD k 0) d by rw [HDN.out])
                obtain ⟨y, hy⟩ : ∃ y, v.getD k 0 = y := ⟨_, rfl⟩
                rw [hy] at hd hxg HQE
                obtain ⟨q, hq⟩ : ∃ q, Int.tdiv y d = q := ⟨_, rfl⟩
                have hqg := quo_ok (d := d) hxg (by rw [← HDN.out]; exact HDZ.out)
                rw [hq] at hqg HQE
                have hqw : IntKind.i64.wrap (Int.tdiv y d) = q := by rw [hq]; exact IntWalk.i64_in _ (by unfold OkG at hqg; omega)
                have hst := hown.stored k (.int .i64 q)
                have hst1 := hst.1
                rw [rowF_set hlt] at hst1
                have heq : (rowF v.length fun t => if t = k then q else if t < k then Int.tdiv (v.getD t 0) (divZ v) else v.getD t 0) = rowF v.length fun t => if t < k + 1 then Int.tdiv (v.getD t 0) (divZ v) else v.getD t 0 := by
                  apply rowF_congr
                  intro t _
                  by_cases e : t = k
                  · subst e; rw [if_pos rfl, if_pos (by omega), hy, HQE.out]
                  · rw [if_neg e]
                    by_cases e2 : t < k
                    · rw [if_pos e2, if_pos (by omega)]
                    · rw [if_neg e2, if_neg (by omega)]
                rw [heq] at hst1
                have HST := Lib.hid hst1
                have HB3 := Lib.hid (HB2.out.grown hst.2 HB2.out.size fun g' e => by cases e; exact hg1)
                clear hst hst1 heq hqg hq hxg hy hown
                go_wp2_with fail
                go_roundw
                case rel => exact ⟨k + 1, by omega, by go_num, HST.out, HB3.out⟩
                case measure => simp [intOf]; omega
              · obtain rfl : k = v.length := by omega
                have heq : (rowF v.length fun j => if j < v.length then Int.tdiv (v.getD j 0) (divZ v) else v.getD j 0) = r := by
                  rw [HE.out]
                  exact rowF_congr fun j hj => if_pos hj
                rw [heq] at hown
                have HOWN := Lib.hid hown
                have HRL := Lib.hid (show r.length = v.length by rw [HE.out, rowF_len])
                clear hown heq
                go_wp2_with fail
                go_ret
                have hh := HOWN.out
                rw [← HRL.out] at hh
                exact ⟨some ⟨gb, 0, none⟩, c2, by rw [HRL.out]; rfl, own_ints_v hh, HB2.out⟩
end Go.Proofs.Ytdkpmaahinbhlaa
/- What slices.Contains answers on a row of ints. No condition. -/
namespace Go.Proofs.Ytdkpmaahinbhlaa
open Go.RowKit

set_option maxHeartbeats 2000000 in
set_option maxRecDepth 100000 in
theorem slIndex (zs : List Int) (x : Int) (A : Option Addr) (cap lo hi : Nat) (w : World) (hl : IntsIn w lo hi A zs) (hn : zs.length ≤ 1048576) :
    Calls Try.prog 187 #[.slice A zs.length cap, .int .i64 x] w fun e w' => (∃ r : Int, e = .returned (.int .i64 r) ∧ (0 ≤ r ↔ x ∈ zs)) ∧ w = w' := by
  have HL := Lib.hid hl
  clear hl
  go_enter Try.func187, Try.ntmps187
  go_wp2_with fail
  go_loop [8] (fun i => ∃ k : Nat, k ≤ zs.length ∧ i = .int .i64 k ∧ ∀ j, j < k → zs.getD j 0 ≠ x) (fun i => zs.length - (intOf i).toNat)
  case atStart => exact ⟨0, by omega, rfl, fun j hj => absurd hj (by omega)⟩
  case round =>
    obtain ⟨k, hk, rfl, hall⟩ := hrel
    have HALL := Lib.hid hall
    clear hall
    by_cases hlt : k < zs.length
    · have hi : (k : Int) < (zs.length : Int) := by omega
      obtain ⟨b, off, rfl, _, _, hcell⟩ := HL.out.2 (by omega)
      have hc := hcell k hlt
      clear hcell
      have HM := Lib.hid (show zs.getD k 0 ∈ zs by
        have : zs.getD k 0 = zs[k] := by simp [List.getD, List.getElem?_eq_getElem hlt]
        rw [this]; exact List.getElem_mem hlt)
      obtain ⟨y, hy⟩ : ∃ y, zs.getD k 0 = y := ⟨_, rfl⟩
      rw [hy] at hc HM
      by_cases he : y = x
      · have he' : (x == y) = true := by simpa using he.symm
        have HD := Lib.hid (show (0 : Int) ≤ (k : Int) ↔ x ∈ zs from ⟨fun _ => by rw [← he]; exact HM.out, fun _ => by omega⟩)
        clear he hy
        go_wp2_with fail
        go_ret
        exact ⟨⟨_, rfl, HD.out⟩, rfl⟩
      · have he' : (x == y) = false := by simpa using fun e => he e.symm
        have HS := Lib.hid (show ∀ j, j < k + 1 → zs.getD j 0 ≠ x from fun j hj => by
          by_cases e : j = k
          · subst e; rw [hy]; exact he
          · exact HALL.out j (by omega))
        clear he hy
        go_wp2_with fail
        go_round
        case rel => exact ⟨k + 1, by omega, by go_num, HS.out⟩
        case measure => simp [intOf]; omega
    · obtain rfl : k = zs.length := by omega
      have HD := Lib.hid (show (0 : Int) ≤ -1 ↔ x ∈ zs by
        refine ⟨fun h => absurd h (by omega), fun hm => False.elim ?_⟩
        obtain ⟨i, hi, e⟩ := List.getElem_of_mem hm
        refine HALL.out i hi ?_
        simpa [List.getD, List.getElem?_eq_getElem hi] using e)
      go_wp2_with fail
      go_ret
      exact ⟨⟨_, rfl, HD.out⟩, rfl⟩

set_option maxHeartbeats 2000000 in
set_option maxRecDepth 100000 in
theorem slContains (zs : List Int) (x : Int) (A : Option Addr) (cap lo hi : Nat) (w : World) (hl : IntsIn w lo hi A zs) (hn : zs.length ≤ 1048576) :
    Calls Try.prog 111 #[.slice A zs.length cap, .int .i64 x] w fun e w' => e = .returned (.bool (decide (x ∈ zs))) ∧ w = w' := by
  have HL := Lib.hid hl
  clear hl
  by_cases hm : x ∈ zs
  · rw [decide_eq_true hm]
    have HM := Lib.hid hm
    clear hm
    go_enter Try.func111, Try.ntmps111
    go_wp2_with fail
    refine (slIndex zs x A cap lo hi _ HL.out hn).mono ?_
    rintro e w1 ⟨⟨r, rfl, hr⟩, rfl⟩
    have hr0 : 0 ≤ r := hr.2 HM.out
    clear hr
    go_wp2_with fail
    go_ret
    exact ⟨by first | rfl | simp [hr0], rfl⟩
  · rw [decide_eq_false hm]
    have HM := Lib.hid hm
    clear hm
    go_enter Try.func111, Try.ntmps111
    go_wp2_with fail
    refine (slIndex zs x A cap lo hi _ HL.out hn).mono ?_
    rintro e w1 ⟨⟨r, rfl, hr⟩, rfl⟩
    have hr0 : ¬ 0 ≤ r := fun h => HM.out (hr.1 h)
    have hr1 : r < 0 := by omega
    clear hr
    go_wp2_with fail
    go_ret
    exact ⟨by first | rfl | simp [hr0] | simp [hr1], rfl⟩
end Go.Proofs.Ytdkpmaahinbhlaa
/- An answer of rows that is wholly the call's own: each row in a block of its own, or all side by side in one (laws.markIntSS). No condition. -/
namespace Go.Proofs.Ytdkpmaahinbhlaa
open Go.RowKit

def RowsX (W : World) (lo hi : Nat) (A : Option Addr) (rs : List (List Int)) : Prop :=
  RowsOwn W lo hi A rs ∨ ∃ gh g h n f, A = some ⟨gh, 0, none⟩ ∧ rs = rowsV h n id f ∧ h ≤ 1000 ∧ n ≤ 1000 ∧ RowsF W lo hi gh g h n id f
theorem RowsX.within {W W' : World} {lo hi lo' hi' : Nat} {A : Option Addr} {rs : List (List Int)} (h : RowsX W lo hi A rs) (hw : Within lo' hi' W W') (hd : hi ≤ lo' ∨ hi' ≤ lo) : RowsX W' lo hi A rs := by
  rcases h with h | ⟨gh, g, h1, n, f, e1, e2, e3, e4, r⟩
  · exact .inl (h.within hw hd)
  · exact .inr ⟨gh, g, h1, n, f, e1, e2, e3, e4, r.within hw hd⟩
theorem RowsX.reads {W : World} {lo hi : Nat} {A : Option Addr} {rs : List (List Int)} (h : RowsX W lo hi A rs) : RowsIn W lo hi A rs := by
  rcases h with h | ⟨gh, g, h1, n, f, rfl, rfl, e3, e4, r⟩
  · exact h.reads
  · exact r.reads
theorem rowsV_tot (h n : Nat) (p : Nat → Nat) (f : Nat → Int) : ∀ j, j ≤ h → tot (rowsV h n p f) j = j * n := by
  intro j
  induction j with
  | zero => intro _; simp [tot]
  | succ j ih =>
    intro hj
    rw [tot, ih (by omega), rowsV_get (by omega), rowF_len, Nat.add_mul, Nat.one_mul]
theorem rowsV_marks (k0 : Int) (h n : Nat) (f : Nat → Int) : marksR k0 (rowsV h n id f) = rowsV h n id (fun i => k0 + (i : Int)) := by
  unfold marksR
  rw [rowsV_len]
  apply List.map_congr_left
  intro j hj
  have hj' := List.mem_range.1 hj
  rw [rowsV_tot h n id f j (by omega), rowsV_get hj', rowF_len]
  unfold marksI rowF
  apply List.map_congr_left
  intro i _
  show k0 + ((j * n : Nat) : Int) + (i : Int) = k0 + ((id j * n + i : Nat) : Int)
  simp only [id]
  omega
theorem markRowsX_c (rs : List (List Int)) (A : Option Addr) (cap lo hi : Nat) (k0 : Int) (w : World) (h : RowsX w lo hi A rs) (hn : rs.length ≤ 1048576) (hr : ∀ k, k < rs.length → (rs.getD k []).length ≤ 1048576) (hk0 : 0 ≤ k0) (hk1 : k0 + (tot rs rs.length : Int) ≤ 10000000) :
    Calls Try.prog 93 #[.slice A rs.length cap, .int .i64 k0] w fun e w' => e = .returned (.int .i64 (k0 + (tot rs rs.length : Int))) ∧ Within lo hi w w' ∧ RowsX w' lo hi A (marksR k0 rs) := by
  rcases h with h | ⟨gh, g, h1, n, f, rfl, rfl, e3, e4, r⟩
  · refine (markRows_c rs A cap lo hi k0 w h hn hr hk0 hk1).mono ?_
    rintro e w1 ⟨rfl, q1, q2⟩
    exact ⟨rfl, q1, .inl q2⟩
  · rw [rowsV_len] at hk1 ⊢
    rw [rowsV_tot h1 n id f h1 (Nat.le_refl _)] at hk1 ⊢
    refine (markRowsF_c h1 n gh g lo hi cap f k0 w r e3 e4 hk0 hk1).mono ?_
    rintro e w1 ⟨rfl, q1, q2⟩
    exact ⟨rfl, q1, .inr ⟨gh, g, h1, n, _, rfl, rowsV_marks k0 h1 n f, e3, e4, q2⟩⟩
end Go.Proofs.Ytdkpmaahinbhlaa
/- What impl.NullspaceOf answers. No condition. -/
namespace Go.Proofs.Ytdkpmaahinbhlaa
open Go.RowKit

theorem nullF_succ (s : Red) (free t j : Nat) : nullF s free (t + 1) j = if j = free then s.D else if s.pv.getD t 0 = j then -s.R t free else nullF s free t j := by
  show (if j = free then _ else _) = _
  rfl
theorem nullF_free (s : Red) (free t : Nat) : nullF s free t free = s.D := by
  unfold nullF; rw [if_pos rfl]

set_option maxHeartbeats 8000000 in
set_option maxRecDepth 100000 in
theorem nvec_c (M n k gh g lo hi cp plo phi : Nat) (p : Nat → Nat) (f : Nat → Int) (Ap : Option Addr) (s : Red) (w : World) (hS : RedS n M s n) (h0 : 0 < M) (h9 : M ≤ 24) (hL : LimS n M s) (h12 : n ≤ 12) (hk : k < n) (hnf : ∀ t, t < s.pv.length → s.pv.getD t 0 ≠ k)
    (hR : RowsF w lo hi gh g M n p f) (hP : OwnR w plo phi Ap cp (pvI s)) (hV : ∀ i, i < M → ∀ j, j < n → f (p i * n + j) = s.R i j) :
    Calls Try.prog 151 #[.agg #[.slice (some ⟨gh, 0, none⟩) M M, .slice Ap (pvI s).length cp, .int .i64 s.D], .int .i64 (k : Int)] w fun e w' => ∃ A' c', e = .returned (.slice A' n c') ∧ OwnInts w' w.heap.size w'.heap.size A' c' (nullV n s k) ∧ Below w.heap.size w w' := by
  have HS := Lib.hid hS
  have HNF := Lib.hid hnf
  have HV := Lib.hid hV
  have HNV := Lib.hid (hS.nullF_ok hL hk)
  have HPL := Lib.hid (pvI_len s)
  have hle : (pvI s).length ≤ M := by rw [pvI_len]; exact hS.bar.le
  have HLM := Lib.hid (fun (i j : Nat) (hi : i < M) (hj : j < n) => hL.lim hi hj)
  obtain ⟨cs, hcs⟩ : ∃ cs, pvI s = cs := ⟨_, rfl⟩
  rw [hcs] at hP HPL hle ⊢
  have HCS := Lib.hid hcs
  obtain ⟨D, hD⟩ : ∃ D, s.D = D := ⟨_, rfl⟩
  have HD := Lib.hid hD
  rw [hD]
  have hal := new_below w (.cells #[.slice (some ⟨gh, 0, none⟩) M M, .slice Ap cs.length cp, .int .i64 D] 142)
  have HBA := Lib.hid hal
  have HBX := Lib.hid (cel3_new w (.slice (some ⟨gh, 0, none⟩) M M) (.slice Ap cs.length cp) (.int .i64 D) 142)
  have HR := Lib.hid (hR.within (within_of hal) (.inr (Nat.zero_le _)))
  have HP := Lib.hid (hP.within (within_of hal) (.inr (Nat.zero_le _)))
  have hsz : (w.alloc (.cells #[.slice (some ⟨gh, 0, none⟩) M M, .slice Ap cs.length cp, .int .i64 D] 142)).heap.size = w.heap.size + 1 := by simp
  have HSZ := Lib.hid hsz
  clear hS hL hnf hV hcs hD hal hR hP hsz
  go_enter Try.func151, Try.ntmps151
  have hMi : (0 : Int) < (M : Int) := by omega
  obtain ⟨b0, b1, b2, q0, q1, q2⟩ := Cel3.cells HBX.out
  have ch := HR.out.head h0
  go_wp2_with (at_make; refine wpList_mkn _ rfl _ _ 29 rfl (w.alloc (.cells #[.slice (some ⟨gh, 0, none⟩) M M, .slice Ap cs.length cp, .int .i64 D] 142)).heap.size 3 (.int .i64 0) 8 Try.underlying29 infoInt rfl _ _ _ _ n rfl rfl rfl rfl (by omega) (by unfold maxLen; omega) (Nat.le_refl _) ?_; intro w6 hown6 hb6; rw [rowF_zero, HSZ.out] at hown6; have hF6 : FlatAt w6 (w.heap.size + 1) n (fun _ => 0) := hown6; have hd6 := hF6.cell hk; have hz6 := World.ownsRow.frozenAt hown6 k; have hx6 := Cel3.kept HBX.out hb6; obtain ⟨s0, s1, s2, _⟩ := Cel3.cells hx6; have hx7 := Cel3.within hx6 (flat_store hF6 hk D).2 (.inl (Nat.lt_succ_self _)); obtain ⟨y0, y1, y2, _⟩ := Cel3.cells hx7; have HX7 := Lib.hid hx7; have HF6 := Lib.hid (flat_store hF6 hk D); have HB6 := Lib.hid hb6; have HL6 := Lib.hid hF6.lt; have HX6 := Lib.hid hx6; clear hown6 hF6 hb6 hx6 hx7)
  have HR7 := Lib.hid ((HR.out.within (within_of HB6.out) (.inr (Nat.zero_le _))).within HF6.out.2 (.inl (by have := HR.out.top; rw [HSZ.out] at this; exact this)))
  have HP7 := Lib.hid ((HP.out.within (within_of HB6.out) (.inr (Nat.zero_le _))).within HF6.out.2 (.inl (by have := HP.out.1; rw [HSZ.out] at this; exact this)))
  have HB7 := Lib.hid (within_on (HBA.out.trans (HB6.out.mono (by rw [HSZ.out]; omega))) HF6.out.2 (by have := HL6.out; omega) (.inl (Nat.le_succ _)))
  have HF7 := Lib.hid HF6.out.1
  have HRT := Lib.hid (show hi ≤ w.heap.size + 1 ∧ phi ≤ w.heap.size + 1 from ⟨by have := HR.out.top; rw [HSZ.out] at this; exact this, by have := HP.out.1; rw [HSZ.out] at this; exact this⟩)
  clear HF6 hd6 hz6 s0 s1 s2 y0 y1 y2 b0 b1 b2 q0 q1 q2 ch HR HP HBX HBA HX6
  obtain ⟨bs, hbs⟩ : ∃ b, w.heap.size = b := ⟨_, rfl⟩
  rw [hbs] at HR7 HP7 HF7 HX7 HB7 HRT ⊢
  have HBS := Lib.hid hbs
  clear hbs
  generalize w6.setCell ⟨bs + 1, k, none⟩ (.int .i64 D) = w7 at *
  go_loopw [6, 7, 22] (fun _ _ i w' => ∃ (t : Nat) (fv : Nat → Int), t ≤ cs.length ∧ i = .int .i64 t ∧ FlatAt w' (bs + 1) n fv ∧ (∀ j, j < n → fv j = nullF s k t j) ∧ Within (bs + 1) (bs + 1 + 1) w7 w') (fun _ _ i _ => cs.length - (intOf i).toNat)
  case atStart => exact ⟨0, _, by omega, rfl, HF7.out, fun j hj => by
    unfold nullF
    rw [HD.out], Within.refl _ _ _⟩
  case round =>
    obtain ⟨t, fv, ht, rfl, hfv, hvv, hw8⟩ := hrel
    have HFV := Lib.hid hfv
    have HVV := Lib.hid hvv
    have HW8 := Lib.hid hw8
    have HX8 := Lib.hid (Cel3.within HX7.out hw8 (.inl (Nat.lt_succ_self _)))
    have HR8 := Lib.hid (HR7.out.within hw8 (.inl HRT.out.1))
    have HP8 := Lib.hid (HP7.out.within hw8 (.inl HRT.out.2))
    clear hfv hvv hw8
    by_cases htc : t < cs.length
    · have hti : (t : Int) < (cs.length : Int) := by omega
      have htp : t < s.pv.length := by have := HPL.out; omega
      have htM : t < M := by omega
      have htMi : (t : Int) < (M : Int) := by omega
      have hct := (HS.out.pv_lt htp).1
      have hcne := HNF.out t htp
      have hc1 := HR8.out.head htM
      have hnum := HR8.out.num.cell (at_row (HR8.out.per t htM) hk)
      rw [HV.out t htM k hk] at hnum
      have hlm := HLM.out t k htM hk
      have hcr := HP8.out.ints.reads
      obtain ⟨bc, oc, rfl, _, _, hcc⟩ := hcr.2 (by omega)
      have hcv := hcc t htc
      have hgv : cs.getD t 0 = ((s.pv.getD t 0 : Nat) : Int) := by rw [← HCS.out]; exact pvI_get htp
      rw [hgv] at hcv
      have HNE := Lib.hid (fun j => nullF_succ s k t j)
      have hdc := HFV.out.cell hct
      have hzc := World.ownsRow.frozenAt HFV.out (s.pv.getD t 0)
      obtain ⟨ct, hctE⟩ : ∃ c, s.pv.getD t 0 = c := ⟨_, rfl⟩
      rw [hctE] at hct hcv hdc hzc HNE hcne
      obtain ⟨r, hr⟩ : ∃ r, s.R t k = r := ⟨_, rfl⟩
      rw [hr] at hnum hlm HNE
      obtain ⟨P0, hP0⟩ : ∃ q, p t * n = q := ⟨_, rfl⟩
      rw [hP0] at hc1 hnum
      obtain ⟨y, hy⟩ : ∃ y, -r = y := ⟨_, rfl⟩
      rw [hy] at HNE
      have hki : (k : Int) < (n : Int) := by omega
      have hcti : (ct : Int) < (n : Int) := by omega
      obtain ⟨b0, b1, b2, q0, q1, q2⟩ := Cel3.cells HX8.out
      have hst := flat_store HFV.out hct y
      have HFV3 := Lib.hid hst.1
      have HW9 := Lib.hid (HW8.out.trans hst.2)
      clear hcr hcc hgv hctE hr hP0 hst
      go_wp2_with fail
      go_roundw
      case rel => exact ⟨t + 1, _, by omega, by go_num, HFV3.out, fun j hj => by
        rw [HNE.out j]
        by_cases e : j = ct
        · rw [if_pos e, if_neg (by rw [e]; exact hcne), if_pos e.symm]
        · rw [if_neg e, HVV.out j hj]
          by_cases e2 : j = k
          · rw [if_pos e2, e2, nullF_free]
          · rw [if_neg e2, if_neg (fun h => e h.symm)], HW9.out⟩
      case measure => simp [intOf]; omega
    · obtain rfl : t = cs.length := by omega
      have hrw : rowF n fv = rowF n (nullF s k s.pv.length) := rowF_congr fun j hj => by rw [HVV.out j hj, HPL.out]
      have hPV := implPv (rowF n fv) (some ⟨bs + 1, 0, none⟩) n (bs + 1) (bs + 1 + 1) wr (flat_ints HFV.out (Nat.le_refl _) (Nat.lt_succ_self _) HFV.out.lt) (by rw [rowF_len]; omega)
      rw [rowF_len, hrw, HNV.out, nullV_len] at hPV
      have HPV := Lib.hid hPV
      have hsz7 := HB7.out.size
      rw [HBS.out] at hsz7
      have HB8 := Lib.hid (within_on HB7.out HW8.out hsz7 (.inl (Nat.le_succ _)))
      clear hrw hPV
      go_wp2_with fail
      refine HPV.out.mono ?_
      rintro e w3 ⟨Ar, cr, rfl, ho3, hb3⟩
      have hs8 := HW8.out.size
      have HO3 := Lib.hid (ho3.widen (lo' := bs) (by omega) (Nat.le_refl _) (Nat.le_refl _))
      have HB3 := Lib.hid (below_on HB8.out hb3 (by omega))
      clear ho3 hb3
      go_wp2_with fail
      go_ret
      exact ⟨Ar, cr, rfl, by rw [HBS.out]; exact HO3.out, by rw [HBS.out]; exact HB3.out⟩
end Go.Proofs.Ytdkpmaahinbhlaa
/- What impl.NullspaceOf answers: the vectors of its free columns. No condition. -/
namespace Go.Proofs.Ytdkpmaahinbhlaa
open Go.RowKit

theorem own_widen {W : World} {lo hi lo' hi' : Nat} {A : Option Addr} {rs : List (List Int)} (h : RowsOwn W lo hi A rs) (h1 : lo' ≤ lo) (h2 : hi ≤ hi') (h3 : hi' ≤ W.heap.size) : RowsOwn W lo' hi' A rs :=
  ⟨h3, fun hl => by
    obtain ⟨g, r, S, e, q1, q2, hd, hc⟩ := h.2 hl
    exact ⟨g, r, S, e, by omega, by omega, hd, fun k hk => by
      obtain ⟨c1, c2, c3, c4, c5⟩ := hc k hk
      exact ⟨c1, c2, by omega, by omega, c5⟩⟩⟩
set_option maxHeartbeats 8000000 in
set_option maxRecDepth 100000 in
theorem implNul (m : List (List Int)) (A : Option Addr) (cap lo hi : Nat) (w : World) (hl : RowsIn w lo hi A m) (hn : m.length ≤ 1048576) (hr : ∀ k, k < m.length → (m.getD k []).length ≤ 1048576) :
    Calls Try.prog 60 #[.slice A m.length cap] w fun e w' => ∃ A' c', e = .returned (.slice A' (nulV m).length c') ∧ RowsX w' w.heap.size w'.heap.size A' (nulV m) ∧ Below w.heap.size w w' := by
  have HMAT := Lib.hid (implMat m A cap lo hi w hl hn hr)
  by_cases hM : MatP m
  · have HV := Lib.hid (show nulV m = nulK (widM m) (Red.run m.length (atM m) (widM m)) (widM m) from if_pos (isMatB_yes hM))
    rw [isMatB_yes hM] at HMAT
    have HRD := Lib.hid (rdm_c m hM.q A cap lo hi w hl)
    obtain ⟨b, off, S0, rfl, hbw, hc⟩ := rows_fn hl hM.h0
    have HC := Lib.hid hc
    have h0 := hM.h0
    have h9 := hM.h9
    have h12 := hM.w12
    have hS := hM.red (c := widM m) (Nat.le_refl _)
    have hL := hM.q.limS (c := widM m) (Nat.le_refl _)
    have hw0 := (hM.row 0 h0).1
    clear hc hl hr hM
    obtain ⟨n, hn'⟩ : ∃ n, widM m = n := ⟨_, rfl⟩
    rw [hn'] at hw0 HRD HV h12 hS hL
    obtain ⟨M, hMM⟩ : ∃ M, m.length = M := ⟨_, rfl⟩
    have HMM := Lib.hid hMM
    rw [hMM] at h0 h9 hS hL HRD HV HMAT ⊢
    obtain ⟨s, hs⟩ : ∃ s, Red.run M (atM m) n = s := ⟨_, rfl⟩
    rw [hs] at hS hL HRD HV
    have HS := Lib.hid hS
    have HLS := Lib.hid hL
    clear hn' hMM hs hS hL
    have hsl : (0 : Int) < (M : Int) := by omega
    go_enter Try.func60, Try.ntmps60
    go_wp2_with fail
    refine HMAT.out.mono ?_
    rintro e w1 ⟨rfl, rfl⟩
    go_wp2_with fail
    refine HRD.out.mono ?_
    rintro e w2 ⟨gh, g, p, f, Ap, cp, plo, phi, lo2, hi2, rfl, hR, hP, hV, hlow, hb2⟩
    have hal := new_below w2 (.cells #[.slice (some ⟨gh, 0, none⟩) M M, .slice Ap (pvI s).length cp, .int .i64 s.D] 142)
    have HBX := Lib.hid (cel3_new w2 (.slice (some ⟨gh, 0, none⟩) M M) (.slice Ap (pvI s).length cp) (.int .i64 s.D) 142)
    have HR := Lib.hid (hR.within (within_of hal) (.inr (Nat.zero_le _)))
    have HP := Lib.hid (hP.within (within_of hal) (.inr (Nat.zero_le _)))
    have HVV := Lib.hid hV
    have HB2 := Lib.hid (below_on hb2 hal hb2.size)
    have HTOPS := Lib.hid (show hi2 ≤ w2.heap.size ∧ phi ≤ w2.heap.size from ⟨hR.top, hP.1⟩)
    have hsz : (w2.alloc (.cells #[.slice (some ⟨gh, 0, none⟩) M M, .slice Ap (pvI s).length cp, .int .i64 s.D] 142)).heap.size = w2.heap.size + 1 := by simp
    have HSZ := Lib.hid hsz
    have hws := hb2.size
    have HWS := Lib.hid hws
    have c0 := rows_cell hbw HC.out HB2.out (i := 0) (by rw [HMM.out]; exact h0)
    rw [Nat.add_zero, hw0] at c0
    clear hR hP hV hal hb2 hsz hlow
    go_wp2_with fail
    generalize w2.alloc (.cells #[.slice (some ⟨gh, 0, none⟩) M M, .slice Ap (pvI s).length cp, .int .i64 s.D] 142) = w3 at *
    clear c0
    have HG0 := Lib.hid (RowsG.nil w3)
    go_loopw [4, 5, 15] (fun o _ i w' => ∃ (k T lo3 hi3 : Nat) (A' : Option Addr) (c' : Nat), k ≤ n ∧ i = .int .i64 k ∧ o = .slice A' (nulK n s k).length c' ∧ RowsG w' w3.heap.size T lo3 hi3 A' c' (nulK n s k) ∧ Below w3.heap.size w3 w') (fun _ _ i _ => n - (intOf i).toNat)
    case atStart => exact ⟨0, _, _, _, _, _, Nat.zero_le _, rfl, rfl, HG0.out, Below.refl _ _⟩
    case round =>
      obtain ⟨k, T, lo3, hi3, A2, c2, hk, rfl, rfl, hrg, hb⟩ := hrel
      have HRG := Lib.hid hrg
      have HB := Lib.hid hb
      have HX := Lib.hid (Cel3.kept HBX.out hb)
      have HRK := Lib.hid (HR.out.within (within_of hb) (.inr (Nat.zero_le _)))
      have HPK := Lib.hid (HP.out.within (within_of hb) (.inr (Nat.zero_le _)))
      clear hrg hb
      by_cases hkn : k < n
      · have hki : (k : Int) < (n : Int) := by omega
        have HNK := Lib.hid (show nulK n s (k + 1) = if (k : Int) ∈ pvI s then nulK n s k else nulK n s k ++ [nullV n s k] from rfl)
        have HLK := Lib.hid (nulK_len n s k)
        obtain ⟨os, hos⟩ : ∃ os, nulK n s k = os := ⟨_, rfl⟩
        rw [hos] at HRG HNK HLK ⊢
        clear hos
        have hple : (pvI s).length ≤ 1048576 := by
          have := HS.out.bar.le
          rw [pvI_len]; omega
        have HHC := Lib.hid (slContains (pvI s) (k : Int) Ap cp _ _ wr HPK.out.ints.reads hple)
        obtain ⟨b0, b1, b2, q0, q1, q2⟩ := Cel3.cells HX.out
        by_cases hin : (k : Int) ∈ pvI s
        · rw [decide_eq_true hin] at HHC
          have HN := Lib.hid (show nulK n s (k + 1) = os by rw [HNK.out, if_pos hin])
          clear hin
          go_wp2_with fail
          refine HHC.out.mono ?_
          rintro e w5 ⟨rfl, rfl⟩
          go_wp2_with fail
          go_roundw
          case rel => exact ⟨k + 1, T, lo3, hi3, A2, c2, by omega, by go_num, by rw [HN.out], by rw [HN.out]; exact HRG.out, HB.out⟩
          case measure => simp [intOf]; omega
        · rw [decide_eq_false hin] at HHC
          have HN := Lib.hid (show nulK n s (k + 1) = os ++ [nullV n s k] by rw [HNK.out, if_neg hin])
          have HNV := Lib.hid (nvec_c M n k gh g lo2 hi2 cp plo phi p f Ap s wr HS.out h0 (by omega) HLS.out h12 hkn (fun t ht e => hin (pv_mem.2 ⟨t, ht, e⟩)) HRK.out HPK.out HVV.out)
          have HNL := Lib.hid (nullV_len n s k)
          obtain ⟨nv, hnv⟩ : ∃ v, nullV n s k = v := ⟨_, rfl⟩
          rw [hnv] at HNV HN HNL
          clear hin hnv
          go_wp2_with fail
          refine HHC.out.mono ?_
          rintro e w5 ⟨rfl, rfl⟩
          go_wp2_with fail
          refine HNV.out.mono ?_
          rintro e w5 ⟨Ar, cr, rfl, ho5, hb5⟩
          have HO3 := Lib.hid ho5
          have HB3 := Lib.hid (below_on HB.out hb5 HB.out.size)
          have HRG5 := Lib.hid (HRG.out.below hb5)
          have HTOP := Lib.hid (show T ≤ wr.heap.size from HRG.out.top)
          have hos3 : os.length ≤ 1048576 := by have := HLK.out; omega
          clear ho5 hb5 b0 b1 b2 q0 q1 q2
          obtain ⟨zs, r, S', z1, z2, z3, z4⟩ := HRG5.out.rows
          have HZ1 := Lib.hid z1
          have HZ2 := Lib.hid z2
          have HZ3 := Lib.hid (show RowsP _ w3.heap.size T lo3 hi3 zs os from ⟨r, S', z3, z4⟩)
          have HLO := Lib.hid (show lo3 ≤ _ from Nat.le_trans HRG5.out.out.2.1 HRG5.out.top)
          have HOB := Lib.hid (HRG5.out.out.1)
          clear z1 z2 z3 z4
          go_wp2_with (at_builtin; refine wpList_pushS _ rfl _ _ rfl lo3 hi3 A2 c2 zs (.slice Ar n cr) rfl (by rw [HZ1.out]; rfl) HZ2.out _ rfl (by have := HZ1.out; omega) HLO.out ?_; intro A7 c7 w8 lo7 hi7 ho7 hd7 hw7; have HO7 := Lib.hid ho7; have HD7 := Lib.hid hd7; have HW7 := Lib.hid hw7; clear ho7 hd7 hw7)
          have HRG7 := Lib.hid (HRG5.out.push (q := (wr.heap.size, w5.heap.size)) (x := nv) HO3.out HTOP.out HZ1.out HZ3.out (by rw [HNL.out]; exact HO7.out) HD7.out HW7.out)
          go_roundw
          case rel => exact ⟨k + 1, _, _, _, _, _, by omega, by go_num, by rw [HN.out, List.length_append, HZ1.out]; rfl, by rw [HN.out]; exact HRG7.out, within_on HB3.out HW7.out HB3.out.size (.inl HOB.out)⟩
          case measure => simp [intOf]; omega
      · obtain rfl : k = n := by omega
        go_wp2_with fail
        go_ret
        have hcells := HRG.out.cells
        have ht := HRG.out.top
        have hw3 : w.heap.size ≤ w3.heap.size := by have := HWS.out; have := HSZ.out; omega
        rw [HV.out]
        exact ⟨A2, c2, rfl, .inl (own_widen hcells hw3 ht (Nat.le_refl _)), below_on HB2.out HB.out hw3⟩
  · rw [isMatB_no hM] at HMAT
    have HV := Lib.hid (show nulV m = [] from if_neg (by rw [isMatB_no hM]; decide))
    clear hl hr hM
    go_enter Try.func60, Try.ntmps60
    go_wp2_with fail
    refine HMAT.out.mono ?_
    rintro e w1 ⟨rfl, rfl⟩
    go_wp2_with fail
    go_ret
    exact ⟨none, 0, by rw [HV.out]; rfl, by rw [HV.out]; exact .inl ⟨Nat.le_refl _, fun h => absurd h (by simp)⟩, Below.refl _ _⟩
end Go.Proofs.Ytdkpmaahinbhlaa
/- What spec.TransposeMatrix answers. No condition. -/
namespace Go.Proofs.Ytdkpmaahinbhlaa
open Go.RowKit

/-- The first k columns. -/
def trK (m : List (List Int)) (k : Nat) : List (List Int) := (List.range k).map fun j => rowF m.length fun i => atM m i j
theorem trK_succ (m : List (List Int)) (k : Nat) : trK m (k + 1) = trK m k ++ [rowF m.length fun i => atM m i k] := by unfold trK; rw [List.range_succ, List.map_append]; rfl
theorem trK_len (m : List (List Int)) (k : Nat) : (trK m k).length = k := by unfold trK; rw [List.length_map, List.length_range]
theorem trV_len (m : List (List Int)) : (trV m).length ≤ 12 := by
  unfold trV
  split
  · rename_i h
    have := (isMatB_iff.1 h).w12
    unfold trL
    rw [List.length_map, List.length_range]; exact this
  · simp
theorem trV_row (m : List (List Int)) (k : Nat) : ((trV m).getD k []).length ≤ 9 := by
  unfold trV
  split
  · rename_i h
    have := (isMatB_iff.1 h).h9
    by_cases hk : k < widM m
    · have : (trL m).getD k [] = rowF m.length fun i => atM m i k := by unfold trL; simp [List.getD, hk]
      rw [this, rowF_len]; assumption
    · have : (trL m).getD k [] = [] := by unfold trL; simp [List.getD, hk]
      rw [this]; simp
  · simp
theorem rowsIn_widen {W : World} {lo hi lo' hi' : Nat} {A : Option Addr} {rs : List (List Int)} (h : RowsIn W lo hi A rs) (h1 : lo' ≤ lo) (h2 : hi ≤ hi') (h3 : hi' ≤ W.heap.size) : RowsIn W lo' hi' A rs :=
  ⟨h3, fun hl => by
    obtain ⟨b, off, e, q1, q2, hc⟩ := h.2 hl
    exact ⟨b, off, e, by omega, by omega, fun k hk => by
      obtain ⟨A', c', p1, p2⟩ := hc k hk
      exact ⟨A', c', p1, p2.widen h1 h2 h3⟩⟩⟩
theorem rowsIn_below {W W' : World} {lo hi : Nat} {A : Option Addr} {rs : List (List Int)} (h : RowsIn W lo hi A rs) (hb : Below W.heap.size W W') : RowsIn W' lo hi A rs := h.within (within_of hb) (.inr (Nat.zero_le _))

set_option maxHeartbeats 4000000 in
set_option maxRecDepth 100000 in
theorem specTr (m : List (List Int)) (A : Option Addr) (cap lo hi : Nat) (w : World) (hl : RowsIn w lo hi A m) (hn : m.length ≤ 1048576) (hr : ∀ k, k < m.length → (m.getD k []).length ≤ 1048576) :
    Calls Try.prog 67 #[.slice A m.length cap] w fun e w' => ∃ A' c', e = .returned (.slice A' (trV m).length c') ∧ RowsIn w' w.heap.size w'.heap.size A' (trV m) ∧ Below w.heap.size w w' := by
  have HL := Lib.hid hl
  have HMAT := Lib.hid (fun (W : World) (h : RowsIn W lo hi A m) => specMat m A cap lo hi W h hn hr)
  have HAL := Lib.hid (new_below w (.cells #[] 29))
  have HG0 := Lib.hid (RowsG.made w)
  have HSZ := Lib.hid (show (w.alloc (.cells #[] 29)).heap.size = w.heap.size + 1 by simp)
  by_cases hM : MatP m
  · rw [isMatB_yes hM] at HMAT
    have HTV := Lib.hid (show trV m = trK m (widM m) by unfold trV; rw [if_pos (isMatB_yes hM)]; rfl)
    obtain ⟨b, off, S, rfl, hbw, hc⟩ := rows_fn hl hM.h0
    have HC := Lib.hid hc
    have h0 := hM.h0
    have h9 := hM.h9
    have HROW := Lib.hid hM.row
    have hw0 := (hM.row 0 h0).1
    have h12 := hM.w12
    have h1 := hM.w1
    clear hc hl hr hM
    obtain ⟨n, hn'⟩ : ∃ n, widM m = n := ⟨_, rfl⟩
    rw [hn'] at HTV hw0 h12 h1
    have HWID := Lib.hid hn'
    clear hn'
    go_enter Try.func67, Try.ntmps67
    go_wp2_with fail
    generalize w.alloc (.cells #[] 29) = wA at *
    go_loopw [3, 4] (fun o i w' => ∃ (k T lo2 hi2 : Nat) (A' : Option Addr) (c' : Nat), k ≤ n ∧ i = .int .i64 k ∧ o = .slice A' k c' ∧ RowsG w' w.heap.size T lo2 hi2 A' c' (trK m k) ∧ Below w.heap.size w w') (fun _ i _ => n - (intOf i).toNat)
    case atStart => exact ⟨0, _, _, _, _, _, Nat.zero_le _, rfl, rfl, HG0.out, HAL.out⟩
    case round =>
      obtain ⟨k, T, lo2, hi2, A2, c2, hk, rfl, rfl, hrg, hb⟩ := hrel
      have HRG := Lib.hid hrg
      have HB := Lib.hid hb
      clear hrg hb
      have hsl : (0 : Int) < (m.length : Int) := by omega
      go_wp2_with fail
      refine (HMAT.out _ (rowsIn_below HL.out HB.out)).mono ?_
      rintro e wz ⟨rfl, hbz⟩
      have HRGZ := Lib.hid (HRG.out.below hbz)
      have HBZ := Lib.hid (below_on HB.out hbz HB.out.size)
      clear hbz
      have c0 := rows_cell hbw HC.out HBZ.out (i := 0) h0
      rw [Nat.add_zero, hw0] at c0
      obtain ⟨⟨A0, cz⟩, hS0⟩ : ∃ s, S 0 = s := ⟨_, rfl⟩
      rw [hS0] at c0
      dsimp only at c0
      by_cases hkn : k < n
      · have hki : (k : Int) < (n : Int) := by omega
        clear hS0
        obtain ⟨wy, rfl⟩ : ∃ x, x = wz := ⟨wz, rfl⟩
        have hal := new_below wy (.cells #[] 3)
        have HAL2 := Lib.hid hal
        have HOE := Lib.hid (ownR_empty wy)
        have HSZ2 := Lib.hid (show (wy.alloc (.cells #[] 3)).heap.size = wy.heap.size + 1 by simp)
        have HB3 := Lib.hid (below_on HBZ.out hal HBZ.out.size)
        have HG3 := Lib.hid (show GrowP wy.heap.size (wy.heap.size + 1) (wy.alloc (.cells #[] 3)) (wy.alloc (.cells #[] 3)) (rowF 0 fun i => atM m i k) (some ⟨wy.heap.size, 0, none⟩) 0 wy.heap.size (wy.heap.size + 1) from ⟨HOE.out, .inl ⟨rfl, rfl⟩, (by have := HSZ2.out; omega), Within.refl _ _ _⟩)
        clear hal
        go_wp2_with fail
        clear c0
        generalize wy.alloc (.cells #[] 3) = wV at *
        go_loopw [5, 6] (fun o i w' => ∃ (x : Nat) (Ar : Option Addr) (cr lo3 hi3 : Nat), x ≤ m.length ∧ i = .int .i64 x ∧ o = .slice Ar (rowF x fun i => atM m i k).length cr ∧ GrowP wy.heap.size (wy.heap.size + 1) wV w' (rowF x fun i => atM m i k) Ar cr lo3 hi3) (fun _ i _ => m.length - (intOf i).toNat)
        case atStart => exact ⟨0, _, 0, _, _, Nat.zero_le _, rfl, rfl, HG3.out⟩
        case round =>
          obtain ⟨x, Ar, cr, lo3, hi3, hx, rfl, rfl, hg⟩ := hrel
          have HG := Lib.hid hg
          have hbw2 := within_on HB3.out hg.wi HB3.out.size (.inl HBZ.out.size)
          have HBX := Lib.hid hbw2
          have HBL := Lib.hid (within_on HAL2.out hg.wi HAL2.out.size (.inl (Nat.le_refl _)))
          clear hg hbw2
          have hl9 : (rowF x fun i => atM m i k).length ≤ 9 := by rw [rowF_len]; omega
          have HSTEP := Lib.hid (rowF_succ x fun i => atM m i k)
          have HLX := Lib.hid (rowF_len x fun i => atM m i k)
          have HEQ := Lib.hid (fun h : x = m.length => (show (rowF x fun i => atM m i k) = rowF m.length fun i => atM m i k by rw [h]))
          obtain ⟨ys, hys⟩ : ∃ ys, (rowF x fun i => atM m i k) = ys := ⟨_, rfl⟩
          rw [hys] at HG hl9 HSTEP HEQ HLX ⊢
          clear hys
          by_cases hxn : x < m.length
          · have hxi : (x : Int) < (m.length : Int) := by omega
            have hrl := (HROW.out x hxn).1
            have c1 := rows_cell hbw HC.out HBX.out hxn
            obtain ⟨bi, oi, e1, c2'⟩ := rows_num HC.out HBX.out hxn (show k < (m.getD x []).length by rw [hrl, HWID.out]; exact hkn)
            rw [e1, hrl, HWID.out] at c1
            obtain ⟨y, hy⟩ : ∃ y, atM m x k = y := ⟨_, rfl⟩
            rw [hy] at c2' HSTEP
            clear hy e1 hrl
            go_wp2_with (at_builtin; refine wpList_pushR _ rfl _ _ rfl lo3 hi3 Ar cr ys y rfl HG.out.row _ (by first | rfl | (simp only [World.size_setCell]; rfl)) (by omega) HG.out.le ?_; intro A6 c6 w16 lo6 hi6 hr6 hor6 hw6; have HG6 := Lib.hid (HG.out.push hr6 hor6 hw6); clear hr6 hor6 hw6)
            go_roundw
            case rel => exact ⟨x + 1, A6, c6, lo6, hi6, by omega, by go_num, by rw [HSTEP.out, List.length_append]; rfl, by rw [HSTEP.out]; exact HG6.out⟩
            case measure => simp [intOf]; omega
          · have hxe : x = m.length := by omega
            have HY := Lib.hid (HEQ.out hxe)
            have HRG5 := Lib.hid (HRGZ.out.below HBL.out)
            have HOX := Lib.hid (HG.out.row.ints)
            have HTOP := Lib.hid (show T ≤ lo3 by have := HG.out.rng; have := HRGZ.out.top; have := HSZ2.out; omega)
            obtain ⟨zs, r, S', z1, z2, z3, z4⟩ := HRG5.out.rows
            rw [trK_len] at z1
            have HZ1 := Lib.hid z1
            have HZ2 := Lib.hid z2
            have HZ3 := Lib.hid (show RowsP _ w.heap.size T lo2 hi2 zs (trK m k) from ⟨r, S', z3, z4⟩)
            have HLO := Lib.hid (show lo2 ≤ _ from Nat.le_trans HRG5.out.out.2.1 HRG5.out.top)
            have HOB := Lib.hid (HRG5.out.out.1)
            clear z1 z2 z3 z4 hxe
            go_wp2_with (at_builtin; refine wpList_pushS _ rfl _ _ rfl lo2 hi2 A2 c2 zs (.slice Ar ys.length cr) rfl (by rw [HZ1.out]; rfl) HZ2.out _ rfl (by have := HZ1.out; omega) HLO.out ?_; intro A7 c7 w7 lo7 hi7 ho7 hd7 hw7; have HO7 := Lib.hid ho7; have HD7 := Lib.hid hd7; have HW7 := Lib.hid hw7; clear ho7 hd7 hw7)
            have HRG7 := Lib.hid (HRG5.out.push (q := (lo3, hi3)) HOX.out HTOP.out (HZ1.out.trans (trK_len _ _).symm) HZ3.out HO7.out HD7.out HW7.out)
            go_roundw
            case rel => exact ⟨k + 1, _, _, _, _, _, by omega, by go_num, by rw [HZ1.out], by rw [trK_succ, ← HY.out]; exact HRG7.out, within_on HBX.out HW7.out HBX.out.size (.inl HOB.out)⟩
            case measure => simp [intOf]; omega
      · obtain rfl : k = n := by omega
        clear hS0
        go_wp2_with fail
        go_ret
        have ht := HRGZ.out.top
        refine ⟨A2, c2, by rw [HTV.out, trK_len]; rfl, ?_, HBZ.out⟩
        rw [HTV.out]
        exact rowsIn_widen HRGZ.out.cells.reads (Nat.le_refl _) ht (Nat.le_refl _)
  · rw [isMatB_no hM] at HMAT
    have HTV := Lib.hid (show trV m = [] by unfold trV; rw [isMatB_no hM]; rfl)
    clear hl hr hM
    go_enter Try.func67, Try.ntmps67
    go_wp2_with fail
    generalize w.alloc (.cells #[] 29) = wA at *
    refine wp_loop_rounds 1 ?_
    rw [rounds_succ]
    go_wp2_with fail
    refine (HMAT.out _ (rowsIn_below HL.out HAL.out)).mono ?_
    rintro e wz ⟨rfl, hbz⟩
    have HBZ := Lib.hid (below_on HAL.out hbz HAL.out.size)
    clear hbz
    go_wp2_with fail
    go_ret
    exact ⟨_, _, by rw [HTV.out]; rfl, by rw [HTV.out]; exact ⟨Nat.le_refl _, fun h => absurd h (by simp)⟩, HBZ.out⟩
end Go.Proofs.Ytdkpmaahinbhlaa
/- What impl.TransposeMatrix answers. No condition. -/
namespace Go.Proofs.Ytdkpmaahinbhlaa
open Go.RowKit

set_option maxHeartbeats 4000000 in
set_option maxRecDepth 100000 in
theorem implTr (m : List (List Int)) (A : Option Addr) (cap lo hi : Nat) (w : World) (hl : RowsIn w lo hi A m) (hn : m.length ≤ 1048576) (hr : ∀ k, k < m.length → (m.getD k []).length ≤ 1048576) :
    Calls Try.prog 66 #[.slice A m.length cap] w fun e w' => ∃ A' c', e = .returned (.slice A' (trV m).length c') ∧ RowsX w' w.heap.size w'.heap.size A' (trV m) ∧ Below w.heap.size w w' := by
  have HMAT := Lib.hid (implMat m A cap lo hi w hl hn hr)
  by_cases hM : MatP m
  · rw [isMatB_yes hM] at HMAT
    have HTV := Lib.hid (show trV m = trL m by unfold trV; rw [if_pos (isMatB_yes hM)])
    obtain ⟨b, off, S, rfl, hbw, hc⟩ := rows_fn hl hM.h0
    have HC := Lib.hid hc
    have h0 := hM.h0
    have h9 := hM.h9
    have HROW := Lib.hid hM.row
    have hw0 := (hM.row 0 h0).1
    have h12 := hM.w12
    have h1 := hM.w1
    clear hl hr hM
    obtain ⟨n, hn'⟩ : ∃ n, widM m = n := ⟨_, rfl⟩
    rw [hn'] at hw0 h12 h1
    have HWID := Lib.hid hn'
    have c0 := (hc 0 h0).1
    rw [Nat.add_zero, hw0] at c0
    clear hn' hc hw0
    have hsl : (0 : Int) < (m.length : Int) := by omega
    go_enter Try.func66, Try.ntmps66
    go_wp2_with fail
    refine HMAT.out.mono ?_
    rintro e wz ⟨rfl, rfl⟩
    go_wp2_with fail
    refine (newRows_c n m.length w (by omega) (by omega) h0).mono ?_
    rintro e w1 ⟨gh, g, rfl, hf, hb⟩
    have HF := Lib.hid hf
    have HB1 := Lib.hid hb
    clear hf hb c0
    go_wp2_with fail
    obtain ⟨hi1, hhi⟩ : ∃ x, w1.heap.size = x := ⟨_, rfl⟩
    rw [hhi] at HF
    clear hhi
    go_loopw [4, 5, 20] (fun _ _ i wr => ∃ (k : Nat) (f : Nat → Int), k ≤ m.length ∧ i = .int .i64 k ∧ RowsF wr w.heap.size hi1 gh g n m.length id f ∧ Below w.heap.size w wr ∧ ∀ c r, c < n → r < m.length → f (c * m.length + r) = if r < k then atM m r c else 0) (fun _ _ i _ => m.length - (intOf i).toNat)
    case atStart => exact ⟨0, _, by omega, rfl, HF.out, HB1.out, fun c r _ _ => (if_neg (by omega)).symm⟩
    case round =>
      obtain ⟨k, f, hk, rfl, hf, hb, hv⟩ := hrel
      have HF := Lib.hid hf
      have HB := Lib.hid hb
      have HV := Lib.hid hv
      clear hf hb hv
      by_cases hlt : k < m.length
      · have hki : (k : Int) < (m.length : Int) := by omega
        have hrl := (HROW.out k hlt).1
        have c1 := rows_cell hbw HC.out HB.out hlt
        rw [hrl, HWID.out] at c1
        obtain ⟨⟨A', c'⟩, hSk⟩ : ∃ s, S k = s := ⟨_, rfl⟩
        rw [hSk] at c1
        dsimp only at c1
        have HSK := Lib.hid hSk
        clear hSk hrl
        obtain ⟨wq, hwq⟩ : ∃ x, x = wr := ⟨_, rfl⟩
        rw [← hwq] at HF HB c1 ⊢
        clear hwq
        go_wp2_with fail
        clear c1
        go_loopw [6, 7, 27] (fun _ _ j wr2 => ∃ (t : Nat) (f2 : Nat → Int), t ≤ n ∧ j = .int .i64 t ∧ RowsF wr2 w.heap.size hi1 gh g n m.length id f2 ∧ Below w.heap.size w wr2 ∧ ∀ c r, c < n → r < m.length → f2 (c * m.length + r) = if r < k ∨ (r = k ∧ c < t) then atM m r c else 0) (fun _ _ j _ => n - (intOf j).toNat)
        case atStart => exact ⟨0, f, by omega, rfl, HF.out, HB.out, fun c r h1 h2 => by
          rw [HV.out c r h1 h2]
          by_cases e : r < k
          · rw [if_pos e, if_pos (.inl e)]
          · rw [if_neg e, if_neg (by omega)]⟩
        case round =>
          obtain ⟨t, f2, ht, rfl, hf2, hb2, hv2⟩ := hrel
          have HF2 := Lib.hid hf2
          have HB2 := Lib.hid hb2
          have HV2 := Lib.hid hv2
          clear hf2 hb2 hv2
          by_cases htn : t < n
          · have hti : (t : Int) < (n : Int) := by omega
            obtain ⟨bi, oi, e1, c2⟩ := rows_num HC.out HB2.out hlt (show t < (m.getD k []).length by rw [(HROW.out k hlt).1, HWID.out]; exact htn)
            rw [HSK.out] at e1
            dsimp only at e1
            subst e1
            obtain ⟨x, hx⟩ : ∃ x, atM m k t = x := ⟨_, rfl⟩
            rw [hx] at c2
            have HX := Lib.hid hx
            clear hx
            have c3 : wr.cell? ⟨gh, t, none⟩ = some (.slice (some ⟨g, t * m.length, none⟩) m.length m.length) := HF2.out.head htn
            have hidx : t * m.length + k < n * m.length := at_row htn hlt
            have hd := HF2.out.num.cell hidx
            have hfz := World.ownsRow.frozenAt HF2.out.num (t * m.length + k)
            have hst := HF2.out.store hidx x
            have HF3 := Lib.hid hst.1
            have HB3 := Lib.hid (within_on HB2.out hst.2 HB2.out.size (.inl HF2.out.nm.1))
            clear hst
            obtain ⟨K, hK⟩ : ∃ K, t * m.length = K := ⟨_, rfl⟩
            rw [hK] at c3 hd hfz HF3 HB3
            have HK := Lib.hid hK
            clear hK hidx
            go_wp2_with fail
            go_roundw
            case rel => exact ⟨t + 1, _, by omega, by go_num, HF3.out, HB3.out, fun c r h1 h2 => by
              by_cases e : c * m.length + r = K + k
              · rw [← HK.out] at e
                obtain ⟨rfl, rfl⟩ := at_inj h2 hlt e
                rw [if_pos (by rw [HK.out]), if_pos (by omega), HX.out]
              · rw [if_neg e, HV2.out c r h1 h2]
                have hne : ¬ (c = t ∧ r = k) := fun ⟨e1, e2⟩ => e (by rw [e1, e2, HK.out])
                by_cases e2 : r < k ∨ (r = k ∧ c < t)
                · rw [if_pos e2, if_pos (by omega)]
                · rw [if_neg e2, if_neg (by omega)]⟩
            case measure => simp [intOf]; omega
          · obtain rfl : t = n := by omega
            go_wp2_with fail
            go_roundw
            case rel => exact ⟨k + 1, f2, by omega, by go_num, HF2.out, HB2.out, fun c r h1 h2 => by
              rw [HV2.out c r h1 h2]
              by_cases e : r < k ∨ (r = k ∧ c < t)
              · rw [if_pos e, if_pos (by omega)]
              · rw [if_neg e, if_neg (by omega)]⟩
            case measure => simp [intOf]; omega
      · obtain rfl : k = m.length := by omega
        go_wp2_with fail
        go_ret
        have heq : trV m = rowsV n m.length id f := by
          rw [HTV.out]
          unfold trL rowsV
          rw [HWID.out]
          apply List.map_congr_left
          intro c hc
          apply rowF_congr
          intro r hr
          show _ = f (c * m.length + r)
          rw [HV.out c r (List.mem_range.1 hc) hr, if_pos hr]
        refine ⟨some ⟨gh, 0, none⟩, n, ?_, ?_, HB.out⟩
        · rw [heq, rowsV_len]; rfl
        · exact .inr ⟨gh, g, n, m.length, f, rfl, heq, by omega, by omega, HF.out.widen (Nat.le_refl _) HF.out.top (Nat.le_refl _)⟩
  · rw [isMatB_no hM] at HMAT
    have HTV := Lib.hid (show trV m = [] by unfold trV; rw [isMatB_no hM]; rfl)
    clear hl hr hM
    go_enter Try.func66, Try.ntmps66
    go_wp2_with fail
    refine HMAT.out.mono ?_
    rintro e wz ⟨rfl, rfl⟩
    go_wp2_with fail
    go_ret
    exact ⟨none, 0, by rw [HTV.out]; rfl, by rw [HTV.out]; exact .inl ⟨Nat.le_refl _, fun h => absurd h (by simp)⟩, Below.refl _ _⟩
end Go.Proofs.Ytdkpmaahinbhlaa
/- What spec.TimesVector answers. No condition. -/
namespace Go.Proofs.Ytdkpmaahinbhlaa
open Go.RowKit

theorem tmV_len (m : List (List Int)) (v : List Int) : (tmV m v).length ≤ 9 := by
  unfold tmV
  split
  · rename_i h
    have := (isMatB_iff.1 h.1).h9
    unfold tmL
    rw [rowF_len]; exact this
  · simp

set_option maxHeartbeats 4000000 in
set_option maxRecDepth 100000 in
theorem specTm (m : List (List Int)) (v : List Int) (A : Option Addr) (cap lo hi : Nat) (w : World) (hl : RowsIn w lo hi A m) (hn : m.length ≤ 1048576) (hr : ∀ k, k < m.length → (m.getD k []).length ≤ 1048576)
    (Av : Option Addr) (cv lo2 hi2 : Nat) (hv : IntsIn w lo2 hi2 Av v) (hnv : v.length ≤ 1048576) :
    Calls Try.prog 73 #[.slice A m.length cap, .slice Av v.length cv] w fun e w' => ∃ A' c', e = .returned (.slice A' (tmV m v).length c') ∧ IntsIn w' w.heap.size w'.heap.size A' (tmV m v) ∧ Below w.heap.size w w' := by
  have HL := Lib.hid hl
  have HVI := Lib.hid hv
  have HMAT := Lib.hid (fun (W : World) (h : RowsIn W lo hi A m) => specMat m A cap lo hi W h hn hr)
  have HAL := Lib.hid (new_below w (.cells #[] 3))
  have HOE := Lib.hid (ownR_empty w)
  have HSZ := Lib.hid (show (w.alloc (.cells #[] 3)).heap.size = w.heap.size + 1 by simp)
  clear hv
  by_cases hM : MatP m
  · rw [isMatB_yes hM] at HMAT
    obtain ⟨b, off, S, rfl, hbw, hc⟩ := rows_fn hl hM.h0
    have HC := Lib.hid hc
    have h0 := hM.h0
    have h9 := hM.h9
    have HROW := Lib.hid hM.row
    have hw0 := (hM.row 0 h0).1
    have h12 := hM.w12
    have h1 := hM.w1
    have HIB := Lib.hid (isMatB_yes hM)
    clear hc hl hr hM
    obtain ⟨n, hn'⟩ : ∃ n, widM m = n := ⟨_, rfl⟩
    rw [hn'] at hw0 h12 h1
    have HWID := Lib.hid hn'
    clear hn'
    by_cases hvn : v.length = n
    · have HTV := Lib.hid (show tmV m v = rowF m.length fun i => dotW64 (m.getD i []) v v.length by unfold tmV; rw [if_pos ⟨HIB.out, by rw [HWID.out]; exact hvn⟩]; rfl)
      obtain ⟨L, hL⟩ : ∃ L, v.length = L := ⟨_, rfl⟩
      rw [hL] at hvn HTV hnv ⊢
      subst hvn
      have hee : ((L : Int) == (L : Int)) = true := by simp
      go_enter Try.func73, Try.ntmps73
      go_wp2_with fail
      have HG0 := Lib.hid (show GrowP w.heap.size (w.heap.size + 1) (w.alloc (.cells #[] 3)) (w.alloc (.cells #[] 3)) (rowF 0 fun i => dotW64 (m.getD i []) v L) (some ⟨w.heap.size, 0, none⟩) 0 w.heap.size (w.heap.size + 1) from ⟨HOE.out, .inl ⟨rfl, rfl⟩, (by have := HSZ.out; omega), Within.refl _ _ _⟩)
      generalize w.alloc (.cells #[] 3) = wA at *
      have HL63 := Lib.hid hL
      clear hL
      go_loopw [5, 6] (fun o i w' => ∃ (k lo3 hi3 : Nat) (Ar : Option Addr) (cr : Nat), k ≤ m.length ∧ i = .int .i64 k ∧ o = .slice Ar (rowF k fun i => dotW64 (m.getD i []) v L).length cr ∧ OwnR w' lo3 hi3 Ar cr (rowF k fun i => dotW64 (m.getD i []) v L) ∧ (w.heap.size ≤ lo3 ∧ lo3 ≤ w'.heap.size) ∧ Below w.heap.size w w') (fun _ i _ => m.length - (intOf i).toNat)
      case atStart => exact ⟨0, _, _, _, _, by omega, rfl, rfl, HG0.out.row, ⟨Nat.le_refl _, (by have := HSZ.out; omega)⟩, HAL.out⟩
      case round =>
        obtain ⟨k, lo3, hi3, Ar, cr, hk, rfl, rfl, ho, hlo3, hb⟩ := hrel
        have HO := Lib.hid ho
        have HB := Lib.hid hb
        clear ho hb
        have HSTEP := Lib.hid (rowF_succ k fun i => dotW64 (m.getD i []) v L)
        have hl9 : (rowF k fun i => dotW64 (m.getD i []) v L).length ≤ 9 := by rw [rowF_len]; omega
        have HEQ := Lib.hid (fun h : k = m.length => (show (rowF k fun i => dotW64 (m.getD i []) v L) = tmV m v by rw [HTV.out, h]))
        obtain ⟨ys, hys⟩ : ∃ ys, (rowF k fun i => dotW64 (m.getD i []) v L) = ys := ⟨_, rfl⟩
        rw [hys] at HO hl9 HSTEP HEQ ⊢
        clear hys
        go_wp2_with fail
        refine (HMAT.out _ (rowsIn_below HL.out HB.out)).mono ?_
        rintro e wz ⟨rfl, hbz⟩
        have HOZ := Lib.hid (HO.out.within (within_of hbz) (.inr (Nat.zero_le _)))
        have HBZ := Lib.hid (below_on HB.out hbz HB.out.size)
        have hzs := hbz.size
        clear hbz
        have c0 := rows_cell hbw HC.out HBZ.out (i := 0) h0
        rw [Nat.add_zero, hw0] at c0
        obtain ⟨⟨A0, cz⟩, hS0⟩ : ∃ s, S 0 = s := ⟨_, rfl⟩
        rw [hS0] at c0
        dsimp only at c0
        clear hS0
        have hsl : (0 : Int) < (m.length : Int) := by omega
        by_cases hlt : k < m.length
        · have hki : (k : Int) < (m.length : Int) := by omega
          obtain ⟨wy, rfl⟩ : ∃ x, x = wz := ⟨wz, rfl⟩
          have hrl := (HROW.out k hlt).1
          obtain ⟨⟨A', c'⟩, hSk⟩ : ∃ s, S k = s := ⟨_, rfl⟩
          have HSK := Lib.hid hSk
          have HRL := Lib.hid hrl
          clear hSk hrl
          go_wp2_with fail
          clear c0
          go_loopw [7, 8] (fun s j wr2 => ∃ t : Nat, t ≤ L ∧ j = .int .i64 t ∧ s = .int .i64 (dotW64 (m.getD k []) v t) ∧ Below wy.heap.size wy wr2) (fun _ j _ => L - (intOf j).toNat)
          case atStart => exact ⟨0, by omega, rfl, rfl, Below.refl _ _⟩
          case round =>
            obtain ⟨t, ht, rfl, rfl, hb2⟩ := hrel
            have HB2 := Lib.hid hb2
            have HBW := Lib.hid (below_on HBZ.out hb2 HBZ.out.size)
            clear hb2
            by_cases htl : t < L
            · have hti : (t : Int) < (L : Int) := by omega
              have c1 := rows_cell hbw HC.out HBW.out hlt
              obtain ⟨bi, oi, e1, c2⟩ := rows_num HC.out HBW.out hlt (show t < (m.getD k []).length by rw [HRL.out, HWID.out]; exact htl)
              rw [HRL.out, HWID.out, e1] at c1
              have hvi := HVI.out.within (within_of HBW.out) (.inr (Nat.zero_le _))
              obtain ⟨bv, ov, rfl, _, _, hcv⟩ := hvi.2 (by rw [HL63.out]; omega)
              have c3 := hcv t (by rw [HL63.out]; exact htl)
              have hnx : dotW64 (m.getD k []) v (t + 1) = IntKind.i64.wrap (dotW64 (m.getD k []) v t + IntKind.i64.wrap ((m.getD k []).getD t 0 * v.getD t 0)) := rfl
              have HNX := Lib.hid hnx
              have hat : atM m k t = (m.getD k []).getD t 0 := rfl
              rw [← hat] at HNX
              obtain ⟨x, hx⟩ : ∃ x, atM m k t = x := ⟨_, rfl⟩
              obtain ⟨y, hy⟩ : ∃ y, v.getD t 0 = y := ⟨_, rfl⟩
              obtain ⟨d, hd⟩ : ∃ d, dotW64 (m.getD k []) v t = d := ⟨_, rfl⟩
              rw [hx] at c2 HNX
              rw [hy] at c3 HNX
              rw [hd] at HNX ⊢
              obtain ⟨p, hp⟩ : ∃ p, IntKind.i64.wrap (x * y) = p := ⟨_, rfl⟩
              obtain ⟨s, hs⟩ : ∃ s, IntKind.i64.wrap (d + p) = s := ⟨_, rfl⟩
              rw [hp, hs] at HNX
              clear hx hy hd hcv hvi hnx hat e1
              go_wp2_with fail
              go_quiet (fail)
              go_wp2_with fail
              go_roundw
              case rel => exact ⟨t + 1, by omega, by go_num, by rw [HNX.out], HB2.out.trans (below_drewN _ _ _)⟩
              case measure => simp [intOf]; omega
            · obtain rfl : t = L := by omega
              have HOY := Lib.hid (HOZ.out.within (within_of HB2.out) (.inr (Nat.zero_le _)))
              have hy2 := HB2.out.size
              obtain ⟨d, hd⟩ : ∃ d, dotW64 (m.getD k []) v t = d := ⟨_, rfl⟩
              rw [hd] at HSTEP ⊢
              clear hd
              go_wp2_with (at_builtin; refine wpList_pushR _ rfl _ _ rfl lo3 hi3 Ar cr ys d rfl HOY.out _ (by first | rfl | (simp only [World.size_setCell]; rfl)) (by omega) (by omega) ?_; intro A6 c6 w16 lo6 hi6 hr6 hor6 hw6; have HR6 := Lib.hid hr6; have HOR := Lib.hid hor6; have HW6 := Lib.hid hw6; clear hr6 hor6 hw6)
              go_roundw
              case rel => exact ⟨k + 1, lo6, hi6, A6, c6, by omega, by go_num, by rw [HSTEP.out, List.length_append]; rfl, by rw [HSTEP.out]; exact HR6.out, (by have := HOR.out; have := HW6.out.size; omega), within_on HBW.out HW6.out HBW.out.size (.inl hlo3.1)⟩
              case measure => simp [intOf]; omega
        · obtain rfl : k = m.length := by omega
          have HE := Lib.hid (HEQ.out rfl)
          go_wp2_with fail
          go_ret
          have ht := HOZ.out.1
          refine ⟨Ar, cr, by rw [← HE.out]; rfl, ?_, HBZ.out⟩
          rw [← HE.out]
          exact HOZ.out.ints.reads.widen hlo3.1 ht (Nat.le_refl _)
    · have HTV := Lib.hid (show tmV m v = [] by unfold tmV; rw [if_neg (fun h => hvn (by rw [← HWID.out]; exact h.2))])
      have hee : ((v.length : Int) == (n : Int)) = false := by simp; omega
      have c0 := rows_cell hbw HC.out HAL.out (i := 0) h0
      rw [Nat.add_zero, hw0] at c0
      have hsl : (0 : Int) < (m.length : Int) := by omega
      clear hvn
      go_enter Try.func73, Try.ntmps73
      go_wp2_with fail
      generalize w.alloc (.cells #[] 3) = wA at *
      refine wp_loop_rounds 1 ?_
      rw [rounds_succ]
      go_wp2_with fail
      refine (HMAT.out _ (rowsIn_below HL.out HAL.out)).mono ?_
      rintro e wz ⟨rfl, hbz⟩
      have HBZ := Lib.hid (below_on HAL.out hbz HAL.out.size)
      have c1 := rows_cell hbw HC.out HBZ.out (i := 0) h0
      rw [Nat.add_zero, hw0] at c1
      clear hbz c0
      go_wp2_with fail
      go_ret
      exact ⟨_, _, by rw [HTV.out]; rfl, by rw [HTV.out]; exact ⟨Nat.le_refl _, fun h => absurd h (by simp)⟩, HBZ.out⟩
  · rw [isMatB_no hM] at HMAT
    have HTV := Lib.hid (show tmV m v = [] by unfold tmV; rw [if_neg (fun h => hM (isMatB_iff.1 h.1))])
    clear hl hr hM
    go_enter Try.func73, Try.ntmps73
    go_wp2_with fail
    generalize w.alloc (.cells #[] 3) = wA at *
    refine wp_loop_rounds 1 ?_
    rw [rounds_succ]
    go_wp2_with fail
    refine (HMAT.out _ (rowsIn_below HL.out HAL.out)).mono ?_
    rintro e wz ⟨rfl, hbz⟩
    have HBZ := Lib.hid (below_on HAL.out hbz HAL.out.size)
    clear hbz
    go_wp2_with fail
    go_ret
    exact ⟨_, _, by rw [HTV.out]; rfl, by rw [HTV.out]; exact ⟨Nat.le_refl _, fun h => absurd h (by simp)⟩, HBZ.out⟩
end Go.Proofs.Ytdkpmaahinbhlaa
/- What impl.TimesVector answers. No condition. -/
namespace Go.Proofs.Ytdkpmaahinbhlaa
open Go.RowKit

theorem FlatAt.own {W : World} {g N lo hi : Nat} {f : Nat → Int} (h : FlatAt W g N f) (h1 : lo ≤ g) (h2 : g < hi) (h3 : hi ≤ W.heap.size) : OwnInts W lo hi (some ⟨g, 0, none⟩) N (rowF N f) := by
  refine ⟨h3, .inr ⟨g, rfl, h1, h2, ?_⟩⟩
  rw [rowF_len]
  obtain ⟨l1, l2⟩ := h
  refine ⟨l1, ?_⟩
  rcases l2 with l2 | ⟨g2, c2, cur, e1, e2, e3⟩
  · cases l2.1
  · cases e1
    exact .inr ⟨g, N, cur, rfl, h1, e3⟩
theorem FlatAt.store {W : World} {g N : Nat} {f : Nat → Int} (r : FlatAt W g N f) {t : Nat} (ht : t < N) (x : Int) :
    FlatAt (W.setCell ⟨g, t, none⟩ (.int .i64 x)) g N (fun s => if s = t then x else f s) ∧ Within g (g + 1) W (W.setCell ⟨g, t, none⟩ (.int .i64 x)) := by
  have hst := World.ownsRow.stored r t (.int .i64 x)
  refine ⟨?_, ⟨hst.2.os, hst.2.tape, hst.2.output, hst.2.size, fun i hi' hd' => hst.2.block i hi' (by simp; omega)⟩⟩
  have := hst.1
  rw [rowF_set ht] at this
  exact this

set_option maxHeartbeats 4000000 in
set_option maxRecDepth 100000 in
theorem implTm (m : List (List Int)) (v : List Int) (A : Option Addr) (cap lo hi : Nat) (w : World) (hl : RowsIn w lo hi A m) (hn : m.length ≤ 1048576) (hr : ∀ k, k < m.length → (m.getD k []).length ≤ 1048576)
    (Av : Option Addr) (cv lo2 hi2 : Nat) (hv : IntsIn w lo2 hi2 Av v) (hnv : v.length ≤ 1048576) :
    Calls Try.prog 68 #[.slice A m.length cap, .slice Av v.length cv] w fun e w' => ∃ A' c', e = .returned (.slice A' (tmV m v).length c') ∧ OwnInts w' w.heap.size w'.heap.size A' c' (tmV m v) ∧ Below w.heap.size w w' := by
  have HMAT := Lib.hid (implMat m A cap lo hi w hl hn hr)
  have HVI := Lib.hid hv
  clear hv
  by_cases hM : MatP m
  · rw [isMatB_yes hM] at HMAT
    obtain ⟨b, off, S, rfl, hbw, hc⟩ := rows_fn hl hM.h0
    have HC := Lib.hid hc
    have h0 := hM.h0
    have h9 := hM.h9
    have HROW := Lib.hid hM.row
    have hw0 := (hM.row 0 h0).1
    have h12 := hM.w12
    have h1 := hM.w1
    have HIB := Lib.hid (isMatB_yes hM)
    clear hl hr hM
    obtain ⟨n, hn'⟩ : ∃ n, widM m = n := ⟨_, rfl⟩
    rw [hn'] at hw0 h12 h1
    have HWID := Lib.hid hn'
    have c0 := (hc 0 h0).1
    rw [Nat.add_zero, hw0] at c0
    obtain ⟨⟨A0, cz⟩, hS0⟩ : ∃ s, S 0 = s := ⟨_, rfl⟩
    rw [hS0] at c0
    dsimp only at c0
    clear hn' hc hw0 hS0
    have hsl : (0 : Int) < (m.length : Int) := by omega
    by_cases hvn : v.length = n
    · have HTV := Lib.hid (show tmV m v = rowF m.length fun i => dotW64 (m.getD i []) v v.length by unfold tmV; rw [if_pos ⟨HIB.out, by rw [HWID.out]; exact hvn⟩]; rfl)
      obtain ⟨L, hL⟩ : ∃ L, v.length = L := ⟨_, rfl⟩
      rw [hL] at hvn HTV hnv ⊢
      subst hvn
      have HL63 := Lib.hid hL
      clear hL
      have hee : ((L : Int) != (L : Int)) = false := by simp
      obtain ⟨M, hM⟩ : ∃ M, m.length = M := ⟨_, rfl⟩
      rw [hM] at h0 h9 hsl HTV HMAT ⊢
      have HMM := Lib.hid hM
      clear hn hM
      go_enter Try.func68, Try.ntmps68
      go_wp2_with fail
      refine HMAT.out.mono ?_
      rintro e wz ⟨rfl, rfl⟩
      go_wp2_with (at_make; refine wpList_mkn _ rfl _ _ 29 rfl w.heap.size 3 (.int .i64 0) 8 Try.underlying29 infoInt rfl _ _ _ _ M rfl rfl rfl rfl (by omega) (by unfold maxLen; omega) (Nat.le_refl _) ?_; intro w0 hown0 hb0)
      obtain ⟨g, hg⟩ : ∃ g, w.heap.size = g := ⟨_, rfl⟩
      rw [hg] at hown0 hb0 ⊢
      rw [rowF_zero] at hown0
      have HF := Lib.hid (show FlatAt w0 g M (fun _ => 0) from hown0)
      have HB0 := Lib.hid hb0
      have HG := Lib.hid hg
      clear hown0 hb0 hg c0
      go_loopw [6, 7, 27] (fun _ _ i wr => ∃ (k : Nat) (f : Nat → Int), k ≤ M ∧ i = .int .i64 k ∧ FlatAt wr g M f ∧ Below w.heap.size w wr ∧ ∀ r, r < M → f r = if r < k then dotW64 (m.getD r []) v L else 0) (fun _ _ i _ => M - (intOf i).toNat)
      case atStart => exact ⟨0, _, by omega, rfl, HF.out, by rw [HG.out]; exact HB0.out, fun r _ => (if_neg (by omega)).symm⟩
      case round =>
        obtain ⟨k, f, hk, rfl, hf, hb, hvv⟩ := hrel
        have HF := Lib.hid hf
        have HB := Lib.hid hb
        have HV := Lib.hid hvv
        clear hf hb hvv
        by_cases hlt : k < M
        · have hki : (k : Int) < (M : Int) := by omega
          have hltm : k < m.length := by rw [HMM.out]; exact hlt
          have hrl := (HROW.out k hltm).1
          have c1 := rows_cell hbw HC.out HB.out hltm
          rw [hrl, HWID.out] at c1
          obtain ⟨⟨A', c'⟩, hSk⟩ : ∃ s, S k = s := ⟨_, rfl⟩
          rw [hSk] at c1
          dsimp only at c1
          have HSK := Lib.hid hSk
          have HRL := Lib.hid hrl
          clear hSk hrl
          obtain ⟨wq, hwq⟩ : ∃ x, x = wr := ⟨_, rfl⟩
          rw [← hwq] at HF HB c1 ⊢
          clear hwq
          go_wp2_with fail
          clear c1
          go_loopw [8, 9, 34] (fun _ _ j wr2 => ∃ (t : Nat) (f2 : Nat → Int), t ≤ L ∧ j = .int .i64 t ∧ FlatAt wr2 g M f2 ∧ Below w.heap.size w wr2 ∧ ∀ r, r < M → f2 r = if r < k then dotW64 (m.getD r []) v L else if r = k then dotW64 (m.getD k []) v t else 0) (fun _ _ j _ => L - (intOf j).toNat)
          case atStart => exact ⟨0, f, by omega, rfl, HF.out, HB.out, fun r h1 => by
            rw [HV.out r h1]
            by_cases e : r < k
            · rw [if_pos e, if_pos e]
            · rw [if_neg e, if_neg e]; split <;> rfl⟩
          case round =>
            obtain ⟨t, f2, ht, rfl, hf2, hb2, hv2⟩ := hrel
            have HF2 := Lib.hid hf2
            have HB2 := Lib.hid hb2
            have HV2 := Lib.hid hv2
            clear hf2 hb2 hv2
            by_cases htl : t < L
            · have hti : (t : Int) < (L : Int) := by omega
              obtain ⟨bi, oi, e1, c2⟩ := rows_num HC.out HB2.out hltm (show t < (m.getD k []).length by rw [HRL.out, HWID.out]; exact htl)
              rw [HSK.out] at e1
              dsimp only at e1
              subst e1
              have hvi := HVI.out.within (within_of HB2.out) (.inr (Nat.zero_le _))
              obtain ⟨bv, ov, rfl, _, _, hcv⟩ := hvi.2 (by rw [HL63.out]; omega)
              have c3 := hcv t (by rw [HL63.out]; exact htl)
              have HNX := Lib.hid (show dotW64 (m.getD k []) v (t + 1) = IntKind.i64.wrap (dotW64 (m.getD k []) v t + IntKind.i64.wrap (atM m k t * v.getD t 0)) from rfl)
              have hfk := HV2.out k hlt
              rw [if_neg (by omega), if_pos rfl] at hfk
              have hd := HF2.out.cell hlt
              rw [hfk] at hd
              have hfz := World.ownsRow.frozenAt HF2.out k
              obtain ⟨x, hx⟩ : ∃ x, atM m k t = x := ⟨_, rfl⟩
              obtain ⟨y, hy⟩ : ∃ y, v.getD t 0 = y := ⟨_, rfl⟩
              obtain ⟨d, hdd⟩ : ∃ d, dotW64 (m.getD k []) v t = d := ⟨_, rfl⟩
              rw [hx] at c2 HNX
              rw [hy] at c3 HNX
              rw [hdd] at HNX hd
              obtain ⟨p, hp⟩ : ∃ p, IntKind.i64.wrap (x * y) = p := ⟨_, rfl⟩
              obtain ⟨s, hs⟩ : ∃ s, IntKind.i64.wrap (d + p) = s := ⟨_, rfl⟩
              rw [hp, hs] at HNX
              have hst := FlatAt.store (W := wr.drew) HF2.out hlt s
              have HF3 := Lib.hid hst.1
              have HB3 := Lib.hid (within_on HB2.out.drew hst.2 HB2.out.size (.inl (by rw [HG.out]; exact Nat.le_refl _)))
              clear hx hy hdd hcv hvi hst hfk
              go_wp2_with fail
              go_still_tail 12, (by kernel_rfl)
              change wpList _ _ _ _ _ wr.drew
              have hd2 : wr.drew.cell? ⟨g, k, none⟩ = some (.int .i64 d) := hd
              have hfz2 := World.ownsRow.frozenAt (w := wr.drew) HF2.out k
              go_wp2_with fail
              go_roundw
              case rel => exact ⟨t + 1, _, by omega, by go_num, HF3.out, HB3.out, fun r h1 => by
                by_cases e : r = k
                · subst e; rw [if_pos rfl, if_neg (by omega), if_pos rfl, HNX.out]
                · rw [if_neg e, HV2.out r h1, if_neg e, if_neg e]⟩
              case measure => simp [intOf]; omega
            · obtain rfl : t = L := by omega
              go_wp2_with fail
              go_roundw
              case rel => exact ⟨k + 1, f2, by omega, by go_num, HF2.out, HB2.out, fun r h1 => by
                rw [HV2.out r h1]
                by_cases e : r < k
                · rw [if_pos e, if_pos (by omega)]
                · rw [if_neg e]
                  by_cases e2 : r = k
                  · subst e2; rw [if_pos rfl, if_pos (by omega)]
                  · rw [if_neg e2, if_neg (by omega)]⟩
              case measure => simp [intOf]; omega
        · obtain rfl : k = M := by omega
          go_wp2_with fail
          go_ret
          have heq : tmV m v = rowF k f := by
            rw [HTV.out]
            exact rowF_congr fun r hr => by rw [HV.out r hr, if_pos hr]
          refine ⟨some ⟨g, 0, none⟩, k, ?_, ?_, HB.out⟩
          · rw [heq, rowF_len]; rfl
          · rw [heq, HG.out]
            exact HF.out.own (Nat.le_refl _) HF.out.lt (Nat.le_refl _)
    · have HTV := Lib.hid (show tmV m v = [] by unfold tmV; rw [if_neg (fun h => hvn (by rw [← HWID.out]; exact h.2))])
      have hee : ((v.length : Int) != (n : Int)) = true := by simp; omega
      clear hvn
      go_enter Try.func68, Try.ntmps68
      go_wp2_with fail
      refine HMAT.out.mono ?_
      rintro e wz ⟨rfl, rfl⟩
      go_wp2_with fail
      go_ret
      exact ⟨none, 0, by rw [HTV.out]; rfl, by rw [HTV.out]; exact ⟨Nat.le_refl _, .inl rfl⟩, Below.refl _ _⟩
  · rw [isMatB_no hM] at HMAT
    have HTV := Lib.hid (show tmV m v = [] by unfold tmV; rw [if_neg (fun h => hM (isMatB_iff.1 h.1))])
    clear hl hr hM
    go_enter Try.func68, Try.ntmps68
    go_wp2_with fail
    refine HMAT.out.mono ?_
    rintro e wz ⟨rfl, rfl⟩
    go_wp2_with fail
    go_ret
    exact ⟨none, 0, by rw [HTV.out]; rfl, by rw [HTV.out]; exact ⟨Nat.le_refl _, .inl rfl⟩, Below.refl _ _⟩
end Go.Proofs.Ytdkpmaahinbhlaa
/- The laws' big, and the code's bytes as a law is handed them. No condition. -/
namespace Go.Proofs.Ytdkpmaahinbhlaa
open Go.RowKit

theorem big_yes (w : World) (A : Option Addr) (len cap : Nat) (h : (1048576 : Int) < (len : Int)) :
    Calls Try.prog 14 #[.slice A len cap] w fun e w' => e = .returned (.bool true) ∧ w = w' := by
  have h' : decide ((1048576 : Int) < (len : Int)) = true := by simpa using h
  go_enter Try.func14, Try.ntmps14
  go_wp2
  go_ret
  exact ⟨rfl, rfl⟩
theorem big_no (w : World) (A : Option Addr) (len cap : Nat) (h : (len : Int) ≤ 1048576) :
    Calls Try.prog 14 #[.slice A len cap] w fun e w' => e = .returned (.bool false) ∧ w = w' := by
  have h' : decide ((1048576 : Int) < (len : Int)) = false := by simp; omega
  go_enter Try.func14, Try.ntmps14
  go_wp2
  go_ret
  exact ⟨rfl, rfl⟩
theorem code_of_row {w : World} {A : Option Addr} {len cap : Nat} {zs : List Int}
    (h : (A = none ∧ len = 0 ∧ cap = 0 ∧ zs = []) ∨ ∃ x, A = some x ∧ len ≤ cap ∧ cap ≤ maxLen ∧ zs.length = cap ∧ (∀ i, i < zs.length → w.cell? (x.add i) = some (.int .u8 (zs.getD i 0))) ∧ ∀ n ∈ zs, (Lit.int .u8 n).wf = true) :
    CodeIs w w.heap.size A len (fun k => zs.getD k 0) := by
  have hb : (∀ n ∈ zs, (Lit.int .u8 n).wf = true) → ∀ k, 0 ≤ zs.getD k 0 ∧ zs.getD k 0 ≤ 255 := by
    intro hw k
    by_cases hk : k < zs.length
    · have := hw _ (List.getElem_mem hk)
      simp [Lit.wf, IntKind.min, IntKind.max, IntKind.signed, IntKind.bits] at this
      simp [List.getD, List.getElem?_eq_getElem hk]
      omega
    · simp [List.getD, List.getElem?_eq_none (by omega : zs.length ≤ k)]
  rcases h with ⟨rfl, rfl, rfl, rfl⟩ | ⟨x, rfl, h1, h2, h3, hc, hw⟩
  · exact ⟨fun k => by simp, fun h => absurd h (by omega)⟩
  · refine ⟨hb hw, fun hl => ?_⟩
    obtain ⟨b, off, spot⟩ := x
    have h0 := hc 0 (by omega)
    have hs : spot = none := by simpa [Addr.add] using World.cell?_spot h0
    subst hs
    have hadd : ∀ k, (⟨b, off, none⟩ : Addr).add k = ⟨b, off + k, none⟩ := fun k => by unfold Addr.add; split <;> simp_all
    rw [hadd 0] at h0
    refine ⟨b, off, rfl, World.block_lt_of_cell? w _ h0, fun k hk => ?_⟩
    rw [← hadd k]
    exact hc k (by omega)
end Go.Proofs.Ytdkpmaahinbhlaa
