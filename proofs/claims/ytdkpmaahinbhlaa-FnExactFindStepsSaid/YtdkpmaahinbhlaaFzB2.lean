/- Several texts in one, in the order in which they build on each other: what stands on the way to the law; each names its own matter. No condition. -/
import Derived.Test.YtdkpmaahinbhlaaFzB1
import Derived.OrdersHeld
import Derived.Deep.RegionHeld3
import Derived.Deep.QuietTactic
import Derived.BigQuiet
import Derived.Laws.CopyOwn
import Derived.Test.YtdkpmaahinbhlaaFzB1
/- What stands while a path is turned round in a copy of a state. No program's walk. No condition. -/
namespace Go.Proofs.Ytdkpmaahinbhlaa
open Go.RowKit

/-- Where a point stands in a queue. -/
def posQ : List (Int × Nat) → Int → Nat
  | [], _ => 0
  | x :: r, t => if x.1 = t then 0 else posQ r t + 1
theorem posQ_in : ∀ (q1 r : List (Int × Nat)) (t : Int), t ∈ q1.map Prod.fst → posQ (q1 ++ r) t < q1.length := by
  intro q1 r t
  induction q1 with
  | nil => intro h; cases h
  | cons x q1 ih =>
    intro h
    rw [List.cons_append, posQ]
    by_cases c : x.1 = t
    · rw [if_pos c]; simp
    · rw [if_neg c]
      have : t ∈ q1.map Prod.fst := by
        rcases List.mem_cons.1 h with e | e
        · exact absurd e.symm c
        · exact e
      have := ih this
      simp only [List.length_cons]
      omega
theorem posQ_out : ∀ (q1 q2 : List (Int × Nat)) (t : Int) (i : Nat), t ∉ q1.map Prod.fst → posQ (q1 ++ (t, i) :: q2) t = q1.length := by
  intro q1 q2 t i
  induction q1 with
  | nil => intro _; simp [posQ]
  | cons x q1 ih =>
    intro h
    simp only [List.map_cons, List.mem_cons, not_or] at h
    rw [List.cons_append, posQ, if_neg (fun e => h.1 e.symm), ih h.2]
    rfl
theorem posQ_step {q1 q2 : List (Int × Nat)} {t t' : Int} {i : Nat} (h : t ∉ q1.map Prod.fst) (h' : t' ∈ q1.map Prod.fst) : posQ (q1 ++ (t, i) :: q2) t' < posQ (q1 ++ (t, i) :: q2) t := by
  rw [posQ_out q1 q2 t i h]
  exact posQ_in q1 _ t' h'
/-- The path from t on is still to be turned. -/
structure TurnI (P : Nat) (E : List (Int × Int)) (T0 : List Int) (a : Int) (q : List (Int × Nat)) (TF : List Int) (t : Int) (T : List Int) : Prop where
  ends : EndsQ P E T0
  len : T.length = E.length
  ex : ∃ q1 q2, q = q1 ++ q2 ∧ PathQ P E T0 a q1 ∧ t ∈ q1.map Prod.fst ∧ turnQ E a q1.reverse t T = TF ∧ ∀ x ∈ q1, x.1 ≠ a → T.getD x.2 0 = T0.getD x.2 0
theorem TurnI.done {P : Nat} {E : List (Int × Int)} {T0 : List Int} {a : Int} {q : List (Int × Nat)} {TF T : List Int} (h : TurnI P E T0 a q TF a T) : T = TF := by
  obtain ⟨q1, q2, _, _, _, e, _⟩ := h.ex
  rw [turnQ_a] at e
  exact e
/-- One bar of the path: its number, and where the path goes on. -/
theorem TurnI.next {P : Nat} {E : List (Int × Int)} {T0 : List Int} {a : Int} {q : List (Int × Nat)} {TF T : List Int} {t : Int} (h : TurnI P E T0 a q TF t T) (hn : t ≠ a) :
    ∃ i, (t, i) ∈ q ∧ i < E.length ∧ (0 ≤ t ∧ t < (P : Int)) ∧ T.getD i 0 = oth (E.getD i (0, 0)) t ∧ isEnd (E.getD i (0, 0)) t ∧ (0 ≤ oth (E.getD i (0, 0)) t ∧ oth (E.getD i (0, 0)) t < (P : Int)) ∧ TurnI P E T0 a q TF (oth (E.getD i (0, 0)) t) (T.set i t) ∧ posQ q (oth (E.getD i (0, 0)) t) < posQ q t := by
  obtain ⟨q1, q2, rfl, hp, ht, e, hT⟩ := h.ex
  obtain ⟨i, p1, p2, rfl, h1, h2, h3, h4, h5, h6, h7, h8⟩ := hp.at ht hn
  rw [turnQ_step E a t i p1 p2 T h1 hn] at e
  have hend : isEnd (E.getD i (0, 0)) t := by
    have := h.ends.tail i h3
    rw [h4] at this
    have := oth_end this
    rwa [oth_oth] at this
  have hb := h.ends.bar i h3
  refine ⟨i, by simp, h3, ⟨h6, h7⟩, (hT (t, i) (by simp) hn).trans h4, hend, ?_, ⟨h.ends, by rw [List.length_set]; exact h.len, p1, (t, i) :: p2 ++ q2, by simp, h8, h5, e, fun x hx hxa => ?_⟩, ?_⟩
  · unfold isEnd at hend
    unfold oth
    omega
  · rw [set_getD_ne _ _ _ _ _ (h8.other h2 h4 hx hxa)]
    exact hT x (List.mem_append_left _ hx) hxa
  · rw [List.append_assoc, List.cons_append]
    exact posQ_step h2 h5
theorem TurnI.start {P : Nat} {E : List (Int × Int)} {T0 : List Int} {a u : Int} {q r : List (Int × Nat)} (he : EndsQ P E T0) (hp : PathQ P E T0 a q) (hu : u ∈ q.map Prod.fst) : TurnI P E T0 a (q ++ r) (turnQ E a q.reverse u T0) u T0 :=
  ⟨he, he.len, q, r, rfl, hp, hu, rfl, fun _ _ _ => rfl⟩
end Go.Proofs.Ytdkpmaahinbhlaa
/- What impl.turnPath does: a path is turned round in the row of tails. No condition. -/
namespace Go.Proofs.Ytdkpmaahinbhlaa
open Go.RowKit

set_option maxHeartbeats 2000000 in
set_option maxRecDepth 100000 in
theorem turnPath_c (P : Nat) (E : List (Int × Int)) (F T Z TF : List Int) (a u : Int) (q : List (Int × Nat)) (rb B gF cF gT cT cZ z1 z2 : Nat) (AZ : Option Addr) (w : World) (hst : St3 w B gF cF gT cT AZ cZ z1 z2 F T Z) (hn : TurnI P E T a q TF u T) (hP : P ≤ 8)
    (hrb : ∀ x ∈ q, x.1 ≠ a → w.cell? ⟨rb, x.1.toNat, none⟩ = some (.pointer (some ⟨gT, x.2, none⟩))) (hne : rb ≠ gT) (hlt : rb < w.heap.size) :
    Calls Try.prog 224 #[.pointer (some ⟨rb, 0, none⟩), .int .i64 a, .int .i64 u] w fun e w' => e = .returned (.tuple #[]) ∧ St3 w' B gF cF gT cT AZ cZ z1 z2 F TF Z ∧ Within gT (gT + 1) w w' := by
  have HST := Lib.hid hst
  have HN := Lib.hid hn
  have HRB := Lib.hid hrb
  clear hst hn hrb
  go_enter Try.func224, Try.ntmps224
  go_wp2_with fail
  go_loopw [6] (fun v wr => ∃ (t : Int) (T' : List Int), v = .int .i64 t ∧ TurnI P E T a q TF t T' ∧ St3 wr B gF cF gT cT AZ cZ z1 z2 F T' Z ∧ Within gT (gT + 1) w wr) (fun v _ => posQ q (intOf v))
  case atStart => exact ⟨u, T, rfl, HN.out, HST.out, Within.refl _ _ _⟩
  case round =>
    obtain ⟨t, T', rfl, ht, hs, hw⟩ := hrel
    have HW := Lib.hid hw
    have HS := Lib.hid hs
    clear hs hw
    by_cases c : t = a
    · subst c
      obtain rfl := ht.done
      clear ht
      have e1 : (t != t) = false := by simp
      go_wp2_with fail
      go_end0
      exact ⟨rfl, HS.out, HW.out⟩
    · have e1 : (t != a) = true := by simpa using c
      obtain ⟨i, hi1, hi2, hi3, hi4, _, _, hi5, hi6⟩ := ht.next c
      have HX := Lib.hid hi5
      have HM := Lib.hid hi6
      have hlen := ht.len
      obtain ⟨hc1, hf1⟩ := HS.out.cellT i (by omega)
      have hr := (World.cell?_of_block (a := ⟨rb, t.toNat, none⟩) (HW.out.block rb hlt (by omega))).trans (HRB.out (t, i) hi1 c)
      have HS2 := Lib.hid (HS.out.setT i t)
      have HW2 := Lib.hid (HW.out.trans (within_set wr gT i (.int .i64 t)))
      rw [hi4] at hc1
      obtain ⟨v, hv⟩ : ∃ v, oth (E.getD i (0, 0)) t = v := ⟨_, rfl⟩
      rw [hv] at hc1 HX HM
      clear hi1 hi4 hi5 hi6 ht c hv
      obtain ⟨n, rfl⟩ : ∃ n : Nat, t = (n : Int) := ⟨t.toNat, by omega⟩
      rw [Int.toNat_natCast] at hr
      have hn8 : (n : Int) < 8 := by omega
      have hn8' : n < 8 := by omega
      go_wp2_with fail
      go_roundw
      case rel => exact ⟨v, _, rfl, HX.out, HS2.out, HW2.out⟩
      case measure => exact HM.out
end Go.Proofs.Ytdkpmaahinbhlaa
/- A state of the call's own, each row in a range of its own; what may be written is named. No program's walk. No condition. -/
namespace Go.Proofs.Ytdkpmaahinbhlaa
open Go.RowKit

/-- The blocks of two ranges may be written; nothing else was. -/
structure Within2 (f t : Nat × Nat) (w w' : World) : Prop where
  os : w'.os = w.os
  tape : w'.tape = w.tape
  output : w'.output = w.output
  size : w.heap.size ≤ w'.heap.size
  block : ∀ k, k < w.heap.size → (k < f.1 ∨ f.2 ≤ k) → (k < t.1 ∨ t.2 ≤ k) → w'.heap[k]? = w.heap[k]?
theorem Within2.refl (f t : Nat × Nat) (w : World) : Within2 f t w w := ⟨rfl, rfl, rfl, Nat.le_refl _, fun _ _ _ _ => rfl⟩
theorem Within2.trans {f t : Nat × Nat} {a b c : World} (h : Within2 f t a b) (k : Within2 f t b c) : Within2 f t a c :=
  ⟨k.os.trans h.os, k.tape.trans h.tape, k.output.trans h.output, Nat.le_trans h.size k.size, fun i hi' h1 h2 => (k.block i (Nat.lt_of_lt_of_le hi' h.size) h1 h2).trans (h.block i hi' h1 h2)⟩
theorem Within2.of {f t : Nat × Nat} {lo hi : Nat} {a b : World} (h : Within lo hi a b) (hd : hi ≤ lo ∨ (f.1 ≤ lo ∧ hi ≤ f.2) ∨ (t.1 ≤ lo ∧ hi ≤ t.2)) : Within2 f t a b :=
  ⟨h.os, h.tape, h.output, h.size, fun i hi' h1 h2 => h.block i hi' (by omega)⟩
/-- What lies under a bound that no range reaches stands. -/
theorem Within2.one {f t : Nat × Nat} {a b : World} (h : Within2 f t a b) (k : Nat) (h1 : k < f.1 ∨ f.2 ≤ k) (h2 : k < t.1 ∨ t.2 ≤ k) : a.heap.size ≤ k ∨ b.heap[k]? = a.heap[k]? := by
  by_cases hk : k < a.heap.size
  · exact .inr (h.block k hk h1 h2)
  · exact .inl (by omega)
theorem OwnR.at {W W' : World} {lo hi : Nat} {A : Option Addr} {cap : Nat} {zs : List Int} (h : OwnR W lo hi A cap zs) {f t : Nat × Nat} (hw : Within2 f t W W') (h1 : hi ≤ f.1 ∨ f.2 ≤ lo) (h2 : hi ≤ t.1 ∨ t.2 ≤ lo) : OwnR W' lo hi A cap zs :=
  ⟨Nat.le_trans h.1 hw.size, by
    rcases h.2 with e | ⟨g, e, g1, g2, ho⟩
    · exact .inl e
    · exact .inr ⟨g, e, g1, g2, own_block ho (hw.block g (Nat.lt_of_lt_of_le g2 h.1) (by omega) (by omega))⟩⟩
theorem IntsIn.at {W W' : World} {lo hi : Nat} {A : Option Addr} {zs : List Int} (h : IntsIn W lo hi A zs) {f t : Nat × Nat} (hw : Within2 f t W W') (h1 : hi ≤ f.1 ∨ f.2 ≤ lo) (h2 : hi ≤ t.1 ∨ t.2 ≤ lo) : IntsIn W' lo hi A zs :=
  ⟨Nat.le_trans h.1 hw.size, fun hl => by
    obtain ⟨b, off, e, b1, b2, hc⟩ := h.2 hl
    exact ⟨b, off, e, b1, b2, fun k hk => (World.cell?_of_block (a := ⟨b, off + k, none⟩) (hw.block b (Nat.lt_of_lt_of_le b2 h.1) (by omega) (by omega))).trans (hc k hk)⟩⟩
theorem Cel3.at {W W' : World} {b : Nat} {T : TypeId} {v0 v1 v2 : Value} (h : Cel3 W b T v0 v1 v2) {f t : Nat × Nat} (hw : Within2 f t W W') (h1 : b < f.1 ∨ f.2 ≤ b) (h2 : b < t.1 ∨ t.2 ≤ b) : Cel3 W' b T v0 v1 v2 := (hw.block b h.lt h1 h2).trans h
/-- A state of the call's own: each row in its range. -/
def OwnF (W : World) (f t z : Nat × Nat) (AF : Option Addr) (cF : Nat) (AT : Option Addr) (cT : Nat) (AZ : Option Addr) (cZ : Nat) (F T Z : List Int) : Prop :=
  OwnR W f.1 f.2 AF cF F ∧ OwnR W t.1 t.2 AT cT T ∧ OwnR W z.1 z.2 AZ cZ Z ∧ Dis f t ∧ Dis f z ∧ Dis t z
theorem Own3R.ownF {W : World} {lo hi : Nat} {AF AT AZ : Option Addr} {cF cT cZ : Nat} {F T Z : List Int} (h : Own3R W lo hi AF cF AT cT AZ cZ F T Z) : ∃ f t z : Nat × Nat, OwnF W f t z AF cF AT cT AZ cZ F T Z ∧ (lo ≤ f.1 ∧ f.2 ≤ hi) ∧ (lo ≤ t.1 ∧ t.2 ≤ hi) ∧ (lo ≤ z.1 ∧ z.2 ≤ hi) := by
  obtain ⟨f, t, z, h1, h2, h3, d1, d2, d3, b1, b2, b3, _⟩ := h
  exact ⟨f, t, z, ⟨h1, h2, h3, d1, d2, d3⟩, b1, b2, b3⟩
theorem OwnF.hi {W : World} {f t z : Nat × Nat} {AF AT AZ : Option Addr} {cF cT cZ : Nat} {F T Z : List Int} (h : OwnF W f t z AF cF AT cT AZ cZ F T Z) : f.2 ≤ W.heap.size ∧ t.2 ≤ W.heap.size ∧ z.2 ≤ W.heap.size := ⟨h.1.1, h.2.1.1, h.2.2.1.1⟩
theorem OwnF.within {W W' : World} {f t z : Nat × Nat} {AF AT AZ : Option Addr} {cF cT cZ : Nat} {F T Z : List Int} (h : OwnF W f t z AF cF AT cT AZ cZ F T Z) {lo' hi' : Nat} (hw : Within lo' hi' W W') (h1 : f.2 ≤ lo' ∨ hi' ≤ f.1) (h2 : t.2 ≤ lo' ∨ hi' ≤ t.1) (h3 : z.2 ≤ lo' ∨ hi' ≤ z.1) : OwnF W' f t z AF cF AT cT AZ cZ F T Z :=
  ⟨h.1.within hw h1, h.2.1.within hw h2, h.2.2.1.within hw h3, h.2.2.2⟩
theorem OwnF.below {W W' : World} {f t z : Nat × Nat} {AF AT AZ : Option Addr} {cF cT cZ : Nat} {F T Z : List Int} (h : OwnF W f t z AF cF AT cT AZ cZ F T Z) (hb : Below W.heap.size W W') : OwnF W' f t z AF cF AT cT AZ cZ F T Z :=
  h.within (within_of hb) (.inr (Nat.zero_le _)) (.inr (Nat.zero_le _)) (.inr (Nat.zero_le _))
theorem OwnF.reads {W : World} {f t z : Nat × Nat} {AF AT AZ : Option Addr} {cF cT cZ : Nat} {F T Z : List Int} (h : OwnF W f t z AF cF AT cT AZ cZ F T Z) : Peb3 W 0 W.heap.size AF AT AZ F T Z :=
  ⟨h.1.ints.reads.widen (Nat.zero_le _) h.1.1 (Nat.le_refl _), h.2.1.ints.reads.widen (Nat.zero_le _) h.2.1.1 (Nat.le_refl _), h.2.2.1.ints.reads.widen (Nat.zero_le _) h.2.2.1.1 (Nat.le_refl _)⟩
theorem own_rebase {W : World} {a b g cap n : Nat} {e : TypeId} {size : Nat} {xs : List Value} (h : W.ownsRow a e size (.slice (some ⟨g, 0, none⟩) n cap) n xs) (hb : b ≤ g) : W.ownsRow b e size (.slice (some ⟨g, 0, none⟩) n cap) n xs := by
  refine ⟨h.1, ?_⟩
  rcases h.2 with ⟨e0, _⟩ | ⟨g', c', cur, e1, _, r⟩
  · cases e0
  · cases e1
    exact .inr ⟨g, cap, cur, rfl, hb, r⟩
theorem OwnR.open_ {W : World} {lo hi : Nat} {A : Option Addr} {cap : Nat} {zs : List Int} (h : OwnR W lo hi A cap zs) (hz : 0 < zs.length) : ∃ g, A = some ⟨g, 0, none⟩ ∧ lo ≤ g ∧ g < hi ∧ W.ownsRow 0 3 1 (.slice (some ⟨g, 0, none⟩) zs.length cap) zs.length (intCells zs) := by
  rcases h.2 with ⟨_, _, e⟩ | ⟨g, e, h1, h2, ho⟩
  · rw [e] at hz; exact absurd hz (by simp)
  · exact ⟨g, e, h1, h2, own_rebase ho (Nat.zero_le _)⟩
theorem OwnF.fst {W : World} {f t z : Nat × Nat} {AF AT AZ : Option Addr} {cF cT cZ : Nat} {F T Z : List Int} (h : OwnF W f t z AF cF AT cT AZ cZ F T Z) (hF : 0 < F.length) : ∃ gF, AF = some ⟨gF, 0, none⟩ ∧ f.1 ≤ gF ∧ gF < f.2 := by
  obtain ⟨g, e, h1, h2, _⟩ := h.1.open_ hF
  exact ⟨g, e, h1, h2⟩
theorem OwnF.open_ {W : World} {f t z : Nat × Nat} {AF AT AZ : Option Addr} {cF cT cZ : Nat} {F T Z : List Int} (h : OwnF W f t z AF cF AT cT AZ cZ F T Z) (hF : 0 < F.length) (hT : 0 < T.length) :
    ∃ gF gT, AF = some ⟨gF, 0, none⟩ ∧ AT = some ⟨gT, 0, none⟩ ∧ (f.1 ≤ gF ∧ gF < f.2) ∧ (t.1 ≤ gT ∧ gT < t.2) ∧ St3 W 0 gF cF gT cT AZ cZ z.1 z.2 F T Z := by
  obtain ⟨o1, o2, o3, d1, d2, d3⟩ := h
  obtain ⟨gF, rfl, f1, f2, hf⟩ := o1.open_ hF
  obtain ⟨gT, rfl, t1, t2, ht⟩ := o2.open_ hT
  unfold Dis at d1 d2 d3
  exact ⟨gF, gT, rfl, rfl, ⟨f1, f2⟩, ⟨t1, t2⟩, ⟨hf, ht, o3.ints, Nat.zero_le _, by omega, by omega, by omega⟩⟩
/-- The opened state, closed again; the third row stood. -/
theorem St3.ownF {W : World} {f t z : Nat × Nat} {gF cF gT cT : Nat} {AZ : Option Addr} {cZ z1 z2 : Nat} {F T Z : List Int} (h : St3 W 0 gF cF gT cT AZ cZ z1 z2 F T Z) (hf : f.1 ≤ gF ∧ gF < f.2) (ht : t.1 ≤ gT ∧ gT < t.2) (s1 : f.2 ≤ W.heap.size) (s2 : t.2 ≤ W.heap.size) (hz : OwnR W z.1 z.2 AZ cZ Z) (d1 : Dis f t) (d2 : Dis f z) (d3 : Dis t z) : OwnF W f t z (some ⟨gF, 0, none⟩) cF (some ⟨gT, 0, none⟩) cT AZ cZ F T Z :=
  ⟨⟨s1, .inr ⟨gF, rfl, hf.1, hf.2, own_rebase h.f hf.1⟩⟩, ⟨s2, .inr ⟨gT, rfl, ht.1, ht.2, own_rebase h.t ht.1⟩⟩, hz, d1, d2, d3⟩
theorem OwnF.own3 {W : World} {f t z : Nat × Nat} {AF AT AZ : Option Addr} {cF cT cZ : Nat} {F T Z : List Int} (h : OwnF W f t z AF cF AT cT AZ cZ F T Z) {lo hi : Nat} (h1 : lo ≤ f.1 ∧ f.2 ≤ hi) (h2 : lo ≤ t.1 ∧ t.2 ≤ hi) (h3 : lo ≤ z.1 ∧ z.2 ≤ hi) (h4 : hi ≤ W.heap.size) : Own3 W lo hi AF cF AT cT AZ cZ F T Z :=
  ⟨f, t, z, h.1.ints, h.2.1.ints, h.2.2.1.ints, h.2.2.2.1, h.2.2.2.2.1, h.2.2.2.2.2, h1, h2, h3, h4⟩
end Go.Proofs.Ytdkpmaahinbhlaa
/- A row of ints that is collected: its range is the first one, or new; what else was there stands. No program's walk. No condition. -/
namespace Go.Proofs.Ytdkpmaahinbhlaa
open Go.RowKit

structure GrowP (a b : Nat) (V W : World) (ys : List Int) (A : Option Addr) (cap lo hi : Nat) : Prop where
  row : OwnR W lo hi A cap ys
  rng : (lo = a ∧ hi = b) ∨ V.heap.size ≤ lo
  le : lo ≤ W.heap.size
  wi : Within a b V W
theorem GrowP.push {a b : Nat} {V W W' : World} {ys : List Int} {y : Int} {A A' : Option Addr} {cap lo hi c' lo' hi' : Nat} (h : GrowP a b V W ys A cap lo hi) (hr : OwnR W' lo' hi' A' c' (ys ++ [y])) (hd : (lo' = lo ∧ hi' = hi) ∨ (W.heap.size ≤ lo' ∧ lo' ≤ W'.heap.size ∧ hi' ≤ W'.heap.size)) (hw : Within lo hi W W') : GrowP a b V W' (ys ++ [y]) A' c' lo' hi' := by
  obtain ⟨_, h2, h3, h4⟩ := h
  have s1 := h4.size
  have s2 := hw.size
  refine ⟨hr, ?_, ?_, ⟨hw.os.trans h4.os, hw.tape.trans h4.tape, hw.output.trans h4.output, Nat.le_trans s1 s2, fun i hi hd => (hw.block i (by omega) (by omega)).trans (h4.block i hi hd)⟩⟩
  · rcases hd with ⟨rfl, rfl⟩ | hd
    · exact h2
    · exact .inr (by omega)
  · rcases hd with ⟨rfl, rfl⟩ | hd
    · omega
    · exact hd.2.1
theorem GrowP.out {a b : Nat} {V W : World} {ys : List Int} {A : Option Addr} {cap lo hi : Nat} (h : GrowP a b V W ys A cap lo hi) {B : Nat} (h1 : B ≤ a) (h2 : B ≤ V.heap.size) : OwnInts W B W.heap.size A cap ys :=
  h.row.ints.widen (by have := h.rng; omega) h.row.1 (Nat.le_refl _)
end Go.Proofs.Ytdkpmaahinbhlaa
/- What stands while a state is worked upon: the graph's box, the state's box, the result's box. No program's walk. No condition. -/
namespace Go.Proofs.Ytdkpmaahinbhlaa
open Go.RowKit

/-- What stands while a state is worked upon: the graph's box, the state's box, the result's box. -/
structure GtI (w W : World) (p : Int) (A : Option Addr) (cap : Nat) (l : List (Int × Int)) (AF AT AZ : Option Addr) (cF cT cZ lo hi : Nat) (F T Z : List Int) : Prop where
  gb : Box W w.heap.size p (.slice A l.length cap)
  pb : Cel3 W (w.heap.size + 1) 31 (.slice AF F.length cF) (.slice AT T.length cT) (.slice AZ Z.length cZ)
  rb : Cel3 W (w.heap.size + 1 + 1) 31 (.slice none 0 0) (.slice none 0 0) (.slice none 0 0)
  bars : BarsIn W 0 w.heap.size A l
  src : Peb3 W lo hi AF AT AZ F T Z
  bel : Below w.heap.size w W
theorem GtI.below {w W : World} {p : Int} {A : Option Addr} {cap : Nat} {l : List (Int × Int)} {AF AT AZ : Option Addr} {cF cT cZ lo hi : Nat} {F T Z : List Int} {W' : World} (h : GtI w W p A cap l AF AT AZ cF cT cZ lo hi F T Z) (hb : Below W.heap.size W W') : GtI w W' p A cap l AF AT AZ cF cT cZ lo hi F T Z :=
  ⟨h.gb.kept hb, h.pb.kept hb, h.rb.kept hb, h.bars.within (within_of hb) (.inr (Nat.zero_le _)), h.src.within (within_of hb) (.inr (Nat.zero_le _)), below_on h.bel hb h.bel.size⟩
theorem GtI.within {w W : World} {p : Int} {A : Option Addr} {cap : Nat} {l : List (Int × Int)} {AF AT AZ : Option Addr} {cF cT cZ lo hi : Nat} {F T Z : List Int} {W' : World} (h : GtI w W p A cap l AF AT AZ cF cT cZ lo hi F T Z) {lo' hi' : Nat} (hw : Within lo' hi' W W') (h1 : w.heap.size + 3 ≤ lo') (h2 : hi ≤ lo') : GtI w W' p A cap l AF AT AZ cF cT cZ lo hi F T Z :=
  ⟨h.gb.within hw (by omega), h.pb.within hw (by omega), h.rb.within hw (by omega), h.bars.within hw (by omega), h.src.within hw (by omega), ⟨hw.os.trans h.bel.os, hw.tape.trans h.bel.tape, hw.output.trans h.bel.output, Nat.le_trans h.bel.size hw.size, fun k hk => (hw.block k (Nat.lt_of_lt_of_le hk h.bel.size) (by omega)).trans (h.bel.block k hk)⟩⟩
/-- Three boxes are made at the start. -/
theorem GtI.start (w : World) (p : Int) (A : Option Addr) (cap : Nat) (l : List (Int × Int)) (AF AT AZ : Option Addr) (cF cT cZ lo hi : Nat) (F T Z : List Int) (hl : BarsAt w w.heap.size A l) (h : Peb3 w lo hi AF AT AZ F T Z) :
    GtI w (((w.alloc (.cells #[.int .i64 p, .slice A l.length cap] 26)).alloc (.cells #[.slice AF F.length cF, .slice AT T.length cT, .slice AZ Z.length cZ] 31)).alloc (.cells #[.slice none 0 0, .slice none 0 0, .slice none 0 0] 31)) p A cap l AF AT AZ cF cT cZ lo hi F T Z := by
  have b1 := new_below w (.cells #[.int .i64 p, .slice A l.length cap] 26)
  generalize hw1 : (w.alloc (.cells #[.int .i64 p, .slice A l.length cap] 26)) = w1 at *
  have s1 : w1.heap.size = w.heap.size + 1 := by rw [← hw1]; simp
  have n1 := box_new w p (.slice A l.length cap) 26
  rw [hw1] at n1
  have b2 := new_below w1 (.cells #[.slice AF F.length cF, .slice AT T.length cT, .slice AZ Z.length cZ] 31)
  have n2 := cel3_new w1 (.slice AF F.length cF) (.slice AT T.length cT) (.slice AZ Z.length cZ) 31
  generalize hw2 : (w1.alloc (.cells #[.slice AF F.length cF, .slice AT T.length cT, .slice AZ Z.length cZ] 31)) = w2 at *
  have s2 : w2.heap.size = w.heap.size + 1 + 1 := by rw [← hw2]; simp [s1]
  have b3 := new_below w2 (.cells #[.slice none 0 0, .slice none 0 0, .slice none 0 0] 31)
  have n3 := cel3_new w2 (.slice none 0 0) (.slice none 0 0) (.slice none 0 0) 31
  have b123 := below_on (below_on b1 b2 b1.size) b3 (by omega)
  rw [s1] at n2
  rw [s2] at n3
  exact ⟨(n1.kept b2).kept b3, n2.kept b3, n3, (bars_in hl).within (within_of b123) (.inr (Nat.zero_le _)), h.within (within_of b123) (.inr (Nat.zero_le _)), b123⟩
end Go.Proofs.Ytdkpmaahinbhlaa
/- An append of one int onto a row of the call's own, in its range. No program's walk. No condition. -/
namespace Go.Proofs.Ytdkpmaahinbhlaa
open Go.RowKit

theorem wpList_pushR (w : World) {ops : Array Oper} {rest : List Oper} {o : Oper} {a : Act} {Q : Exit → Act → World → Prop} (hgd : o.guard = none) (s x : Operand)
    (ho : o.op = .call { callee := .builtin .append, args := #[s, x], argTypes := #[29, 29] }) (lo hi : Nat) (A : Option Addr) (cap : Nat) (zs : List Int) (y : Int) (hs : a.eval s = .slice A zs.length cap) (hr : OwnR w lo hi A cap zs)
    (tb : TypeId) (hx : a.eval x = .slice (some ⟨w.heap.size, 0, none⟩) 1 1) (hn : zs.length ≤ 1048576) (hlo : lo ≤ w.heap.size)
    (h : ∀ A' c' w' lo' hi', OwnR w' lo' hi' A' c' (zs ++ [y]) → ((lo' = lo ∧ hi' = hi) ∨ (w.heap.size ≤ lo' ∧ lo' ≤ w'.heap.size ∧ hi' ≤ w'.heap.size)) → Within lo hi w w' → wpList Try.prog ops Q rest (a.put o.dst (.slice A' (zs.length + 1) c')) w') : wpList Try.prog ops Q (o :: rest) a (w.alloc (.cells #[.int .i64 y] tb)) := by
  have hlen : (zs ++ [y]).length = zs.length + 1 := by simp
  have hcells : intCells (zs ++ [y]) = intCells zs ++ [.int .i64 y] := by simp [intCells]
  refine wpList_at w hgd s x 29 ho lo 3 (.int .i64 0) 1 8 Try.underlying29 infoInt rfl (by decide) _ _ _ hs hr.row #[.int .i64 y] 1 rfl (by simp [Value.oneCell']) tb 1 hx (by omega) (by unfold maxLen; omega) hlo ?_
  intro v' w' hown hg hat _
  obtain ⟨A', c', rfl⟩ := own_shape hown
  rw [show intCells zs ++ (#[Value.int .i64 y] : Array Value).toList = intCells (zs ++ [y]) from hcells.symm, ← hlen] at hown
  rw [← hlen] at hat
  have hw : Within lo hi w w' := ⟨hg.os, hg.tape, hg.output, hg.size, fun k hk hd => hg.block k hk fun e => by
    rcases hr.2 with ⟨rfl, rfl, rfl⟩ | ⟨g, rfl, g1, g2, _⟩
    · cases e
    · have : k = g := by simpa [Value.ownBlock] using e
      omega⟩
  rcases hown.2 with ⟨_, e0⟩ | ⟨g', cap', cur, e1, _⟩
  · rw [hlen] at e0; omega
  · injection e1 with q1 q2 q3
    subst q1
    have hlt := hown.lt g' rfl
    rcases hat with e | e
    · rcases hr.2 with ⟨rfl, rfl, rfl⟩ | ⟨g, rfl, g1, g2, _⟩
      · cases e
      · have : g' = g := by simpa [Value.ownBlock] using e
        subst this
        exact h _ c' w' lo hi ⟨Nat.le_trans hr.1 hg.size, .inr ⟨g', rfl, g1, g2, hown⟩⟩ (.inl ⟨rfl, rfl⟩) hw
    · have : g' = w.heap.size + 1 := by simpa [Value.ownBlock] using e
      exact h _ c' w' g' (g' + 1) ⟨hlt.2, .inr ⟨g', rfl, Nat.le_refl _, by omega, own_rebase hown (Nat.le_refl _)⟩⟩ (.inr ⟨by omega, by omega, hlt.2⟩) hw
/-- What lay under a bound stands: as a range from it on. -/
theorem within_low {B : Nat} {w w' : World} (h : Below B w w') : Within B w.heap.size w w' := ⟨h.os, h.tape, h.output, h.size, fun k _ hd => h.block k (by omega)⟩
theorem below_low {B lo hi : Nat} {w w' : World} (h : Within lo hi w w') (hB : B ≤ lo) (hw : B ≤ w.heap.size) : Below B w w' := ⟨h.os, h.tape, h.output, h.size, fun k hk => h.block k (by omega) (by omega)⟩
theorem below_low2 {B : Nat} {f t : Nat × Nat} {w w' : World} (h : Within2 f t w w') (h1 : B ≤ f.1) (h2 : B ≤ t.1) (hw : B ≤ w.heap.size) : Below B w w' := ⟨h.os, h.tape, h.output, h.size, fun k hk => h.block k (by omega) (by omega) (by omega)⟩
/-- What placing a bar answers, and what it makes of the state in the box pb. -/
def PlaceP (w : World) (B pb : Nat) (f t z : Nat × Nat) (AF : Option Addr) (cF : Nat) (AT : Option Addr) (cT : Nat) (AZ : Option Addr) (cZ : Nat) (l : List (Int × Int)) (c : Int) (F T Z : List Int) (n : Int) (e : Ending) (w' : World) : Prop :=
  Below B w w' ∧ ((e = .returned (.bool false) ∧ plaR l c F T Z n = none ∧ OwnF w' f t z AF cF AT cT AZ cZ F T Z ∧ Cel3 w' pb 31 (.slice AF F.length cF) (.slice AT T.length cT) (.slice AZ Z.length cZ)) ∨
    ∃ (s : List Int × List Int × List Int) (AT' : Option Addr) (cT' : Nat) (AZ' : Option Addr) (cZ' : Nat) (t' z' : Nat × Nat), e = .returned (.bool true) ∧ plaR l c F T Z n = some s ∧ OwnF w' f t' z' AF cF AT' cT' AZ' cZ' s.1 s.2.1 s.2.2 ∧ Cel3 w' pb 31 (.slice AF s.1.length cF) (.slice AT' s.2.1.length cT') (.slice AZ' s.2.2.length cZ') ∧
      (t' = t ∨ (w.heap.size ≤ t'.1 ∧ t'.1 ≤ w'.heap.size)) ∧ (z' = z ∨ (w.heap.size ≤ z'.1 ∧ z'.1 ≤ w'.heap.size)))
end Go.Proofs.Ytdkpmaahinbhlaa
/- A row's range is chosen so that it begins in the heap; what a state of the call's own asks ahead of a bar's placing. No program's walk. No condition. -/
namespace Go.Proofs.Ytdkpmaahinbhlaa
open Go.RowKit

theorem OwnR.norm {W : World} {r : Nat × Nat} {A : Option Addr} {cap : Nat} {zs : List Int} (h : OwnR W r.1 r.2 A cap zs) : ∃ q : Nat × Nat, OwnR W q.1 q.2 A cap zs ∧ q.1 ≤ W.heap.size ∧ (q = r ∨ q = (W.heap.size, W.heap.size)) := by
  rcases h.2 with e | ⟨g, e, h1, h2, ho⟩
  · exact ⟨(W.heap.size, W.heap.size), ⟨Nat.le_refl _, .inl e⟩, Nat.le_refl _, .inr rfl⟩
  · exact ⟨r, h, by have := h.1; omega, .inl rfl⟩
theorem OwnF.norm {W : World} {f t z : Nat × Nat} {AF AT AZ : Option Addr} {cF cT cZ : Nat} {F T Z : List Int} (h : OwnF W f t z AF cF AT cT AZ cZ F T Z) {B pb : Nat} (hB : B ≤ W.heap.size) (hp : pb < W.heap.size) (h2 : B ≤ t.1) (h3 : B ≤ z.1) (p2 : pb < t.1 ∨ t.2 ≤ pb) (p3 : pb < z.1 ∨ z.2 ≤ pb) :
    ∃ t' z' : Nat × Nat, OwnF W f t' z' AF cF AT cT AZ cZ F T Z ∧ B ≤ t'.1 ∧ B ≤ z'.1 ∧ (pb < t'.1 ∨ t'.2 ≤ pb) ∧ (pb < z'.1 ∨ z'.2 ≤ pb) ∧ t'.1 ≤ W.heap.size ∧ z'.1 ≤ W.heap.size := by
  obtain ⟨o1, o2, o3, d1, d2, d3⟩ := h
  obtain ⟨t', o2', l2, e2⟩ := o2.norm
  obtain ⟨z', o3', l3, e3⟩ := o3.norm
  have s1 := o1.1
  have s2 := o2.1
  have s3 := o3.1
  unfold Dis at d1 d2 d3
  refine ⟨t', z', ⟨o1, o2', o3', ?_, ?_, ?_⟩, ?_, ?_, ?_, ?_, l2, l3⟩
  all_goals (rcases e2 with rfl | rfl <;> rcases e3 with rfl | rfl)
  all_goals (first | omega | (unfold Dis; omega) | (unfold Dis; simp only []; omega))
theorem BarsIn.widen {W : World} {lo hi lo' hi' : Nat} {A : Option Addr} {l : List (Int × Int)} (h : BarsIn W lo hi A l) (h1 : lo' ≤ lo) (h2 : hi ≤ hi') (h3 : hi' ≤ W.heap.size) : BarsIn W lo' hi' A l :=
  ⟨h3, fun hl => by
    obtain ⟨b, off, e, b1, b2, hc⟩ := h.2 hl
    exact ⟨b, off, e, by omega, by omega, hc⟩⟩
end Go.Proofs.Ytdkpmaahinbhlaa
/- A state that is copied row by row in whatever order: what stands on the way. No program's walk. No condition. -/
namespace Go.Proofs.Ytdkpmaahinbhlaa
open Go.RowKit

theorem as_fun {R : Nat → Array Bool → Act → World → Prop} {n : Nat} {l : Array Bool} {a : Act} {w : World} (h : ∀ R' : Nat → Array Bool → Act → World → Prop, R' = R → R' n l a w) : R n l a w := h R rfl
theorem as_of {R R' : Nat → Array Bool → Act → World → Prop} (h : R = R') {n : Nat} {l : Array Bool} {a : Act} {w : World} (x : R n l a w) : R' n l a w := h ▸ x
theorem OwnInts.r {W : World} {lo hi : Nat} {A : Option Addr} {cap : Nat} {zs : List Int} (h : OwnInts W lo hi A cap zs) (hz : zs ≠ []) : OwnR W lo hi A cap zs :=
  ⟨h.1, .inr (h.2.resolve_left hz)⟩
theorem ownR_nil (W : World) (lo hi : Nat) (h : hi ≤ W.heap.size) : OwnR W lo hi none 0 [] := ⟨h, .inl ⟨rfl, rfl, rfl⟩⟩
theorem ownR_empty (W : World) : OwnR (W.alloc (.cells #[] 3)) W.heap.size (W.heap.size + 1) (some ⟨W.heap.size, 0, none⟩) 0 [] := by
  have hm := World.ownsRow_made (base := W.heap.size) (e := 3) (size := 1) W #[] 0 (Nat.le_refl _) (by unfold maxLen; omega) (by simp)
  refine ⟨by simp, .inr ⟨W.heap.size, rfl, Nat.le_refl _, Nat.lt_succ_self _, ?_⟩⟩
  simpa [intCells] using hm
/-- Three rows, each in its range from B on. -/
structure CpR (W : World) (B : Nat) (f t z : Nat × Nat) (AF : Option Addr) (cF : Nat) (AT : Option Addr) (cT : Nat) (AZ : Option Addr) (cZ : Nat) (F T Z : List Int) : Prop where
  own : OwnF W f t z AF cF AT cT AZ cZ F T Z
  lf : B ≤ f.1
  lt : B ≤ t.1
  lz : B ≤ z.1
  b : B ≤ W.heap.size
theorem CpR.nil (W : World) (B : Nat) (h : B ≤ W.heap.size) : CpR W B (B, B) (B, B) (B, B) none 0 none 0 none 0 [] [] [] :=
  ⟨⟨ownR_nil W B B h, ownR_nil W B B h, ownR_nil W B B h, .inl (Nat.le_refl _), .inl (Nat.le_refl _), .inl (Nat.le_refl _)⟩, Nat.le_refl _, Nat.le_refl _, Nat.le_refl _, h⟩
theorem CpR.newF {W W' : World} {B : Nat} {f t z f' : Nat × Nat} {AF AT AZ AF' : Option Addr} {cF cT cZ cF' : Nat} {F T Z F' : List Int} (h : CpR W B f t z AF cF AT cT AZ cZ F T Z) (hb : Below W.heap.size W W') (hn : OwnR W' f'.1 f'.2 AF' cF' F') (hl : f' = f ∨ W.heap.size ≤ f'.1) : CpR W' B f' t z AF' cF' AT cT AZ cZ F' T Z := by
  obtain ⟨⟨o1, o2, o3, d1, d2, d3⟩, lf, lt, lz, b⟩ := h
  have q2 := o2.within (within_of hb) (.inr (Nat.zero_le _))
  have q3 := o3.within (within_of hb) (.inr (Nat.zero_le _))
  have s2 := o2.1
  have s3 := o3.1
  have hs := hb.size
  rcases hl with rfl | hl
  · exact ⟨⟨hn, q2, q3, d1, d2, d3⟩, lf, lt, lz, by omega⟩
  · exact ⟨⟨hn, q2, q3, .inr (by omega), .inr (by omega), d3⟩, by omega, lt, lz, by omega⟩
theorem CpR.newT {W W' : World} {B : Nat} {f t z t' : Nat × Nat} {AF AT AZ AT' : Option Addr} {cF cT cZ cT' : Nat} {F T Z T' : List Int} (h : CpR W B f t z AF cF AT cT AZ cZ F T Z) (hb : Below W.heap.size W W') (hn : OwnR W' t'.1 t'.2 AT' cT' T') (hl : t' = t ∨ W.heap.size ≤ t'.1) : CpR W' B f t' z AF cF AT' cT' AZ cZ F T' Z := by
  obtain ⟨⟨o1, o2, o3, d1, d2, d3⟩, lf, lt, lz, b⟩ := h
  have q1 := o1.within (within_of hb) (.inr (Nat.zero_le _))
  have q3 := o3.within (within_of hb) (.inr (Nat.zero_le _))
  have s1 := o1.1
  have s3 := o3.1
  have hs := hb.size
  rcases hl with rfl | hl
  · exact ⟨⟨q1, hn, q3, d1, d2, d3⟩, lf, lt, lz, by omega⟩
  · exact ⟨⟨q1, hn, q3, .inl (by omega), d2, .inr (by omega)⟩, lf, by omega, lz, by omega⟩
theorem CpR.newZ {W W' : World} {B : Nat} {f t z z' : Nat × Nat} {AF AT AZ AZ' : Option Addr} {cF cT cZ cZ' : Nat} {F T Z Z' : List Int} (h : CpR W B f t z AF cF AT cT AZ cZ F T Z) (hb : Below W.heap.size W W') (hn : OwnR W' z'.1 z'.2 AZ' cZ' Z') (hl : z' = z ∨ W.heap.size ≤ z'.1) : CpR W' B f t z' AF cF AT cT AZ' cZ' F T Z' := by
  obtain ⟨⟨o1, o2, o3, d1, d2, d3⟩, lf, lt, lz, b⟩ := h
  have q1 := o1.within (within_of hb) (.inr (Nat.zero_le _))
  have q2 := o2.within (within_of hb) (.inr (Nat.zero_le _))
  have s1 := o1.1
  have s2 := o2.1
  have hs := hb.size
  rcases hl with rfl | hl
  · exact ⟨⟨q1, q2, hn, d1, d2, d3⟩, lf, lt, lz, by omega⟩
  · exact ⟨⟨q1, q2, hn, d1, .inl (by omega), .inl (by omega)⟩, lf, lt, by omega, by omega⟩
theorem OwnF.own3R {W : World} {f t z : Nat × Nat} {AF AT AZ : Option Addr} {cF cT cZ : Nat} {F T Z : List Int} (h : OwnF W f t z AF cF AT cT AZ cZ F T Z) {lo hi : Nat} (h1 : lo ≤ f.1 ∧ f.2 ≤ hi) (h2 : lo ≤ t.1 ∧ t.2 ≤ hi) (h3 : lo ≤ z.1 ∧ z.2 ≤ hi) (h4 : hi ≤ W.heap.size) : Own3R W lo hi AF cF AT cT AZ cZ F T Z :=
  ⟨f, t, z, h.1, h.2.1, h.2.2.1, h.2.2.2.1, h.2.2.2.2.1, h.2.2.2.2.2, h1, h2, h3, h4⟩
/-- An append of a row onto an empty row of the call's own. -/
theorem run_copyR (w : World) (ty : TypeId) (g l h : Nat) (A : Option Addr) (zs : List Int) (cap lo hi : Nat) (hg : OwnR w l h (some ⟨g, 0, none⟩) 0 []) (hz : IntsIn w lo hi A zs) (hn : zs.length ≤ 1048576) :
    ∃ A' c' w', ∃ r : Nat × Nat, (Builtin.append_ #[29, 29] ty #[.slice (some ⟨g, 0, none⟩) 0 0, .slice A zs.length cap]).run Try.prog w = .ok (.slice A' zs.length c') w' ∧ OwnR w' r.1 r.2 A' c' zs ∧ (r = (l, h) ∨ w.heap.size ≤ r.1) ∧ Below w.heap.size w w' := by
  by_cases e : zs = []
  · subst e
    obtain ⟨i0, hi0, hz0, hz1, hz2⟩ := info_parts infoInt
    refine ⟨some ⟨g, 0, none⟩, 0, w, (l, h), ?_, hg, .inl rfl, Below.refl _ _⟩
    cases A <;> simp [Builtin.append_, run_underlying Try.underlying29, sizeOf, typeInfo, hi0, Builtin.lenOf, Builtin.firstCells, loadCells, loadCellsFrom, storeCells]
  · obtain ⟨A', c', w', h1, h2, h3⟩ := run_copyI w ty g A zs cap lo hi hz hn
    exact ⟨A', c', w', (w.heap.size, w'.heap.size), h1, h2.r e, .inr (Nat.le_refl _), h3⟩
theorem step_copyR {w : World} {ops : Array Oper} {o : Oper} {a : Act} {K : Act → World → Prop} {Q : Exit → Act → World → Prop} {E : Prop} (hgd : o.guard = none) (s x : Operand) (ho : o.op = .call { callee := .builtin .append, args := #[s, x], argTypes := #[29, 29] })
    (g l h : Nat) (A : Option Addr) (zs : List Int) (cap lo hi : Nat) (hs : a.eval s = .slice (some ⟨g, 0, none⟩) 0 0) (hx : a.eval x = .slice A zs.length cap) (hg : OwnR w l h (some ⟨g, 0, none⟩) 0 []) (hz : IntsIn w lo hi A zs) (hn : zs.length ≤ 1048576)
    (hK : ∀ A' c' w' (r : Nat × Nat), OwnR w' r.1 r.2 A' c' zs → (r = (l, h) ∨ w.heap.size ≤ r.1) → Below w.heap.size w w' → K (a.put o.dst (.slice A' zs.length c')) w') : if Region.wanted o (yielded ops a.tmps) = true then Oper.wp Try.prog o a w K Q else E := by
  have hw : Region.wanted o (yielded ops a.tmps) = true := by simp [Region.wanted, hgd]
  rw [if_pos hw]
  obtain ⟨A', c', w', r, hr, h2, h3, h4⟩ := run_copyR w o.type g l h A zs cap lo hi hg hz hn
  unfold Oper.wp execOp
  simp only [ho, resolve, invoke, builtin, Sem.run_bind, Sem.run_pure, Result.andThen_ok, List.map_toArray, List.map_cons, List.map_nil, hs, hx, hr]
  exact hK A' c' w' r h2 h3 h4
end Go.Proofs.Ytdkpmaahinbhlaa
/- What impl.NewPebbles answers: the two other rows are nil. No condition. -/
namespace Go.Proofs.Ytdkpmaahinbhlaa
open Go.RowKit

/-- A new state and a bool: the free pebbles in a row of the call's own, the other rows nil. -/
def NewOB (w : World) (F : List Int) (r : Bool) (e : Ending) (w' : World) : Prop :=
  ∃ (AF : Option Addr) (cF a b : Nat), e = .returned (.tuple #[pebV AF F.length cF none 0 0 none 0 0, .bool r]) ∧ OwnInts w' a b AF cF F ∧ w.heap.size ≤ a ∧ b ≤ w'.heap.size ∧ Below w.heap.size w w'

set_option maxHeartbeats 2000000 in
set_option maxRecDepth 100000 in
theorem implNewN (p k : Int) (l : List (Int × Int)) (A : Option Addr) (cap : Nat) (w : World) (hl : BarsAt w w.heap.size A l) (hn : l.length ≤ 1048576) :
    Calls Try.prog 36 #[.agg #[.int .i64 p, .slice A l.length cap], .int .i64 k] w (NewOB w (newF p k l) (newB p k l)) := by
  have HISG : ∀ W : World, BarsAt W W.heap.size A l → Calls Try.prog 130 #[.agg #[.int .i64 p, .slice A l.length cap]] W fun e w' => e = .returned (.bool (isGB p l)) ∧ Below W.heap.size W w' := fun W h => implIsGraph p l A cap W h hn
  by_cases hbad : isGB p l = false ∨ k < 1 ∨ 3 < k
  · have HR := Lib.hid (new_no hbad)
    rcases hg : isGB p l with _ | _
    · skip
      rw [hg] at HISG
      clear hbad
      have W0 := Lib.hid (Below.refl w.heap.size w)
      have HB_0 := Lib.hid (bars_in hl)
      clear hl
      have Z1 := Lib.hid (within_alloc w (.cells #[.int .i64 p, (.slice A l.length cap)] 26)).size
      have W1 := Lib.hid (within_on W0.out (within_alloc w (.cells #[.int .i64 p, (.slice A l.length cap)] 26)) W0.out.size (.inr (Nat.le_refl _)))
      have HB_1 := Lib.hid (HB_0.out.within (within_alloc w (.cells #[.int .i64 p, (.slice A l.length cap)] 26)) (by omega))
      have Y1 := Lib.hid (show (w.alloc (.cells #[.int .i64 p, (.slice A l.length cap)] 26)).heap.size = w.heap.size + 1 by simp)
      have hnew := box_new w p (.slice A l.length cap) 26
      have BX_1 := Lib.hid hnew
      clear hnew
      have Z2 := Lib.hid (within_alloc (w.alloc (.cells #[.int .i64 p, (.slice A l.length cap)] 26)) (.cells #[(.slice none 0 0), (.slice none 0 0), (.slice none 0 0)] 31)).size
      have W2 := Lib.hid (within_on W1.out (within_alloc (w.alloc (.cells #[.int .i64 p, (.slice A l.length cap)] 26)) (.cells #[(.slice none 0 0), (.slice none 0 0), (.slice none 0 0)] 31)) W1.out.size (.inr (Nat.le_refl _)))
      have HB_2 := Lib.hid (HB_1.out.within (within_alloc (w.alloc (.cells #[.int .i64 p, (.slice A l.length cap)] 26)) (.cells #[(.slice none 0 0), (.slice none 0 0), (.slice none 0 0)] 31)) (by omega))
      have BX_2 := Lib.hid (BX_1.out.within (within_alloc (w.alloc (.cells #[.int .i64 p, (.slice A l.length cap)] 26)) (.cells #[(.slice none 0 0), (.slice none 0 0), (.slice none 0 0)] 31)) (by omega))
      have Y2 := Lib.hid (show ((w.alloc (.cells #[.int .i64 p, (.slice A l.length cap)] 26)).alloc (.cells #[(.slice none 0 0), (.slice none 0 0), (.slice none 0 0)] 31)).heap.size = (w.alloc (.cells #[.int .i64 p, (.slice A l.length cap)] 26)).heap.size + 1 by simp)
      have hnew := cel3_new (w.alloc (.cells #[.int .i64 p, (.slice A l.length cap)] 26)) (.slice none 0 0) (.slice none 0 0) (.slice none 0 0) 31
      rw [show (w.alloc (.cells #[.int .i64 p, (.slice A l.length cap)] 26)).heap.size = w.heap.size + 1 by simp] at hnew
      have GR_2 := Lib.hid hnew
      clear hnew
      go_enter Try.func36, Try.ntmps36
      obtain ⟨g0_0, g0_1, g0_2⟩ := BX_2.out
      go_wp2_with fail
      clear g0_0 g0_1 g0_2
      generalize ((w.alloc (.cells #[.int .i64 p, (.slice A l.length cap)] 26)).alloc (.cells #[(.slice none 0 0), (.slice none 0 0), (.slice none 0 0)] 31)) = w2 at *
      generalize (w.alloc (.cells #[.int .i64 p, (.slice A l.length cap)] 26)) = w1 at *
      refine (HISG _ HB_2.out.at).mono ?_
      rintro e w3 ⟨rfl, hb⟩
      have Z3 := Lib.hid (within_of hb).size
      have W3 := Lib.hid (within_on W2.out (within_of hb) W2.out.size (.inr (Nat.le_refl _)))
      have HB_3 := Lib.hid (HB_2.out.within (within_of hb) (by omega))
      have BX_3 := Lib.hid (BX_2.out.within (within_of hb) (by omega))
      have GR_3 := Lib.hid (GR_2.out.within (within_of hb) (by omega))
      clear hb HISG
      obtain ⟨g1_0, g1_1, g1_2, g1_3, g1_4, g1_5⟩ := GR_3.out.cells
      have Z4 := Lib.hid ((ret3 GR_3.out (.slice none 0 0) (.slice none 0 0) (.slice none 0 0)).2).size
      have W4 := Lib.hid (within_on W3.out ((ret3 GR_3.out (.slice none 0 0) (.slice none 0 0) (.slice none 0 0)).2) W3.out.size (by have := Z1.out; have := Z2.out; have := Z3.out; have := Z4.out; have := Y1.out; have := Y2.out; omega))
      have HB_4 := Lib.hid (HB_3.out.within ((ret3 GR_3.out (.slice none 0 0) (.slice none 0 0) (.slice none 0 0)).2) (by have := Z1.out; have := Z2.out; have := Z3.out; have := Z4.out; have := Y1.out; have := Y2.out; omega))
      have BX_4 := Lib.hid (BX_3.out.within ((ret3 GR_3.out (.slice none 0 0) (.slice none 0 0) (.slice none 0 0)).2) (by have := Z1.out; have := Z2.out; have := Z3.out; have := Z4.out; have := Y1.out; have := Y2.out; omega))
      have GR_4 := Lib.hid ((ret3 GR_3.out (.slice none 0 0) (.slice none 0 0) (.slice none 0 0)).1)
      obtain ⟨g2_0, g2_1, g2_2, g2_3, g2_4, g2_5⟩ := GR_4.out.cells
      go_wp2_with fail
      generalize (((w3.setCell ⟨w.heap.size + 1, 0, none⟩ (.slice none 0 0)).setCell ⟨w.heap.size + 1, 1, none⟩ (.slice none 0 0)).setCell ⟨w.heap.size + 1, 2, none⟩ (.slice none 0 0)) = w4 at *
      refine bodyPost_ret (v := .tuple #[pebV none 0 0 none 0 0 none 0 0, .bool false]) ?_ rfl ?_
      · simp [results, Try.results36, go_sem, g2_0, g2_1, g2_2]
      · rw [HR.out.1, HR.out.2]
        exact ⟨none, 0, _, _, rfl, ⟨Nat.le_refl _, .inl rfl⟩, W4.out.size, Nat.le_refl _, W4.out⟩
    · skip
      rw [hg] at HISG
      have hk : (k < 1) ∨ (¬ k < 1 ∧ 3 < k) := by simp only [hg] at hbad; simp at hbad; omega
      clear hbad
      have W0 := Lib.hid (Below.refl w.heap.size w)
      have HB_0 := Lib.hid (bars_in hl)
      clear hl
      have Z1 := Lib.hid (within_alloc w (.cells #[.int .i64 p, (.slice A l.length cap)] 26)).size
      have W1 := Lib.hid (within_on W0.out (within_alloc w (.cells #[.int .i64 p, (.slice A l.length cap)] 26)) W0.out.size (.inr (Nat.le_refl _)))
      have HB_1 := Lib.hid (HB_0.out.within (within_alloc w (.cells #[.int .i64 p, (.slice A l.length cap)] 26)) (by omega))
      have Y1 := Lib.hid (show (w.alloc (.cells #[.int .i64 p, (.slice A l.length cap)] 26)).heap.size = w.heap.size + 1 by simp)
      have hnew := box_new w p (.slice A l.length cap) 26
      have BX_1 := Lib.hid hnew
      clear hnew
      have Z2 := Lib.hid (within_alloc (w.alloc (.cells #[.int .i64 p, (.slice A l.length cap)] 26)) (.cells #[(.slice none 0 0), (.slice none 0 0), (.slice none 0 0)] 31)).size
      have W2 := Lib.hid (within_on W1.out (within_alloc (w.alloc (.cells #[.int .i64 p, (.slice A l.length cap)] 26)) (.cells #[(.slice none 0 0), (.slice none 0 0), (.slice none 0 0)] 31)) W1.out.size (.inr (Nat.le_refl _)))
      have HB_2 := Lib.hid (HB_1.out.within (within_alloc (w.alloc (.cells #[.int .i64 p, (.slice A l.length cap)] 26)) (.cells #[(.slice none 0 0), (.slice none 0 0), (.slice none 0 0)] 31)) (by omega))
      have BX_2 := Lib.hid (BX_1.out.within (within_alloc (w.alloc (.cells #[.int .i64 p, (.slice A l.length cap)] 26)) (.cells #[(.slice none 0 0), (.slice none 0 0), (.slice none 0 0)] 31)) (by omega))
      have Y2 := Lib.hid (show ((w.alloc (.cells #[.int .i64 p, (.slice A l.length cap)] 26)).alloc (.cells #[(.slice none 0 0), (.slice none 0 0), (.slice none 0 0)] 31)).heap.size = (w.alloc (.cells #[.int .i64 p, (.slice A l.length cap)] 26)).heap.size + 1 by simp)
      have hnew := cel3_new (w.alloc (.cells #[.int .i64 p, (.slice A l.length cap)] 26)) (.slice none 0 0) (.slice none 0 0) (.slice none 0 0) 31
      rw [show (w.alloc (.cells #[.int .i64 p, (.slice A l.length cap)] 26)).heap.size = w.heap.size + 1 by simp] at hnew
      have GR_2 := Lib.hid hnew
      clear hnew
      go_enter Try.func36, Try.ntmps36
      obtain ⟨g0_0, g0_1, g0_2⟩ := BX_2.out
      go_wp2_with fail
      clear g0_0 g0_1 g0_2
      generalize ((w.alloc (.cells #[.int .i64 p, (.slice A l.length cap)] 26)).alloc (.cells #[(.slice none 0 0), (.slice none 0 0), (.slice none 0 0)] 31)) = w2 at *
      generalize (w.alloc (.cells #[.int .i64 p, (.slice A l.length cap)] 26)) = w1 at *
      refine (HISG _ HB_2.out.at).mono ?_
      rintro e w3 ⟨rfl, hb⟩
      have Z3 := Lib.hid (within_of hb).size
      have W3 := Lib.hid (within_on W2.out (within_of hb) W2.out.size (.inr (Nat.le_refl _)))
      have HB_3 := Lib.hid (HB_2.out.within (within_of hb) (by omega))
      have BX_3 := Lib.hid (BX_2.out.within (within_of hb) (by omega))
      have GR_3 := Lib.hid (GR_2.out.within (within_of hb) (by omega))
      clear hb HISG
      rcases hk with hk | ⟨hk1, hk⟩
      all_goals
        obtain ⟨g1_0, g1_1, g1_2, g1_3, g1_4, g1_5⟩ := GR_3.out.cells
        have Z4 := Lib.hid ((ret3 GR_3.out (.slice none 0 0) (.slice none 0 0) (.slice none 0 0)).2).size
        have W4 := Lib.hid (within_on W3.out ((ret3 GR_3.out (.slice none 0 0) (.slice none 0 0) (.slice none 0 0)).2) W3.out.size (by have := Z1.out; have := Z2.out; have := Z3.out; have := Z4.out; have := Y1.out; have := Y2.out; omega))
        have HB_4 := Lib.hid (HB_3.out.within ((ret3 GR_3.out (.slice none 0 0) (.slice none 0 0) (.slice none 0 0)).2) (by have := Z1.out; have := Z2.out; have := Z3.out; have := Z4.out; have := Y1.out; have := Y2.out; omega))
        have BX_4 := Lib.hid (BX_3.out.within ((ret3 GR_3.out (.slice none 0 0) (.slice none 0 0) (.slice none 0 0)).2) (by have := Z1.out; have := Z2.out; have := Z3.out; have := Z4.out; have := Y1.out; have := Y2.out; omega))
        have GR_4 := Lib.hid ((ret3 GR_3.out (.slice none 0 0) (.slice none 0 0) (.slice none 0 0)).1)
        obtain ⟨g2_0, g2_1, g2_2, g2_3, g2_4, g2_5⟩ := GR_4.out.cells
        go_wp2_with fail
        generalize (((w3.setCell ⟨w.heap.size + 1, 0, none⟩ (.slice none 0 0)).setCell ⟨w.heap.size + 1, 1, none⟩ (.slice none 0 0)).setCell ⟨w.heap.size + 1, 2, none⟩ (.slice none 0 0)) = w4 at *
        refine bodyPost_ret (v := .tuple #[pebV none 0 0 none 0 0 none 0 0, .bool false]) ?_ rfl ?_
        · simp [results, Try.results36, go_sem, g2_0, g2_1, g2_2]
        · rw [HR.out.1, HR.out.2]
          exact ⟨none, 0, _, _, rfl, ⟨Nat.le_refl _, .inl rfl⟩, W4.out.size, Nat.le_refl _, W4.out⟩
  · skip
    have hg : isGB p l = true := by
      cases h : isGB p l with
      | true => rfl
      | false => exact absurd (.inl h) hbad
    have hG : IsG p l := Classical.byContradiction fun g => by rw [isGB_no g] at hg; cases hg
    obtain ⟨P, rfl⟩ : ∃ P : Nat, p = (P : Int) := ⟨p.toNat, by have := hG.1; omega⟩
    have hP : 1 ≤ P ∧ P ≤ 8 := by have := hG.1; omega
    have hk1 : ¬ k < 1 := by omega
    have hk2 : ¬ 3 < k := by omega
    have HR := Lib.hid (new_yes (l := l) hg (by omega : 1 ≤ k) (by omega))
    rw [hg] at HISG
    clear hbad hG hg
    have W0 := Lib.hid (Below.refl w.heap.size w)
    have HB_0 := Lib.hid (bars_in hl)
    clear hl
    have Z1 := Lib.hid (within_alloc w (.cells #[.int .i64 (P : Int), (.slice A l.length cap)] 26)).size
    have W1 := Lib.hid (within_on W0.out (within_alloc w (.cells #[.int .i64 (P : Int), (.slice A l.length cap)] 26)) W0.out.size (.inr (Nat.le_refl _)))
    have HB_1 := Lib.hid (HB_0.out.within (within_alloc w (.cells #[.int .i64 (P : Int), (.slice A l.length cap)] 26)) (by omega))
    have Y1 := Lib.hid (show (w.alloc (.cells #[.int .i64 (P : Int), (.slice A l.length cap)] 26)).heap.size = w.heap.size + 1 by simp)
    have hnew := box_new w (P : Int) (.slice A l.length cap) 26
    have BX_1 := Lib.hid hnew
    clear hnew
    have Z2 := Lib.hid (within_alloc (w.alloc (.cells #[.int .i64 (P : Int), (.slice A l.length cap)] 26)) (.cells #[(.slice none 0 0), (.slice none 0 0), (.slice none 0 0)] 31)).size
    have W2 := Lib.hid (within_on W1.out (within_alloc (w.alloc (.cells #[.int .i64 (P : Int), (.slice A l.length cap)] 26)) (.cells #[(.slice none 0 0), (.slice none 0 0), (.slice none 0 0)] 31)) W1.out.size (.inr (Nat.le_refl _)))
    have HB_2 := Lib.hid (HB_1.out.within (within_alloc (w.alloc (.cells #[.int .i64 (P : Int), (.slice A l.length cap)] 26)) (.cells #[(.slice none 0 0), (.slice none 0 0), (.slice none 0 0)] 31)) (by omega))
    have BX_2 := Lib.hid (BX_1.out.within (within_alloc (w.alloc (.cells #[.int .i64 (P : Int), (.slice A l.length cap)] 26)) (.cells #[(.slice none 0 0), (.slice none 0 0), (.slice none 0 0)] 31)) (by omega))
    have Y2 := Lib.hid (show ((w.alloc (.cells #[.int .i64 (P : Int), (.slice A l.length cap)] 26)).alloc (.cells #[(.slice none 0 0), (.slice none 0 0), (.slice none 0 0)] 31)).heap.size = (w.alloc (.cells #[.int .i64 (P : Int), (.slice A l.length cap)] 26)).heap.size + 1 by simp)
    have hnew := cel3_new (w.alloc (.cells #[.int .i64 (P : Int), (.slice A l.length cap)] 26)) (.slice none 0 0) (.slice none 0 0) (.slice none 0 0) 31
    rw [show (w.alloc (.cells #[.int .i64 (P : Int), (.slice A l.length cap)] 26)).heap.size = w.heap.size + 1 by simp] at hnew
    have GR_2 := Lib.hid hnew
    clear hnew
    go_enter Try.func36, Try.ntmps36
    obtain ⟨g0_0, g0_1, g0_2⟩ := BX_2.out
    go_wp2_with fail
    clear g0_0 g0_1 g0_2
    generalize ((w.alloc (.cells #[.int .i64 (P : Int), (.slice A l.length cap)] 26)).alloc (.cells #[(.slice none 0 0), (.slice none 0 0), (.slice none 0 0)] 31)) = w2 at *
    generalize (w.alloc (.cells #[.int .i64 (P : Int), (.slice A l.length cap)] 26)) = w1 at *
    refine (HISG _ HB_2.out.at).mono ?_
    rintro e w3 ⟨rfl, hb⟩
    have Z3 := Lib.hid (within_of hb).size
    have W3 := Lib.hid (within_on W2.out (within_of hb) W2.out.size (.inr (Nat.le_refl _)))
    have HB_3 := Lib.hid (HB_2.out.within (within_of hb) (by omega))
    have BX_3 := Lib.hid (BX_2.out.within (within_of hb) (by omega))
    have GR_3 := Lib.hid (GR_2.out.within (within_of hb) (by omega))
    clear hb HISG
    have Z4 := Lib.hid (within_alloc w3 (.cells #[.int .i64 k] 3)).size
    have W4 := Lib.hid (within_on W3.out (within_alloc w3 (.cells #[.int .i64 k] 3)) W3.out.size (.inr (Nat.le_refl _)))
    have HB_4 := Lib.hid (HB_3.out.within (within_alloc w3 (.cells #[.int .i64 k] 3)) (by omega))
    have BX_4 := Lib.hid (BX_3.out.within (within_alloc w3 (.cells #[.int .i64 k] 3)) (by omega))
    have GR_4 := Lib.hid (GR_3.out.within (within_alloc w3 (.cells #[.int .i64 k] 3)) (by omega))
    have Y4 := Lib.hid (show (w3.alloc (.cells #[.int .i64 k] 3)).heap.size = w3.heap.size + 1 by simp)
    have hck : (w3.alloc (.cells #[.int .i64 k] 3)).cell? ⟨w3.heap.size, 0, none⟩ = some (.int .i64 k) := by rw [World.cell?_alloc_at _ _ _ _ rfl]; rfl
    have HCK := Lib.hid hck
    clear hck
    obtain ⟨g1_0, g1_1, g1_2⟩ := BX_4.out
    go_wp2_with fail
    clear g1_0 g1_1 g1_2
    generalize (w3.alloc (.cells #[.int .i64 k] 3)) = w4 at *
    refine (slRepeat P k w3.heap.size _ hP.1 hP.2 HCK.out).mono ?_
    rintro e w5 ⟨g, rfl, ho, hb⟩
    have Z5 := Lib.hid (within_of hb).size
    have W5 := Lib.hid (within_on W4.out (within_of hb) W4.out.size (.inr (Nat.le_refl _)))
    have HB_5 := Lib.hid (HB_4.out.within (within_of hb) (by omega))
    have BX_5 := Lib.hid (BX_4.out.within (within_of hb) (by omega))
    have GR_5 := Lib.hid (GR_4.out.within (within_of hb) (by omega))
    have OF_5 := Lib.hid (own_ints' (zs := List.replicate P k) (by rw [List.length_replicate]; exact ho))
    clear ho hb
    obtain ⟨g2_0, g2_1, g2_2, g2_3, g2_4, g2_5⟩ := GR_5.out.cells
    have Z6 := Lib.hid ((ret3 GR_5.out (.slice (some ⟨g, 0, none⟩) P P) (.slice none 0 0) (.slice none 0 0)).2).size
    have W6 := Lib.hid (within_on W5.out ((ret3 GR_5.out (.slice (some ⟨g, 0, none⟩) P P) (.slice none 0 0) (.slice none 0 0)).2) W5.out.size (by have := Z1.out; have := Z2.out; have := Z3.out; have := Z4.out; have := Z5.out; have := Z6.out; have := Y1.out; have := Y2.out; have := Y4.out; omega))
    have HB_6 := Lib.hid (HB_5.out.within ((ret3 GR_5.out (.slice (some ⟨g, 0, none⟩) P P) (.slice none 0 0) (.slice none 0 0)).2) (by have := Z1.out; have := Z2.out; have := Z3.out; have := Z4.out; have := Z5.out; have := Z6.out; have := Y1.out; have := Y2.out; have := Y4.out; omega))
    have BX_6 := Lib.hid (BX_5.out.within ((ret3 GR_5.out (.slice (some ⟨g, 0, none⟩) P P) (.slice none 0 0) (.slice none 0 0)).2) (by have := Z1.out; have := Z2.out; have := Z3.out; have := Z4.out; have := Z5.out; have := Z6.out; have := Y1.out; have := Y2.out; have := Y4.out; omega))
    have GR_6 := Lib.hid ((ret3 GR_5.out (.slice (some ⟨g, 0, none⟩) P P) (.slice none 0 0) (.slice none 0 0)).1)
    have OF_6 := Lib.hid (OF_5.out.within ((ret3 GR_5.out (.slice (some ⟨g, 0, none⟩) P P) (.slice none 0 0) (.slice none 0 0)).2) (by have := Z1.out; have := Z2.out; have := Z3.out; have := Z4.out; have := Z5.out; have := Z6.out; have := Y1.out; have := Y2.out; have := Y4.out; omega))
    obtain ⟨g3_0, g3_1, g3_2, g3_3, g3_4, g3_5⟩ := GR_6.out.cells
    go_wp2_with fail
    generalize (((w5.setCell ⟨w.heap.size + 1, 0, none⟩ (.slice (some ⟨g, 0, none⟩) P P)).setCell ⟨w.heap.size + 1, 1, none⟩ (.slice none 0 0)).setCell ⟨w.heap.size + 1, 2, none⟩ (.slice none 0 0)) = w6 at *
    refine bodyPost_ret (v := .tuple #[pebV (some ⟨g, 0, none⟩) P P none 0 0 none 0 0, .bool true]) ?_ rfl ?_
    · simp [results, Try.results36, go_sem, g3_0, g3_1, g3_2]
    · rw [HR.out.1, HR.out.2]
      exact ⟨some ⟨g, 0, none⟩, P, _, _, by rw [List.length_replicate], OF_6.out, (by have := Z1.out; have := Z2.out; have := Z3.out; have := Z4.out; have := Z5.out; have := Z6.out; have := Y1.out; have := Y2.out; have := Y4.out; omega), (by have := Z1.out; have := Z2.out; have := Z3.out; have := Z4.out; have := Z5.out; have := Z6.out; have := Y1.out; have := Y2.out; have := Y4.out; omega), W6.out⟩

end Go.Proofs.Ytdkpmaahinbhlaa
/- What the program's pointSet.list and isOvercounted answer. No condition. -/
namespace Go.Proofs.Ytdkpmaahinbhlaa
open Go.RowKit

set_option maxHeartbeats 2000000 in
set_option maxRecDepth 100000 in
theorem implList (P m : Nat) (gv : Value) (w : World) (hP : P ≤ 8) (hm : m < 256) :
    Calls Try.prog 251 #[.int .u64 (m : Int), .agg #[.int .i64 (P : Int), gv]] w (IntsO w (setL P m)) := by
  have HG := Lib.hid (show GrowB w (w.alloc (.cells #[.int .i64 (P : Int), gv] 26)) (P : Int) gv (outF 0 fun v => m.testBit v) (.slice none 0 0) from
    ⟨GrowI.nil w _ (new_below w _), box_new w (P : Int) gv 26, by simp [Value.ownBlock]⟩)
  go_enter Try.func251, Try.ntmps251
  go_wp2_with fail
  generalize (w.alloc (.cells #[.int .i64 (P : Int), gv] 26)) = w1 at *
  go_loopw [5, 9] (fun o i wr => ∃ j : Nat, j ≤ P ∧ i = .int .i64 j ∧ GrowB w wr (P : Int) gv (outF j fun v => m.testBit v) o) (fun _ i _ => P - (intOf i).toNat)
  case atStart => exact ⟨0, by omega, rfl, HG.out⟩
  case round =>
    obtain ⟨j, hj, rfl, hst⟩ := hrel
    have hol := outF_len j (fun v => m.testBit v)
    obtain ⟨A', c', rfl⟩ := own_shape hst.1.1
    have HS := Lib.hid hst
    have hbs := hst.1.2.size
    clear hst
    by_cases hlt : j < P
    · have hij : (j : Int) < (P : Int) := by omega
      have HHAS := has_p m j wr hm (by omega)
      cases ht : m.testBit j
      · rw [ht] at HHAS
        have HE := Lib.hid (show outF (j + 1) (fun v => m.testBit v) = outF j (fun v => m.testBit v) by rw [outF_succ]; simp [ht])
        go_wp2_with (go_at_call 255; refine HHAS.mono ?_; rintro e w2 ⟨rfl, rfl⟩; clear HHAS)
        go_roundw
        case rel => exact ⟨j + 1, by omega, by go_num, by rw [HE.out]; exact HS.out⟩
        case measure => simp [intOf]; omega
      · rw [ht] at HHAS
        have HE := Lib.hid (show outF (j + 1) (fun v => m.testBit v) = outF j (fun v => m.testBit v) ++ [(j : Int)] by rw [outF_succ]; simp [ht])
        go_wp2_with (first | (go_at_call 255; refine HHAS.mono ?_; rintro e w2 ⟨rfl, rfl⟩; clear HHAS) | (at_builtin; refine wpList_at _ rfl _ _ 29 rfl w.heap.size 3 (.int .i64 0) 1 8 Try.underlying29 infoInt rfl (by decide) _ _ _ rfl HS.out.1.1 #[.int .i64 (j : Int)] 1 rfl (by simp [Value.oneCell']) _ 1 (by simp [Act.eval]) (by omega) (by unfold maxLen; omega) hbs ?_; intro v' w' ho hg hat _; obtain ⟨A2, c2, rfl⟩ := own_shape ho; have HY := Lib.hid (HS.out.push ho hg hat); clear ho hg hat))
        go_roundw
        case rel => exact ⟨j + 1, by omega, by go_num, by rw [HE.out]; exact HY.out⟩
        case measure => simp [intOf]; omega
    · obtain rfl : j = P := by omega
      go_wp2_with fail
      go_ret
      exact HS.out.1.intsO

def okE (P : Nat) (l : List (Int × Int)) : Prop := ∀ i, i < l.length → 0 ≤ (l.getD i (0, 0)).1 ∧ (l.getD i (0, 0)).1 < (l.getD i (0, 0)).2 ∧ (l.getD i (0, 0)).2 < (P : Int)

set_option maxHeartbeats 4000000 in
set_option maxRecDepth 100000 in
theorem implOverOne (P m : Nat) (k c : Int) (l : List (Int × Int)) (A : Option Addr) (cap : Nat) (w : World) (hl : BarsAt w w.heap.size A l) (hn : l.length ≤ 24) (hP : P ≤ 8) (hm : m < 2 ^ P) (hE : okE P l) (hr : rangeB k c = true) :
    Calls Try.prog 250 #[.agg #[.int .i64 (P : Int), .slice A l.length cap], .int .u64 (m : Int), .int .i64 k, .int .i64 c] w fun e w' => e = .returned (.bool (badS l k c P m)) ∧ Below w.heap.size w w' := by
  have hm8 : m < 256 := Nat.lt_of_lt_of_le hm (Nat.pow_le_pow_right (by decide) hP : 2 ^ P ≤ 2 ^ 8)
  have hk : 1 ≤ k ∧ k ≤ 3 ∧ 0 ≤ c ∧ c ≤ 2 * k - 1 := by simpa [rangeB, and_assoc] using hr
  have hb := new_below w (.cells #[.int .i64 (P : Int), .slice A l.length cap] 26)
  have HL := Lib.hid hl
  have HB := Lib.hid hb
  have HEE := Lib.hid hE
  have HSZ := size_p P m
  have BX := box_new w (P : Int) (.slice A l.length cap) 26
  clear hl hb hE hr
  obtain ⟨_, g1, g2⟩ := BX
  go_enter Try.func250, Try.ntmps250
  go_wp2_with fail
  clear g1 g2
  generalize (w.alloc (.cells #[.int .i64 (P : Int), .slice A l.length cap] 26)) = w1 at *
  go_loopw [9, 15] (fun n i wr => ∃ j : Nat, j ≤ l.length ∧ i = .int .i64 j ∧ n = .int .i64 ((l.take j).countP (bothB m) : Nat) ∧ Below w.heap.size w wr) (fun _ i _ => l.length - (intOf i).toNat)
  case atStart => exact ⟨0, by omega, rfl, by simp, HB.out⟩
  case round =>
    obtain ⟨j, hj, rfl, rfl, hbw⟩ := hrel
    have HBW := Lib.hid hbw
    have hbs := hbw.size
    clear hbw
    have hcl : (l.take j).countP (bothB m) ≤ j := Nat.le_trans List.countP_le_length (by simp; omega)
    by_cases hlt : j < l.length
    · have hij : (j : Int) < (l.length : Int) := by omega
      obtain ⟨b0, off, rfl, hbB, hcell⟩ := HL.out (by omega)
      have hc1 := (HBW.out.cell (p := ⟨b0, off + j * 2, none⟩) hbB).trans (hcell j hlt).1
      have hc2 := (HBW.out.cell (p := ⟨b0, off + j * 2 + 1, none⟩) hbB).trans (hcell j hlt).2
      have hbar := HEE.out j hlt
      have hx' := countP_take (bothB m) l j hlt
      obtain ⟨x, hx⟩ : ∃ x, l.getD j (0, 0) = x := ⟨_, rfl⟩
      rw [hx] at hc1 hc2 hbar hx'
      obtain ⟨x1, x2⟩ := x
      simp only at hc1 hc2 hbar
      obtain ⟨a, rfl⟩ : ∃ a : Nat, x1 = (a : Int) := ⟨x1.toNat, by omega⟩
      obtain ⟨b, rfl⟩ : ∃ b : Nat, x2 = (b : Int) := ⟨x2.toNat, by omega⟩
      have ha8 : a < 8 := by omega
      have hb8 : b < 8 := by omega
      have hbth : bothB m ((a : Int), (b : Int)) = (m.testBit a && m.testBit b) := rfl
      rw [hbth] at hx'
      clear hx hcell hbar hbth
      have HN := Lib.hid (HBW.out.trans ((new_below wr (.cells #[.int .i64 (a : Int), .int .i64 (b : Int)] 108)).mono hbs))
      have H1 := has_p m a (wr.alloc (.cells #[.int .i64 (a : Int), .int .i64 (b : Int)] 108)) hm8 ha8
      have H2 := has_p m b (wr.alloc (.cells #[.int .i64 (a : Int), .int .i64 (b : Int)] 108)) hm8 hb8
      generalize (l.take j).countP (bothB m) = n0 at *
      cases h1 : m.testBit a
      · rw [h1] at H1
        have HX := Lib.hid (hx'.trans (by rw [h1]; simp : _ = n0))
        clear hx' H2
        go_wp2_with (go_at_call 255; refine H1.mono ?_; rintro e w2 ⟨rfl, rfl⟩; clear H1)
        go_roundw
        case rel => exact ⟨j + 1, by omega, by go_num, by rw [HX.out], HN.out⟩
        case measure => simp [intOf]; omega
      · rw [h1] at H1
        cases h2 : m.testBit b
        · rw [h2] at H2
          have HX := Lib.hid (hx'.trans (by rw [h1, h2]; simp : _ = n0))
          clear hx'
          go_wp2_with (first | (go_at_call 255; refine H1.mono ?_; rintro e w2 ⟨rfl, rfl⟩; clear H1) | (go_at_call 255; refine H2.mono ?_; rintro e w2 ⟨rfl, rfl⟩; clear H2))
          go_roundw
          case rel => exact ⟨j + 1, by omega, by go_num, by rw [HX.out], HN.out⟩
          case measure => simp [intOf]; omega
        · rw [h2] at H2
          have HX := Lib.hid (hx'.trans (by rw [h1, h2]; simp : _ = n0 + 1))
          clear hx'
          go_wp2_with (first | (go_at_call 255; refine H1.mono ?_; rintro e w2 ⟨rfl, rfl⟩; clear H1) | (go_at_call 255; refine H2.mono ?_; rintro e w2 ⟨rfl, rfl⟩; clear H2))
          go_roundw
          case rel => exact ⟨j + 1, by omega, by go_num, by rw [HX.out]; go_num, HN.out⟩
          case measure => simp [intOf]; omega
    · obtain rfl : j = l.length := by omega
      rw [List.take_length] at hcl ⊢
      have hbad : badS l k c P m = (decide (0 < l.countP (bothB m)) && decide (k * ((setL P m).length : Int) - c < (l.countP (bothB m) : Int))) := rfl
      have hsl := setL_len P m
      generalize l.countP (bothB m) = n0 at *
      generalize (setL P m).length = s0 at *
      by_cases h0 : 0 < n0
      · have h0' : (0 : Int) < (n0 : Int) := by omega
        have hks : 0 ≤ k * (s0 : Int) ∧ k * (s0 : Int) ≤ 24 := by
          constructor
          · exact Int.mul_nonneg (by omega) (by omega)
          · calc k * (s0 : Int) ≤ 3 * (s0 : Int) := Int.mul_le_mul_of_nonneg_right (by omega) (by omega)
              _ ≤ 24 := by omega
        by_cases h1 : k * (s0 : Int) - c < (n0 : Int)
        all_goals
          have HBD := Lib.hid (hbad.trans (by simp [h0, h1] : _ = decide (k * (s0 : Int) - c < (n0 : Int))))
          rw [show decide (k * (s0 : Int) - c < (n0 : Int)) = _ from by first | exact decide_eq_true h1 | exact decide_eq_false h1] at HBD
          clear hbad
          go_wp2_with (go_at_call 256; refine (HSZ _ hP hm).mono ?_; rintro e w2 ⟨rfl, rfl⟩)
          go_ret
          exact ⟨by rw [HBD.out]; try simp [*], HBW.out⟩
      · obtain rfl : n0 = 0 := by omega
        have HBD := Lib.hid (hbad.trans (by simp : _ = false))
        clear hbad
        go_wp2_with fail
        go_ret
        exact ⟨by rw [HBD.out]; try simp [*], HBW.out⟩
end Go.Proofs.Ytdkpmaahinbhlaa
/- What spec.l7Near answers: a point's neighbours. No condition. -/
namespace Go.Proofs.Ytdkpmaahinbhlaa
open Go.RowKit

/-- The other ends of the bars at v. -/
def nearL (v : Int) (l : List (Int × Int)) : List Int := (l.filter (endB v)).map fun x => oth x v
theorem nearL_len (v : Int) (l : List (Int × Int)) : (nearL v l).length ≤ l.length := by
  unfold nearL
  rw [List.length_map]
  exact List.length_filter_le _ _
theorem nearL_zero (v : Int) (l : List (Int × Int)) : nearL v (l.take 0) = [] := by rw [List.take_zero]; rfl
theorem nearL_succ (v : Int) (l : List (Int × Int)) (j : Nat) (hj : j < l.length) : nearL v (l.take (j + 1)) = nearL v (l.take j) ++ if endB v (l.getD j (0, 0)) = true then [oth (l.getD j (0, 0)) v] else [] := by
  have h : l.take (j + 1) = l.take j ++ [l.getD j (0, 0)] := by
    rw [List.take_succ_eq_append_getElem hj]
    simp [List.getD, List.getElem?_eq_getElem hj]
  unfold nearL
  rw [h, List.filter_append, List.map_append]
  generalize l.getD j (0, 0) = y
  rw [List.filter_cons, List.filter_nil]
  by_cases e : endB v y = true
  · rw [if_pos e, if_pos e]; rfl
  · rw [if_neg e, if_neg e]; rfl
theorem GrowP.more {a b : Nat} {V W W' : World} {ys : List Int} {A : Option Addr} {cap lo hi : Nat} (h : GrowP a b V W ys A cap lo hi) (hb : Below W.heap.size W W') : GrowP a b V W' ys A cap lo hi :=
  ⟨h.row.within (within_of hb) (.inr (Nat.zero_le _)), h.rng, Nat.le_trans h.le hb.size, ⟨hb.os.trans h.wi.os, hb.tape.trans h.wi.tape, hb.output.trans h.wi.output, Nat.le_trans h.wi.size hb.size, fun i hi hd => (hb.block i (Nat.lt_of_lt_of_le hi h.wi.size)).trans (h.wi.block i hi hd)⟩⟩
set_option maxHeartbeats 4000000 in
set_option maxRecDepth 100000 in
theorem near_c (p v : Int) (l : List (Int × Int)) (A : Option Addr) (cap : Nat) (w : World) (hl : BarsAt w w.heap.size A l) (hg : IsG p l) (hv : 0 ≤ v ∧ v < p) :
    Calls Try.prog 204 #[.agg #[.int .i64 p, .slice A l.length cap], .int .i64 v] w (IntsO w (nearL v l)) := by
  have hlen := hg.2.1
  have HOK := Lib.hid (show ∀ j, j < l.length → 0 ≤ (l.getD j (0, 0)).1 ∧ (l.getD j (0, 0)).1 < (l.getD j (0, 0)).2 ∧ (l.getD j (0, 0)).2 < p from fun j hj => ⟨(hg.2.2 j hj).1, (hg.2.2 j hj).2.1, (hg.2.2 j hj).2.2.1⟩)
  have hp8 := hg.1
  clear hg
  have W0 := Lib.hid (Below.refl w.heap.size w)
  have HB_0 := Lib.hid (bars_in hl)
  clear hl
  have Z1 := Lib.hid (within_alloc w (.cells #[.int .i64 p, (.slice A l.length cap)] 26)).size
  have W1 := Lib.hid (within_on W0.out (within_alloc w (.cells #[.int .i64 p, (.slice A l.length cap)] 26)) W0.out.size (.inr (Nat.le_refl _)))
  have HB_1 := Lib.hid (HB_0.out.within (within_alloc w (.cells #[.int .i64 p, (.slice A l.length cap)] 26)) (by omega))
  have Y1 := Lib.hid (show (w.alloc (.cells #[.int .i64 p, (.slice A l.length cap)] 26)).heap.size = w.heap.size + 1 by simp)
  have hnew := box_new w p (.slice A l.length cap) 26
  have BX_1 := Lib.hid hnew
  clear hnew
  have Z2 := Lib.hid (within_alloc (w.alloc (.cells #[.int .i64 p, (.slice A l.length cap)] 26)) (.cells #[] 3)).size
  have W2 := Lib.hid (within_on W1.out (within_alloc (w.alloc (.cells #[.int .i64 p, (.slice A l.length cap)] 26)) (.cells #[] 3)) W1.out.size (.inr (Nat.le_refl _)))
  have HB_2 := Lib.hid (HB_1.out.within (within_alloc (w.alloc (.cells #[.int .i64 p, (.slice A l.length cap)] 26)) (.cells #[] 3)) (by omega))
  have BX_2 := Lib.hid (BX_1.out.within (within_alloc (w.alloc (.cells #[.int .i64 p, (.slice A l.length cap)] 26)) (.cells #[] 3)) (by omega))
  have Y2 := Lib.hid (show ((w.alloc (.cells #[.int .i64 p, (.slice A l.length cap)] 26)).alloc (.cells #[] 3)).heap.size = (w.alloc (.cells #[.int .i64 p, (.slice A l.length cap)] 26)).heap.size + 1 by simp)
  have hown := ownR_empty (w.alloc (.cells #[.int .i64 p, (.slice A l.length cap)] 26))
  rw [show (w.alloc (.cells #[.int .i64 p, (.slice A l.length cap)] 26)).heap.size = w.heap.size + 1 by simp] at hown
  have OE_2 := Lib.hid hown
  clear hown
  have HSZ := Lib.hid (show ((w.alloc (.cells #[.int .i64 p, (.slice A l.length cap)] 26)).alloc (.cells #[] 3)).heap.size = w.heap.size + 1 + 1 by simp)
  go_enter Try.func204, Try.ntmps204
  obtain ⟨g0_0, g0_1, g0_2⟩ := BX_2.out
  go_wp2_with fail
  clear g0_0 g0_1 g0_2
  generalize ((w.alloc (.cells #[.int .i64 p, (.slice A l.length cap)] 26)).alloc (.cells #[] 3)) = w2 at *
  generalize (w.alloc (.cells #[.int .i64 p, (.slice A l.length cap)] 26)) = w1 at *
  have HG0 := Lib.hid (show GrowP (w.heap.size + 1) (w.heap.size + 1 + 1) w2 w2 (nearL v (l.take 0)) (some ⟨w.heap.size + 1, 0, none⟩) 0 (w.heap.size + 1) (w.heap.size + 1 + 1) from by rw [nearL_zero]; exact ⟨OE_2.out, .inl ⟨rfl, rfl⟩, (by have := HSZ.out; omega), Within.refl _ _ w2⟩)
  go_loopw [5, 6] (fun u i wr => ∃ j : Nat, j ≤ l.length ∧ i = .int .i64 j ∧ ∃ Ao co lo hi, u = .slice Ao (nearL v (l.take j)).length co ∧ GrowP (w.heap.size + 1) (w.heap.size + 1 + 1) w2 wr (nearL v (l.take j)) Ao co lo hi) (fun _ i _ => l.length - (intOf i).toNat)
  case atStart => exact ⟨0, Nat.zero_le _, rfl, _, 0, _, _, rfl, HG0.out⟩
  case round =>
    obtain ⟨j, hj, rfl, Ao, co, lo2, hi2, rfl, hst⟩ := hrel
    have HG := Lib.hid hst
    have BXW := Lib.hid (BX_2.out.within hst.wi (.inl (Nat.lt_succ_self _)))
    have HBW := Lib.hid (HB_2.out.within hst.wi (.inl (by have := HSZ.out; omega)))
    have HYL := Lib.hid (Nat.le_trans (nearL_len v (l.take j)) (by rw [List.length_take]; omega : (l.take j).length ≤ 24))
    clear hst
    by_cases hlt : j < l.length
    · have hji : (j : Int) < (l.length : Int) := by omega
      obtain ⟨b0, off, rfl, _, hb0, hcell⟩ := HBW.out.2 (by omega)
      have hok := HOK.out j hlt
      have hsu := nearL_succ v l j hlt
      obtain ⟨hc1, hc2⟩ := hcell j hlt
      obtain ⟨⟨x1, x2⟩, hx⟩ : ∃ x, l.getD j (0, 0) = x := ⟨_, rfl⟩
      rw [hx] at hc1 hc2 hok hsu
      have hee := endB_eq v x1 x2
      obtain ⟨ys, hys⟩ : ∃ ys, nearL v (l.take j) = ys := ⟨_, rfl⟩
      rw [hys] at HG HYL hsu ⊢
      obtain ⟨o, ho⟩ : ∃ o, oth (x1, x2) v = o := ⟨_, rfl⟩
      rw [ho] at hsu
      have HO := Lib.hid ho
      have HEE := Lib.hid hee
      have HSU := Lib.hid hsu
      have HX := Lib.hid hok
      simp only at hok
      clear hcell hx hys ho hee hsu
      obtain ⟨q0, q1, q2⟩ := BXW.out
      by_cases c1 : x1 = v
      · have e1 : (x1 == v) = true := by simpa using c1
        have he : endB v (x1, x2) = true := by rw [HEE.out, e1]; rfl
        have HN := Lib.hid (show nearL v (l.take (j + 1)) = ys ++ [o] by rw [HSU.out, if_pos he])
        clear he c1
        go_wp2_with (first
          | (go_at_call 226; refine (other_c (x1, x2) v _ (by simp only; omega) (by simp only; omega) (by omega)).mono ?_; rintro e w9 ⟨rfl, hb9⟩; rw [HO.out]; have HG9 := Lib.hid (HG.out.more hb9); clear hb9)
          | (at_builtin; refine wpList_pushR w9 rfl _ _ rfl lo2 hi2 Ao co ys o rfl HG9.out.row _ rfl (by have := HYL.out; omega) HG9.out.le ?_; intro A6 c6 w16 lo6 hi6 hr6 hor6 hw6; have HG6 := Lib.hid (HG9.out.push hr6 hor6 hw6); clear hr6 hor6 hw6))
        go_roundw
        case rel => exact ⟨j + 1, by omega, by go_num, A6, c6, lo6, hi6, by rw [HN.out, List.length_append]; rfl, by rw [HN.out]; exact HG6.out⟩
        case measure => simp [intOf]; omega
      · have e1 : (x1 == v) = false := by simpa using c1
        have e1' : (x1 != v) = true := by simpa using c1
        by_cases c2 : x2 = v
        · have e2 : (x2 == v) = true := by simpa using c2
          have he : endB v (x1, x2) = true := by rw [HEE.out, e1, e2]; rfl
          have HN := Lib.hid (show nearL v (l.take (j + 1)) = ys ++ [o] by rw [HSU.out, if_pos he])
          clear he c1 c2 e1'
          go_wp2_with (first
            | (go_at_call 226; refine (other_c (x1, x2) v _ (by simp only; omega) (by simp only; omega) (by omega)).mono ?_; rintro e w9 ⟨rfl, hb9⟩; rw [HO.out]; have HG9 := Lib.hid (HG.out.more hb9); clear hb9)
            | (at_builtin; refine wpList_pushR w9 rfl _ _ rfl lo2 hi2 Ao co ys o rfl HG9.out.row _ rfl (by have := HYL.out; omega) HG9.out.le ?_; intro A6 c6 w16 lo6 hi6 hr6 hor6 hw6; have HG6 := Lib.hid (HG9.out.push hr6 hor6 hw6); clear hr6 hor6 hw6))
          go_roundw
          case rel => exact ⟨j + 1, by omega, by go_num, A6, c6, lo6, hi6, by rw [HN.out, List.length_append]; rfl, by rw [HN.out]; exact HG6.out⟩
          case measure => simp [intOf]; omega
        · have e2 : (x2 == v) = false := by simpa using c2
          have e2' : (x2 != v) = true := by simpa using c2
          have he : endB v (x1, x2) = false := by rw [HEE.out, e1, e2]; rfl
          have HN := Lib.hid (show nearL v (l.take (j + 1)) = ys by rw [HSU.out, if_neg (by rw [he]; simp), List.append_nil])
          clear he
          go_wp2_with fail
          go_roundw
          case rel => exact ⟨j + 1, by omega, by go_num, Ao, co, lo2, hi2, by rw [HN.out], by rw [HN.out]; exact HG.out⟩
          case measure => simp [intOf]; omega
    · obtain rfl : j = l.length := by omega
      have hall : l.take l.length = l := List.take_length
      obtain ⟨q0, q1, q2⟩ := BXW.out
      go_wp2_with fail
      go_ret
      rw [hall]
      rw [hall] at HG
      exact ⟨Ao, co, rfl, (HG.out.out (by omega) (by have := HSZ.out; omega)), within_on W2.out HG.out.wi W2.out.size (.inl (by omega))⟩
end Go.Proofs.Ytdkpmaahinbhlaa
/- What impl.Graph.neighbours answers: a point's neighbours. No condition. -/
namespace Go.Proofs.Ytdkpmaahinbhlaa
open Go.RowKit

theorem Box2.cell {w : World} {x y : Int} : (w.alloc (.cells #[.int .i64 x, .int .i64 y] 108)).cell? ⟨w.heap.size, 0, none⟩ = some (.int .i64 x) ∧ (w.alloc (.cells #[.int .i64 x, .int .i64 y] 108)).cell? ⟨w.heap.size, 1, none⟩ = some (.int .i64 y) := ⟨by rw [World.cell?_alloc_at _ _ _ _ rfl]; rfl, by rw [World.cell?_alloc_at _ _ _ _ rfl]; rfl⟩
set_option maxHeartbeats 4000000 in
set_option maxRecDepth 100000 in
theorem neighbours_c (p v : Int) (l : List (Int × Int)) (A : Option Addr) (cap : Nat) (w : World) (hl : BarsAt w w.heap.size A l) (hg : IsG p l) (_hv : 0 ≤ v ∧ v < p) :
    Calls Try.prog 209 #[.agg #[.int .i64 p, .slice A l.length cap], .int .i64 v] w (IntsO w (nearL v l)) := by
  have hlen := hg.2.1
  have HOK := Lib.hid (show ∀ j, j < l.length → 0 ≤ (l.getD j (0, 0)).1 ∧ (l.getD j (0, 0)).1 < (l.getD j (0, 0)).2 ∧ (l.getD j (0, 0)).2 < p from fun j hj => ⟨(hg.2.2 j hj).1, (hg.2.2 j hj).2.1, (hg.2.2 j hj).2.2.1⟩)
  have hp8 := hg.1
  clear hg
  have W0 := Lib.hid (Below.refl w.heap.size w)
  have HB_0 := Lib.hid (bars_in hl)
  clear hl
  have Z1 := Lib.hid (within_alloc w (.cells #[.int .i64 p, (.slice A l.length cap)] 26)).size
  have W1 := Lib.hid (within_on W0.out (within_alloc w (.cells #[.int .i64 p, (.slice A l.length cap)] 26)) W0.out.size (.inr (Nat.le_refl _)))
  have HB_1 := Lib.hid (HB_0.out.within (within_alloc w (.cells #[.int .i64 p, (.slice A l.length cap)] 26)) (by omega))
  have Y1 := Lib.hid (show (w.alloc (.cells #[.int .i64 p, (.slice A l.length cap)] 26)).heap.size = w.heap.size + 1 by simp)
  have hnew := box_new w p (.slice A l.length cap) 26
  have BX_1 := Lib.hid hnew
  clear hnew
  have HSZ := Lib.hid (show (w.alloc (.cells #[.int .i64 p, (.slice A l.length cap)] 26)).heap.size = w.heap.size + 1 by simp)
  go_enter Try.func209, Try.ntmps209
  obtain ⟨g0_0, g0_1, g0_2⟩ := BX_1.out
  go_wp2_with fail
  clear g0_0 g0_1 g0_2
  generalize (w.alloc (.cells #[.int .i64 p, (.slice A l.length cap)] 26)) = w1 at *
  have HG0 := Lib.hid (show GrowP w1.heap.size w1.heap.size w1 w1 (nearL v (l.take 0)) none 0 w1.heap.size w1.heap.size from by rw [nearL_zero]; exact ⟨ownR_nil _ _ _ (Nat.le_refl _), .inl ⟨rfl, rfl⟩, Nat.le_refl _, Within.refl _ _ w1⟩)
  go_loopw [5, 11] (fun u i wr => ∃ j : Nat, j ≤ l.length ∧ i = .int .i64 j ∧ ∃ Ao co lo hi, u = .slice Ao (nearL v (l.take j)).length co ∧ GrowP w1.heap.size w1.heap.size w1 wr (nearL v (l.take j)) Ao co lo hi) (fun _ i _ => l.length - (intOf i).toNat)
  case atStart => exact ⟨0, Nat.zero_le _, rfl, _, 0, _, _, rfl, HG0.out⟩
  case round =>
    obtain ⟨j, hj, rfl, Ao, co, lo2, hi2, rfl, hst⟩ := hrel
    have HG := Lib.hid hst
    have BXW := Lib.hid (BX_1.out.within hst.wi (.inl (by have := HSZ.out; omega)))
    have HBW := Lib.hid (HB_1.out.within hst.wi (.inl (by have := HSZ.out; omega)))
    have HYL := Lib.hid (Nat.le_trans (nearL_len v (l.take j)) (by rw [List.length_take]; omega : (l.take j).length ≤ 24))
    clear hst
    by_cases hlt : j < l.length
    · have hji : (j : Int) < (l.length : Int) := by omega
      obtain ⟨b0, off, rfl, _, hb0, hcell⟩ := HBW.out.2 (by omega)
      have hok := HOK.out j hlt
      have hsu := nearL_succ v l j hlt
      obtain ⟨hc1, hc2⟩ := hcell j hlt
      obtain ⟨⟨x1, x2⟩, hx⟩ : ∃ x, l.getD j (0, 0) = x := ⟨_, rfl⟩
      rw [hx] at hc1 hc2 hok hsu
      have hee := endB_eq v x1 x2
      obtain ⟨ys, hys⟩ : ∃ ys, nearL v (l.take j) = ys := ⟨_, rfl⟩
      rw [hys] at HG HYL hsu ⊢
      obtain ⟨o, ho⟩ : ∃ o, oth (x1, x2) v = o := ⟨_, rfl⟩
      rw [ho] at hsu
      have HO := Lib.hid ho
      have HEE := Lib.hid hee
      have HSU := Lib.hid hsu
      have HX := Lib.hid hok
      simp only at hok
      clear hcell hx hys ho hee hsu
      obtain ⟨q0, q1, q2⟩ := BXW.out
      have HNB := Lib.hid (new_below wr (.cells #[.int .i64 x1, .int .i64 x2] 108))
      have HWL := Lib.hid (show wr.heap.size < (wr.alloc (.cells #[.int .i64 x1, .int .i64 x2] 108)).heap.size by simp)
      have HXB := Lib.hid (Box2.cell (w := wr) (x := x1) (y := x2))
      by_cases c : v = x1 ∨ v = x2
      · have he : endB v (x1, x2) = true := by rw [HEE.out]; simp only [Bool.or_eq_true, beq_iff_eq]; omega
        have HIE := Lib.hid (show isEnd (x1, x2) v from by unfold isEnd; simp only; omega)
        have HE := Lib.hid he
        have HN := Lib.hid (show nearL v (l.take (j + 1)) = ys ++ [o] by rw [HSU.out, if_pos he])
        clear he c
        go_wp2_with (first
          | (go_at_call 114; refine (hasEnd_c v (x1, x2) _).mono ?_; rintro e w4 ⟨rfl, hb4⟩; rw [HE.out]; have HB4 := Lib.hid (below_on HNB.out hb4 HNB.out.size); have q3 := (hb4.cell (p := ⟨wr.heap.size, 0, none⟩) HWL.out).trans HXB.out.1; have q4 := (hb4.cell (p := ⟨wr.heap.size, 1, none⟩) HWL.out).trans HXB.out.2; clear hb4)
          | (go_at_call 225; refine (otherEnd_c (x1, x2) v _ HIE.out).mono ?_; rintro e w9 ⟨rfl, hb9⟩; rw [HO.out]; have HG9 := Lib.hid (HG.out.more (below_on HB4.out hb9 HB4.out.size)); clear hb9)
          | (at_builtin; refine wpList_pushR w9 rfl _ _ rfl lo2 hi2 Ao co ys o rfl HG9.out.row _ rfl (by have := HYL.out; omega) HG9.out.le ?_; intro A6 c6 w16 lo6 hi6 hr6 hor6 hw6; have HG6 := Lib.hid (HG9.out.push hr6 hor6 hw6); clear hr6 hor6 hw6))
        go_roundw
        case rel => exact ⟨j + 1, by omega, by go_num, A6, c6, lo6, hi6, by rw [HN.out, List.length_append]; rfl, by rw [HN.out]; exact HG6.out⟩
        case measure => simp [intOf]; omega
      · have he : endB v (x1, x2) = false := by rw [HEE.out]; simp only [Bool.or_eq_false_iff, beq_eq_false_iff_ne]; omega
        have HE := Lib.hid he
        have HN := Lib.hid (show nearL v (l.take (j + 1)) = ys by rw [HSU.out, if_neg (by rw [he]; simp), List.append_nil])
        clear he c
        go_wp2_with (first
          | (go_at_call 114; refine (hasEnd_c v (x1, x2) _).mono ?_; rintro e w4 ⟨rfl, hb4⟩; rw [HE.out]; have HB4 := Lib.hid (below_on HNB.out hb4 HNB.out.size); have q3 := (hb4.cell (p := ⟨wr.heap.size, 0, none⟩) HWL.out).trans HXB.out.1; have q4 := (hb4.cell (p := ⟨wr.heap.size, 1, none⟩) HWL.out).trans HXB.out.2; clear hb4)
          | fail)
        go_roundw
        case rel => exact ⟨j + 1, by omega, by go_num, Ao, co, lo2, hi2, by rw [HN.out], by rw [HN.out]; exact HG.out.more HB4.out⟩
        case measure => simp [intOf]; omega
    · obtain rfl : j = l.length := by omega
      have hall : l.take l.length = l := List.take_length
      obtain ⟨q0, q1, q2⟩ := BXW.out
      go_wp2_with fail
      go_ret
      rw [hall]
      rw [hall] at HG
      exact ⟨Ao, co, rfl, (HG.out.out (by have := HSZ.out; omega) (by have := HSZ.out; omega)), within_on W1.out HG.out.wi W1.out.size (.inl (by have := HSZ.out; omega))⟩
end Go.Proofs.Ytdkpmaahinbhlaa
/- What spec.l4Copy answers. No condition. -/
namespace Go.Proofs.Ytdkpmaahinbhlaa
open Go.RowKit

set_option maxHeartbeats 8000000 in
set_option maxRecDepth 100000 in
theorem copyPeb_c (AF AT AZ : Option Addr) (cF cT cZ lo hi : Nat) (F T Z : List Int) (w : World) (h : Peb3 w lo hi AF AT AZ F T Z) (hF : F.length ≤ 1048576) (hT : T.length ≤ 1048576) (hZ : Z.length ≤ 1048576) :
    Calls Try.prog 126 #[pebV AF F.length cF AT T.length cT AZ Z.length cZ] w (PebR w F T Z) := by
  have W0 := Lib.hid (Below.refl w.heap.size w)
  have H_0 := Lib.hid (h)
  have hhi : hi ≤ w.heap.size := h.f.1
  clear h
  have Z1 := Lib.hid (within_alloc w (.cells #[(.slice AF F.length cF), (.slice AT T.length cT), (.slice AZ Z.length cZ)] 31)).size
  have W1 := Lib.hid (within_on W0.out (within_alloc w (.cells #[(.slice AF F.length cF), (.slice AT T.length cT), (.slice AZ Z.length cZ)] 31)) W0.out.size (.inr (Nat.le_refl _)))
  have H_1 := Lib.hid (H_0.out.within (within_alloc w (.cells #[(.slice AF F.length cF), (.slice AT T.length cT), (.slice AZ Z.length cZ)] 31)) (by omega))
  have Y1 := Lib.hid (show (w.alloc (.cells #[(.slice AF F.length cF), (.slice AT T.length cT), (.slice AZ Z.length cZ)] 31)).heap.size = w.heap.size + 1 by simp)
  have hnew := cel3_new w (.slice AF F.length cF) (.slice AT T.length cT) (.slice AZ Z.length cZ) 31
  have GA_1 := Lib.hid hnew
  clear hnew
  have Z2 := Lib.hid (within_alloc (w.alloc (.cells #[(.slice AF F.length cF), (.slice AT T.length cT), (.slice AZ Z.length cZ)] 31)) (.cells #[(.slice none 0 0), (.slice none 0 0), (.slice none 0 0)] 31)).size
  have W2 := Lib.hid (within_on W1.out (within_alloc (w.alloc (.cells #[(.slice AF F.length cF), (.slice AT T.length cT), (.slice AZ Z.length cZ)] 31)) (.cells #[(.slice none 0 0), (.slice none 0 0), (.slice none 0 0)] 31)) W1.out.size (.inr (Nat.le_refl _)))
  have H_2 := Lib.hid (H_1.out.within (within_alloc (w.alloc (.cells #[(.slice AF F.length cF), (.slice AT T.length cT), (.slice AZ Z.length cZ)] 31)) (.cells #[(.slice none 0 0), (.slice none 0 0), (.slice none 0 0)] 31)) (by omega))
  have GA_2 := Lib.hid (GA_1.out.within (within_alloc (w.alloc (.cells #[(.slice AF F.length cF), (.slice AT T.length cT), (.slice AZ Z.length cZ)] 31)) (.cells #[(.slice none 0 0), (.slice none 0 0), (.slice none 0 0)] 31)) (by omega))
  have Y2 := Lib.hid (show ((w.alloc (.cells #[(.slice AF F.length cF), (.slice AT T.length cT), (.slice AZ Z.length cZ)] 31)).alloc (.cells #[(.slice none 0 0), (.slice none 0 0), (.slice none 0 0)] 31)).heap.size = (w.alloc (.cells #[(.slice AF F.length cF), (.slice AT T.length cT), (.slice AZ Z.length cZ)] 31)).heap.size + 1 by simp)
  have hnew := cel3_new (w.alloc (.cells #[(.slice AF F.length cF), (.slice AT T.length cT), (.slice AZ Z.length cZ)] 31)) (.slice none 0 0) (.slice none 0 0) (.slice none 0 0) 31
  rw [show (w.alloc (.cells #[(.slice AF F.length cF), (.slice AT T.length cT), (.slice AZ Z.length cZ)] 31)).heap.size = w.heap.size + 1 by simp] at hnew
  have GR_2 := Lib.hid hnew
  clear hnew
  have CI := Lib.hid (⟨GA_2.out, GR_2.out, H_2.out, W2.out⟩ : CpS w ((w.alloc (.cells #[(.slice AF F.length cF), (.slice AT T.length cT), (.slice AZ Z.length cZ)] 31)).alloc (.cells #[(.slice none 0 0), (.slice none 0 0), (.slice none 0 0)] 31)) AF cF AT cT AZ cZ lo hi F T Z)
  have SZ := Lib.hid (show ((w.alloc (.cells #[(.slice AF F.length cF), (.slice AT T.length cT), (.slice AZ Z.length cZ)] 31)).alloc (.cells #[(.slice none 0 0), (.slice none 0 0), (.slice none 0 0)] 31)).heap.size = w.heap.size + 1 + 1 by simp)
  go_enter Try.func126, Try.ntmps126
  go_wp2_with fail
  generalize ((w.alloc (.cells #[(.slice AF F.length cF), (.slice AT T.length cT), (.slice AZ Z.length cZ)] 31)).alloc (.cells #[(.slice none 0 0), (.slice none 0 0), (.slice none 0 0)] 31)) = w2 at *
  generalize (w.alloc (.cells #[(.slice AF F.length cF), (.slice AT T.length cT), (.slice AZ Z.length cZ)] 31)) = w1 at *
  have CD := Lib.hid (CI.out.below (Below.refl _ _).drew)
  have SD := Lib.hid (show w2.drew.heap.size = w.heap.size + 1 + 1 from SZ.out)
  clear CI
  refine wp_region_held_drew (S := (fun W' : World => W'.cell? ⟨w.heap.size, 0, none⟩ = some (.slice AF F.length cF) ∧ W'.cell? ⟨w.heap.size, 1, none⟩ = some (.slice AT T.length cT) ∧ W'.cell? ⟨w.heap.size, 2, none⟩ = some (.slice AZ Z.length cZ))) (by kernel_rfl) ?_ (fun hHeld => ?_)
  · exact CD.out.cells
  clear hHeld
  generalize w2.drew = WD at *
  have CR := Lib.hid (CpR.nil WD (w.heap.size + 1 + 1) (Nat.le_of_eq SD.out.symm))
  refine wpAnyH_take (i := 1) (v := .pointer (some ⟨w.heap.size, 0, none⟩)) rfl (by kernel_rfl) (by kernel_rfl) (by kernel_rfl) (fun _ _ _ h => h) (Or.inl ⟨by kernel_rfl, fun w hSw => by (try dsimp only at hSw); go_simp; all_goals first | omega | rfl⟩) CD.out.cells ?_
  refine wpAnyH_take (i := 2) (v := .slice AF F.length cF) rfl (by kernel_rfl) (by kernel_rfl) (by kernel_rfl) (fun _ _ _ h => h) (Or.inl ⟨by kernel_rfl, fun w hSw => by (try dsimp only at hSw); go_simp; all_goals first | omega | rfl⟩) CD.out.cells ?_
  refine wpAnyH_take (i := 5) (v := .pointer (some ⟨w.heap.size, 1, none⟩)) rfl (by kernel_rfl) (by kernel_rfl) (by kernel_rfl) (fun _ _ _ h => h) (Or.inl ⟨by kernel_rfl, fun w hSw => by (try dsimp only at hSw); go_simp; all_goals first | omega | rfl⟩) CD.out.cells ?_
  refine wpAnyH_take (i := 6) (v := .slice AT T.length cT) rfl (by kernel_rfl) (by kernel_rfl) (by kernel_rfl) (fun _ _ _ h => h) (Or.inl ⟨by kernel_rfl, fun w hSw => by (try dsimp only at hSw); go_simp; all_goals first | omega | rfl⟩) CD.out.cells ?_
  refine wpAnyH_take (i := 9) (v := .pointer (some ⟨w.heap.size, 2, none⟩)) rfl (by kernel_rfl) (by kernel_rfl) (by kernel_rfl) (fun _ _ _ h => h) (Or.inl ⟨by kernel_rfl, fun w hSw => by (try dsimp only at hSw); go_simp; all_goals first | omega | rfl⟩) CD.out.cells ?_
  refine wpAnyH_take (i := 10) (v := .slice AZ Z.length cZ) rfl (by kernel_rfl) (by kernel_rfl) (by kernel_rfl) (fun _ _ _ h => h) (Or.inl ⟨by kernel_rfl, fun w hSw => by (try dsimp only at hSw); go_simp; all_goals first | omega | rfl⟩) CD.out.cells ?_
  refine as_fun ?_
  intro R hR
  have j : ∀ (W : World) (f t z : Nat × Nat) (gF : Nat) (AF' : Option Addr) (cF' : Nat) (gT : Nat) (AT' : Option Addr) (cT' : Nat) (gZ : Nat) (AZ' : Option Addr) (cZ' : Nat), CpS w W AF cF AT cT AZ cZ lo hi F T Z → CpR W (w.heap.size + 1 + 1) f t z AF' cF' AT' cT' AZ' cZ' F T Z → R 2 #[true, true, true, true, true, true, true, true, true, true, true, true, false, false] ⟨#[pebV AF F.length cF AT T.length cT AZ Z.length cZ, .pointer (some ⟨w.heap.size, 0, none⟩), .pointer (some ⟨w.heap.size + 1, 0, none⟩), .slice (some ⟨gF, 0, none⟩) 0 0, .pointer (some ⟨w.heap.size, 0, none⟩), .slice AF F.length cF, .slice AF' F.length cF', .slice (some ⟨gT, 0, none⟩) 0 0, .pointer (some ⟨w.heap.size, 1, none⟩), .slice AT T.length cT, .slice AT' T.length cT', .slice (some ⟨gZ, 0, none⟩) 0 0, .pointer (some ⟨w.heap.size, 2, none⟩), .slice AZ Z.length cZ, .slice AZ' Z.length cZ', undef], []⟩ W := by
    intro W f t z gF AF' cF' gT AT' cT' gZ AZ' cZ' hc hr
    rw [hR]
    refine wpAnyH_take (i := 12) (v := .agg #[.slice AF' F.length cF', .slice AT' T.length cT', .slice AZ' Z.length cZ']) rfl (by kernel_rfl) (by kernel_rfl) (by kernel_rfl) (fun _ _ _ h => h) (Or.inl ⟨by kernel_rfl, fun w hSw => by (try dsimp only at hSw); go_simp; all_goals first | omega | rfl⟩) hc.cells ?_
    refine wpAnyH_ready (rs := [13]) (by kernel_rfl) (by simp) (AllReadyH.cons rfl (fun K hK => ?_) AllReadyH.nil)
    obtain ⟨q0, q1, q2, q3, q4, q5⟩ := hc.ret.cells
    have hr2 := ret3 hc.ret (.slice AF' F.length cF') (.slice AT' T.length cT') (.slice AZ' Z.length cZ')
    have RR := Lib.hid hr2.1
    have RW := Lib.hid hr2.2
    have RC := Lib.hid (hc.arg.within hr2.2 (by omega)).cells
    have HC := Lib.hid hc
    have HR := Lib.hid hr
    clear hr2 hc hr
    go_simp
    clear q0 q1 q2 q3 q4 q5
    refine hK.out _ _ ⟨RC.out.1, RC.out.2.1, RC.out.2.2.1⟩ (fun hHeld => ?_)
    clear hK K hHeld
    refine wpAnyH_done (by kernel_rfl) ?_ _
    obtain ⟨s0, s1, s2, _⟩ := RR.out.cells
    go_wp2_with fail
    refine bodyPost_ret (v := pebV AF' F.length cF' AT' T.length cT' AZ' Z.length cZ') ?_ rfl ?_
    · simp [results, Try.results126, go_sem, s0, s1, s2]
    · have lf := HR.out.lf
      have lt := HR.out.lt
      have lz := HR.out.lz
      have hh := HR.out.own.hi
      have rs := RW.out.size
      have ho := HR.out.own.within RW.out (by omega) (by omega) (by omega)
      exact ⟨AF', cF', AT', cT', AZ', cZ', rfl, ho.own3R (by omega) (by omega) (by omega) (Nat.le_refl _), within_on HC.out.bel RW.out HC.out.bel.size (.inl (by omega))⟩
  have J222 := Lib.hid j
  clear j
  have j : ∀ (W : World) (f t z : Nat × Nat) (gF : Nat) (AF' : Option Addr) (cF' : Nat) (gT : Nat) (AT' : Option Addr) (cT' : Nat) (gZ : Nat), CpS w W AF cF AT cT AZ cZ lo hi F T Z → CpR W (w.heap.size + 1 + 1) f t z AF' cF' AT' cT' (some ⟨gZ, 0, none⟩) 0 F T [] → R 3 #[true, true, true, true, true, true, true, true, true, true, true, false, false, false] ⟨#[pebV AF F.length cF AT T.length cT AZ Z.length cZ, .pointer (some ⟨w.heap.size, 0, none⟩), .pointer (some ⟨w.heap.size + 1, 0, none⟩), .slice (some ⟨gF, 0, none⟩) 0 0, .pointer (some ⟨w.heap.size, 0, none⟩), .slice AF F.length cF, .slice AF' F.length cF', .slice (some ⟨gT, 0, none⟩) 0 0, .pointer (some ⟨w.heap.size, 1, none⟩), .slice AT T.length cT, .slice AT' T.length cT', .slice (some ⟨gZ, 0, none⟩) 0 0, .pointer (some ⟨w.heap.size, 2, none⟩), .slice AZ Z.length cZ, undef, undef], []⟩ W := by
    intro W f t z gF AF' cF' gT AT' cT' gZ hc hr
    rw [hR]
    refine wpAnyH_ready (rs := [11]) (by kernel_rfl) (by simp) (AllReadyH.cons rfl (fun K hK => ?_) AllReadyH.nil)
    refine step_copyR (by rfl) _ _ (by rfl) gZ z.1 z.2 AZ Z cZ lo hi (by rfl) (by rfl) hr.own.2.2.1 hc.src.z hZ ?_
    intro AZ' cZ' W' r ho hl hb
    have C2 := Lib.hid (hc.below hb)
    have R2 := Lib.hid (hr.newZ hb ho hl)
    clear hb hc hr ho hl
    refine hK.out _ _ C2.out.cells (fun _ => ?_)
    clear hK K
    exact as_of hR (J222.out W' f t r gF AF' cF' gT AT' cT' gZ AZ' cZ' C2.out R2.out)
  have J221 := Lib.hid j
  clear j
  have j : ∀ (W : World) (f t z : Nat × Nat) (gF : Nat) (AF' : Option Addr) (cF' : Nat) (gT : Nat) (gZ : Nat), CpS w W AF cF AT cT AZ cZ lo hi F T Z → CpR W (w.heap.size + 1 + 1) f t z AF' cF' (some ⟨gT, 0, none⟩) 0 (some ⟨gZ, 0, none⟩) 0 F [] [] → R 4 #[true, true, true, true, true, true, true, false, true, true, true, false, false, false] ⟨#[pebV AF F.length cF AT T.length cT AZ Z.length cZ, .pointer (some ⟨w.heap.size, 0, none⟩), .pointer (some ⟨w.heap.size + 1, 0, none⟩), .slice (some ⟨gF, 0, none⟩) 0 0, .pointer (some ⟨w.heap.size, 0, none⟩), .slice AF F.length cF, .slice AF' F.length cF', .slice (some ⟨gT, 0, none⟩) 0 0, .pointer (some ⟨w.heap.size, 1, none⟩), .slice AT T.length cT, undef, .slice (some ⟨gZ, 0, none⟩) 0 0, .pointer (some ⟨w.heap.size, 2, none⟩), .slice AZ Z.length cZ, undef, undef], []⟩ W := by
    intro W f t z gF AF' cF' gT gZ hc hr
    rw [hR]
    refine wpAnyH_ready (rs := [7]) (by kernel_rfl) (by simp) (AllReadyH.cons rfl (fun K hK => ?_) AllReadyH.nil)
    refine step_copyR (by rfl) _ _ (by rfl) gT t.1 t.2 AT T cT lo hi (by rfl) (by rfl) hr.own.2.1 hc.src.t hT ?_
    intro AT' cT' W' r ho hl hb
    have C2 := Lib.hid (hc.below hb)
    have R2 := Lib.hid (hr.newT hb ho hl)
    clear hb hc hr ho hl
    refine hK.out _ _ C2.out.cells (fun _ => ?_)
    clear hK K
    exact as_of hR (J221.out W' f r z gF AF' cF' gT AT' cT' gZ C2.out R2.out)
  have J211 := Lib.hid j
  clear j
  have j : ∀ (W : World) (f t z : Nat × Nat) (gF : Nat) (AF' : Option Addr) (cF' : Nat) (gT : Nat) (AT' : Option Addr) (cT' : Nat), CpS w W AF cF AT cT AZ cZ lo hi F T Z → CpR W (w.heap.size + 1 + 1) f t z AF' cF' AT' cT' none 0 F T [] → R 4 #[true, true, true, true, true, true, true, true, false, true, true, false, false, false] ⟨#[pebV AF F.length cF AT T.length cT AZ Z.length cZ, .pointer (some ⟨w.heap.size, 0, none⟩), .pointer (some ⟨w.heap.size + 1, 0, none⟩), .slice (some ⟨gF, 0, none⟩) 0 0, .pointer (some ⟨w.heap.size, 0, none⟩), .slice AF F.length cF, .slice AF' F.length cF', .slice (some ⟨gT, 0, none⟩) 0 0, .pointer (some ⟨w.heap.size, 1, none⟩), .slice AT T.length cT, .slice AT' T.length cT', undef, .pointer (some ⟨w.heap.size, 2, none⟩), .slice AZ Z.length cZ, undef, undef], []⟩ W := by
    intro W f t z gF AF' cF' gT AT' cT' hc hr
    rw [hR]
    refine wpAnyH_ready (rs := [8]) (by kernel_rfl) (by simp) (AllReadyH.cons rfl (fun K hK => ?_) AllReadyH.nil)
    have hb := new_below W (.cells #[] 3)
    have C2 := Lib.hid (hc.below hb)
    have R2 := Lib.hid (hr.newZ (z' := (W.heap.size, W.heap.size + 1)) hb (ownR_empty W) (.inr (Nat.le_refl _)))
    clear hb hc hr
    go_simp
    refine hK.out _ _ C2.out.cells (fun _ => ?_)
    clear hK K
    exact as_of hR (J221.out (W.alloc (.cells #[] 3)) f t (W.heap.size, W.heap.size + 1) gF AF' cF' gT AT' cT' W.heap.size C2.out R2.out)
  have J220 := Lib.hid j
  clear j
  have j : ∀ (W : World) (f t z : Nat × Nat) (gF : Nat) (gT : Nat) (gZ : Nat), CpS w W AF cF AT cT AZ cZ lo hi F T Z → CpR W (w.heap.size + 1 + 1) f t z (some ⟨gF, 0, none⟩) 0 (some ⟨gT, 0, none⟩) 0 (some ⟨gZ, 0, none⟩) 0 [] [] [] → R 5 #[true, true, true, false, true, true, true, false, true, true, true, false, false, false] ⟨#[pebV AF F.length cF AT T.length cT AZ Z.length cZ, .pointer (some ⟨w.heap.size, 0, none⟩), .pointer (some ⟨w.heap.size + 1, 0, none⟩), .slice (some ⟨gF, 0, none⟩) 0 0, .pointer (some ⟨w.heap.size, 0, none⟩), .slice AF F.length cF, undef, .slice (some ⟨gT, 0, none⟩) 0 0, .pointer (some ⟨w.heap.size, 1, none⟩), .slice AT T.length cT, undef, .slice (some ⟨gZ, 0, none⟩) 0 0, .pointer (some ⟨w.heap.size, 2, none⟩), .slice AZ Z.length cZ, undef, undef], []⟩ W := by
    intro W f t z gF gT gZ hc hr
    rw [hR]
    refine wpAnyH_ready (rs := [3]) (by kernel_rfl) (by simp) (AllReadyH.cons rfl (fun K hK => ?_) AllReadyH.nil)
    refine step_copyR (by rfl) _ _ (by rfl) gF f.1 f.2 AF F cF lo hi (by rfl) (by rfl) hr.own.1 hc.src.f hF ?_
    intro AF' cF' W' r ho hl hb
    have C2 := Lib.hid (hc.below hb)
    have R2 := Lib.hid (hr.newF hb ho hl)
    clear hb hc hr ho hl
    refine hK.out _ _ C2.out.cells (fun _ => ?_)
    clear hK K
    exact as_of hR (J211.out W' r t z gF AF' cF' gT gZ C2.out R2.out)
  have J111 := Lib.hid j
  clear j
  have j : ∀ (W : World) (f t z : Nat × Nat) (gF : Nat) (AF' : Option Addr) (cF' : Nat) (gZ : Nat), CpS w W AF cF AT cT AZ cZ lo hi F T Z → CpR W (w.heap.size + 1 + 1) f t z AF' cF' none 0 (some ⟨gZ, 0, none⟩) 0 F [] [] → R 5 #[true, true, true, true, false, true, true, false, true, true, true, false, false, false] ⟨#[pebV AF F.length cF AT T.length cT AZ Z.length cZ, .pointer (some ⟨w.heap.size, 0, none⟩), .pointer (some ⟨w.heap.size + 1, 0, none⟩), .slice (some ⟨gF, 0, none⟩) 0 0, .pointer (some ⟨w.heap.size, 0, none⟩), .slice AF F.length cF, .slice AF' F.length cF', undef, .pointer (some ⟨w.heap.size, 1, none⟩), .slice AT T.length cT, undef, .slice (some ⟨gZ, 0, none⟩) 0 0, .pointer (some ⟨w.heap.size, 2, none⟩), .slice AZ Z.length cZ, undef, undef], []⟩ W := by
    intro W f t z gF AF' cF' gZ hc hr
    rw [hR]
    refine wpAnyH_ready (rs := [4]) (by kernel_rfl) (by simp) (AllReadyH.cons rfl (fun K hK => ?_) AllReadyH.nil)
    have hb := new_below W (.cells #[] 3)
    have C2 := Lib.hid (hc.below hb)
    have R2 := Lib.hid (hr.newT (t' := (W.heap.size, W.heap.size + 1)) hb (ownR_empty W) (.inr (Nat.le_refl _)))
    clear hb hc hr
    go_simp
    refine hK.out _ _ C2.out.cells (fun _ => ?_)
    clear hK K
    exact as_of hR (J211.out (W.alloc (.cells #[] 3)) f (W.heap.size, W.heap.size + 1) z gF AF' cF' W.heap.size gZ C2.out R2.out)
  have J201 := Lib.hid j
  clear j
  have j : ∀ (W : World) (f t z : Nat × Nat) (gF : Nat) (AF' : Option Addr) (cF' : Nat) (gT : Nat), CpS w W AF cF AT cT AZ cZ lo hi F T Z → CpR W (w.heap.size + 1 + 1) f t z AF' cF' (some ⟨gT, 0, none⟩) 0 none 0 F [] [] → R 5 #[true, true, true, true, true, true, true, false, false, true, true, false, false, false] ⟨#[pebV AF F.length cF AT T.length cT AZ Z.length cZ, .pointer (some ⟨w.heap.size, 0, none⟩), .pointer (some ⟨w.heap.size + 1, 0, none⟩), .slice (some ⟨gF, 0, none⟩) 0 0, .pointer (some ⟨w.heap.size, 0, none⟩), .slice AF F.length cF, .slice AF' F.length cF', .slice (some ⟨gT, 0, none⟩) 0 0, .pointer (some ⟨w.heap.size, 1, none⟩), .slice AT T.length cT, undef, undef, .pointer (some ⟨w.heap.size, 2, none⟩), .slice AZ Z.length cZ, undef, undef], []⟩ W := by
    intro W f t z gF AF' cF' gT hc hr
    rw [hR]
    refine wpAnyH_ready (rs := [7, 8]) (by kernel_rfl) (by simp) (AllReadyH.cons rfl (fun K hK => ?_) (AllReadyH.cons rfl (fun K hK => ?_) AllReadyH.nil))
    · refine step_copyR (by rfl) _ _ (by rfl) gT t.1 t.2 AT T cT lo hi (by rfl) (by rfl) hr.own.2.1 hc.src.t hT ?_
      intro AT' cT' W' r ho hl hb
      have C2 := Lib.hid (hc.below hb)
      have R2 := Lib.hid (hr.newT hb ho hl)
      clear hb hc hr ho hl
      refine hK.out _ _ C2.out.cells (fun _ => ?_)
      clear hK K
      exact as_of hR (J220.out W' f r z gF AF' cF' gT AT' cT' C2.out R2.out)
    · have hb := new_below W (.cells #[] 3)
      have C2 := Lib.hid (hc.below hb)
      have R2 := Lib.hid (hr.newZ (z' := (W.heap.size, W.heap.size + 1)) hb (ownR_empty W) (.inr (Nat.le_refl _)))
      clear hb hc hr
      go_simp
      refine hK.out _ _ C2.out.cells (fun _ => ?_)
      clear hK K
      exact as_of hR (J211.out (W.alloc (.cells #[] 3)) f t (W.heap.size, W.heap.size + 1) gF AF' cF' gT W.heap.size C2.out R2.out)
  have J210 := Lib.hid j
  clear j
  have j : ∀ (W : World) (f t z : Nat × Nat) (gT : Nat) (gZ : Nat), CpS w W AF cF AT cT AZ cZ lo hi F T Z → CpR W (w.heap.size + 1 + 1) f t z none 0 (some ⟨gT, 0, none⟩) 0 (some ⟨gZ, 0, none⟩) 0 [] [] [] → R 6 #[false, true, true, false, true, true, true, false, true, true, true, false, false, false] ⟨#[pebV AF F.length cF AT T.length cT AZ Z.length cZ, .pointer (some ⟨w.heap.size, 0, none⟩), .pointer (some ⟨w.heap.size + 1, 0, none⟩), undef, .pointer (some ⟨w.heap.size, 0, none⟩), .slice AF F.length cF, undef, .slice (some ⟨gT, 0, none⟩) 0 0, .pointer (some ⟨w.heap.size, 1, none⟩), .slice AT T.length cT, undef, .slice (some ⟨gZ, 0, none⟩) 0 0, .pointer (some ⟨w.heap.size, 2, none⟩), .slice AZ Z.length cZ, undef, undef], []⟩ W := by
    intro W f t z gT gZ hc hr
    rw [hR]
    refine wpAnyH_ready (rs := [0]) (by kernel_rfl) (by simp) (AllReadyH.cons rfl (fun K hK => ?_) AllReadyH.nil)
    have hb := new_below W (.cells #[] 3)
    have C2 := Lib.hid (hc.below hb)
    have R2 := Lib.hid (hr.newF (f' := (W.heap.size, W.heap.size + 1)) hb (ownR_empty W) (.inr (Nat.le_refl _)))
    clear hb hc hr
    go_simp
    refine hK.out _ _ C2.out.cells (fun _ => ?_)
    clear hK K
    exact as_of hR (J111.out (W.alloc (.cells #[] 3)) (W.heap.size, W.heap.size + 1) t z W.heap.size gT gZ C2.out R2.out)
  have J011 := Lib.hid j
  clear j
  have j : ∀ (W : World) (f t z : Nat × Nat) (gF : Nat) (gZ : Nat), CpS w W AF cF AT cT AZ cZ lo hi F T Z → CpR W (w.heap.size + 1 + 1) f t z (some ⟨gF, 0, none⟩) 0 none 0 (some ⟨gZ, 0, none⟩) 0 [] [] [] → R 6 #[true, true, true, false, false, true, true, false, true, true, true, false, false, false] ⟨#[pebV AF F.length cF AT T.length cT AZ Z.length cZ, .pointer (some ⟨w.heap.size, 0, none⟩), .pointer (some ⟨w.heap.size + 1, 0, none⟩), .slice (some ⟨gF, 0, none⟩) 0 0, .pointer (some ⟨w.heap.size, 0, none⟩), .slice AF F.length cF, undef, undef, .pointer (some ⟨w.heap.size, 1, none⟩), .slice AT T.length cT, undef, .slice (some ⟨gZ, 0, none⟩) 0 0, .pointer (some ⟨w.heap.size, 2, none⟩), .slice AZ Z.length cZ, undef, undef], []⟩ W := by
    intro W f t z gF gZ hc hr
    rw [hR]
    refine wpAnyH_ready (rs := [3, 4]) (by kernel_rfl) (by simp) (AllReadyH.cons rfl (fun K hK => ?_) (AllReadyH.cons rfl (fun K hK => ?_) AllReadyH.nil))
    · refine step_copyR (by rfl) _ _ (by rfl) gF f.1 f.2 AF F cF lo hi (by rfl) (by rfl) hr.own.1 hc.src.f hF ?_
      intro AF' cF' W' r ho hl hb
      have C2 := Lib.hid (hc.below hb)
      have R2 := Lib.hid (hr.newF hb ho hl)
      clear hb hc hr ho hl
      refine hK.out _ _ C2.out.cells (fun _ => ?_)
      clear hK K
      exact as_of hR (J201.out W' r t z gF AF' cF' gZ C2.out R2.out)
    · have hb := new_below W (.cells #[] 3)
      have C2 := Lib.hid (hc.below hb)
      have R2 := Lib.hid (hr.newT (t' := (W.heap.size, W.heap.size + 1)) hb (ownR_empty W) (.inr (Nat.le_refl _)))
      clear hb hc hr
      go_simp
      refine hK.out _ _ C2.out.cells (fun _ => ?_)
      clear hK K
      exact as_of hR (J111.out (W.alloc (.cells #[] 3)) f (W.heap.size, W.heap.size + 1) z gF W.heap.size gZ C2.out R2.out)
  have J101 := Lib.hid j
  clear j
  have j : ∀ (W : World) (f t z : Nat × Nat) (gF : Nat) (gT : Nat), CpS w W AF cF AT cT AZ cZ lo hi F T Z → CpR W (w.heap.size + 1 + 1) f t z (some ⟨gF, 0, none⟩) 0 (some ⟨gT, 0, none⟩) 0 none 0 [] [] [] → R 6 #[true, true, true, false, true, true, true, false, false, true, true, false, false, false] ⟨#[pebV AF F.length cF AT T.length cT AZ Z.length cZ, .pointer (some ⟨w.heap.size, 0, none⟩), .pointer (some ⟨w.heap.size + 1, 0, none⟩), .slice (some ⟨gF, 0, none⟩) 0 0, .pointer (some ⟨w.heap.size, 0, none⟩), .slice AF F.length cF, undef, .slice (some ⟨gT, 0, none⟩) 0 0, .pointer (some ⟨w.heap.size, 1, none⟩), .slice AT T.length cT, undef, undef, .pointer (some ⟨w.heap.size, 2, none⟩), .slice AZ Z.length cZ, undef, undef], []⟩ W := by
    intro W f t z gF gT hc hr
    rw [hR]
    refine wpAnyH_ready (rs := [3, 8]) (by kernel_rfl) (by simp) (AllReadyH.cons rfl (fun K hK => ?_) (AllReadyH.cons rfl (fun K hK => ?_) AllReadyH.nil))
    · refine step_copyR (by rfl) _ _ (by rfl) gF f.1 f.2 AF F cF lo hi (by rfl) (by rfl) hr.own.1 hc.src.f hF ?_
      intro AF' cF' W' r ho hl hb
      have C2 := Lib.hid (hc.below hb)
      have R2 := Lib.hid (hr.newF hb ho hl)
      clear hb hc hr ho hl
      refine hK.out _ _ C2.out.cells (fun _ => ?_)
      clear hK K
      exact as_of hR (J210.out W' r t z gF AF' cF' gT C2.out R2.out)
    · have hb := new_below W (.cells #[] 3)
      have C2 := Lib.hid (hc.below hb)
      have R2 := Lib.hid (hr.newZ (z' := (W.heap.size, W.heap.size + 1)) hb (ownR_empty W) (.inr (Nat.le_refl _)))
      clear hb hc hr
      go_simp
      refine hK.out _ _ C2.out.cells (fun _ => ?_)
      clear hK K
      exact as_of hR (J111.out (W.alloc (.cells #[] 3)) f t (W.heap.size, W.heap.size + 1) gF gT W.heap.size C2.out R2.out)
  have J110 := Lib.hid j
  clear j
  have j : ∀ (W : World) (f t z : Nat × Nat) (gF : Nat) (AF' : Option Addr) (cF' : Nat), CpS w W AF cF AT cT AZ cZ lo hi F T Z → CpR W (w.heap.size + 1 + 1) f t z AF' cF' none 0 none 0 F [] [] → R 6 #[true, true, true, true, false, true, true, false, false, true, true, false, false, false] ⟨#[pebV AF F.length cF AT T.length cT AZ Z.length cZ, .pointer (some ⟨w.heap.size, 0, none⟩), .pointer (some ⟨w.heap.size + 1, 0, none⟩), .slice (some ⟨gF, 0, none⟩) 0 0, .pointer (some ⟨w.heap.size, 0, none⟩), .slice AF F.length cF, .slice AF' F.length cF', undef, .pointer (some ⟨w.heap.size, 1, none⟩), .slice AT T.length cT, undef, undef, .pointer (some ⟨w.heap.size, 2, none⟩), .slice AZ Z.length cZ, undef, undef], []⟩ W := by
    intro W f t z gF AF' cF' hc hr
    rw [hR]
    refine wpAnyH_ready (rs := [4, 8]) (by kernel_rfl) (by simp) (AllReadyH.cons rfl (fun K hK => ?_) (AllReadyH.cons rfl (fun K hK => ?_) AllReadyH.nil))
    · have hb := new_below W (.cells #[] 3)
      have C2 := Lib.hid (hc.below hb)
      have R2 := Lib.hid (hr.newT (t' := (W.heap.size, W.heap.size + 1)) hb (ownR_empty W) (.inr (Nat.le_refl _)))
      clear hb hc hr
      go_simp
      refine hK.out _ _ C2.out.cells (fun _ => ?_)
      clear hK K
      exact as_of hR (J210.out (W.alloc (.cells #[] 3)) f (W.heap.size, W.heap.size + 1) z gF AF' cF' W.heap.size C2.out R2.out)
    · have hb := new_below W (.cells #[] 3)
      have C2 := Lib.hid (hc.below hb)
      have R2 := Lib.hid (hr.newZ (z' := (W.heap.size, W.heap.size + 1)) hb (ownR_empty W) (.inr (Nat.le_refl _)))
      clear hb hc hr
      go_simp
      refine hK.out _ _ C2.out.cells (fun _ => ?_)
      clear hK K
      exact as_of hR (J201.out (W.alloc (.cells #[] 3)) f t (W.heap.size, W.heap.size + 1) gF AF' cF' W.heap.size C2.out R2.out)
  have J200 := Lib.hid j
  clear j
  have j : ∀ (W : World) (f t z : Nat × Nat) (gZ : Nat), CpS w W AF cF AT cT AZ cZ lo hi F T Z → CpR W (w.heap.size + 1 + 1) f t z none 0 none 0 (some ⟨gZ, 0, none⟩) 0 [] [] [] → R 7 #[false, true, true, false, false, true, true, false, true, true, true, false, false, false] ⟨#[pebV AF F.length cF AT T.length cT AZ Z.length cZ, .pointer (some ⟨w.heap.size, 0, none⟩), .pointer (some ⟨w.heap.size + 1, 0, none⟩), undef, .pointer (some ⟨w.heap.size, 0, none⟩), .slice AF F.length cF, undef, undef, .pointer (some ⟨w.heap.size, 1, none⟩), .slice AT T.length cT, undef, .slice (some ⟨gZ, 0, none⟩) 0 0, .pointer (some ⟨w.heap.size, 2, none⟩), .slice AZ Z.length cZ, undef, undef], []⟩ W := by
    intro W f t z gZ hc hr
    rw [hR]
    refine wpAnyH_ready (rs := [0, 4]) (by kernel_rfl) (by simp) (AllReadyH.cons rfl (fun K hK => ?_) (AllReadyH.cons rfl (fun K hK => ?_) AllReadyH.nil))
    · have hb := new_below W (.cells #[] 3)
      have C2 := Lib.hid (hc.below hb)
      have R2 := Lib.hid (hr.newF (f' := (W.heap.size, W.heap.size + 1)) hb (ownR_empty W) (.inr (Nat.le_refl _)))
      clear hb hc hr
      go_simp
      refine hK.out _ _ C2.out.cells (fun _ => ?_)
      clear hK K
      exact as_of hR (J101.out (W.alloc (.cells #[] 3)) (W.heap.size, W.heap.size + 1) t z W.heap.size gZ C2.out R2.out)
    · have hb := new_below W (.cells #[] 3)
      have C2 := Lib.hid (hc.below hb)
      have R2 := Lib.hid (hr.newT (t' := (W.heap.size, W.heap.size + 1)) hb (ownR_empty W) (.inr (Nat.le_refl _)))
      clear hb hc hr
      go_simp
      refine hK.out _ _ C2.out.cells (fun _ => ?_)
      clear hK K
      exact as_of hR (J011.out (W.alloc (.cells #[] 3)) f (W.heap.size, W.heap.size + 1) z W.heap.size gZ C2.out R2.out)
  have J001 := Lib.hid j
  clear j
  have j : ∀ (W : World) (f t z : Nat × Nat) (gT : Nat), CpS w W AF cF AT cT AZ cZ lo hi F T Z → CpR W (w.heap.size + 1 + 1) f t z none 0 (some ⟨gT, 0, none⟩) 0 none 0 [] [] [] → R 7 #[false, true, true, false, true, true, true, false, false, true, true, false, false, false] ⟨#[pebV AF F.length cF AT T.length cT AZ Z.length cZ, .pointer (some ⟨w.heap.size, 0, none⟩), .pointer (some ⟨w.heap.size + 1, 0, none⟩), undef, .pointer (some ⟨w.heap.size, 0, none⟩), .slice AF F.length cF, undef, .slice (some ⟨gT, 0, none⟩) 0 0, .pointer (some ⟨w.heap.size, 1, none⟩), .slice AT T.length cT, undef, undef, .pointer (some ⟨w.heap.size, 2, none⟩), .slice AZ Z.length cZ, undef, undef], []⟩ W := by
    intro W f t z gT hc hr
    rw [hR]
    refine wpAnyH_ready (rs := [0, 8]) (by kernel_rfl) (by simp) (AllReadyH.cons rfl (fun K hK => ?_) (AllReadyH.cons rfl (fun K hK => ?_) AllReadyH.nil))
    · have hb := new_below W (.cells #[] 3)
      have C2 := Lib.hid (hc.below hb)
      have R2 := Lib.hid (hr.newF (f' := (W.heap.size, W.heap.size + 1)) hb (ownR_empty W) (.inr (Nat.le_refl _)))
      clear hb hc hr
      go_simp
      refine hK.out _ _ C2.out.cells (fun _ => ?_)
      clear hK K
      exact as_of hR (J110.out (W.alloc (.cells #[] 3)) (W.heap.size, W.heap.size + 1) t z W.heap.size gT C2.out R2.out)
    · have hb := new_below W (.cells #[] 3)
      have C2 := Lib.hid (hc.below hb)
      have R2 := Lib.hid (hr.newZ (z' := (W.heap.size, W.heap.size + 1)) hb (ownR_empty W) (.inr (Nat.le_refl _)))
      clear hb hc hr
      go_simp
      refine hK.out _ _ C2.out.cells (fun _ => ?_)
      clear hK K
      exact as_of hR (J011.out (W.alloc (.cells #[] 3)) f t (W.heap.size, W.heap.size + 1) gT W.heap.size C2.out R2.out)
  have J010 := Lib.hid j
  clear j
  have j : ∀ (W : World) (f t z : Nat × Nat) (gF : Nat), CpS w W AF cF AT cT AZ cZ lo hi F T Z → CpR W (w.heap.size + 1 + 1) f t z (some ⟨gF, 0, none⟩) 0 none 0 none 0 [] [] [] → R 7 #[true, true, true, false, false, true, true, false, false, true, true, false, false, false] ⟨#[pebV AF F.length cF AT T.length cT AZ Z.length cZ, .pointer (some ⟨w.heap.size, 0, none⟩), .pointer (some ⟨w.heap.size + 1, 0, none⟩), .slice (some ⟨gF, 0, none⟩) 0 0, .pointer (some ⟨w.heap.size, 0, none⟩), .slice AF F.length cF, undef, undef, .pointer (some ⟨w.heap.size, 1, none⟩), .slice AT T.length cT, undef, undef, .pointer (some ⟨w.heap.size, 2, none⟩), .slice AZ Z.length cZ, undef, undef], []⟩ W := by
    intro W f t z gF hc hr
    rw [hR]
    refine wpAnyH_ready (rs := [3, 4, 8]) (by kernel_rfl) (by simp) (AllReadyH.cons rfl (fun K hK => ?_) (AllReadyH.cons rfl (fun K hK => ?_) (AllReadyH.cons rfl (fun K hK => ?_) AllReadyH.nil)))
    · refine step_copyR (by rfl) _ _ (by rfl) gF f.1 f.2 AF F cF lo hi (by rfl) (by rfl) hr.own.1 hc.src.f hF ?_
      intro AF' cF' W' r ho hl hb
      have C2 := Lib.hid (hc.below hb)
      have R2 := Lib.hid (hr.newF hb ho hl)
      clear hb hc hr ho hl
      refine hK.out _ _ C2.out.cells (fun _ => ?_)
      clear hK K
      exact as_of hR (J200.out W' r t z gF AF' cF' C2.out R2.out)
    · have hb := new_below W (.cells #[] 3)
      have C2 := Lib.hid (hc.below hb)
      have R2 := Lib.hid (hr.newT (t' := (W.heap.size, W.heap.size + 1)) hb (ownR_empty W) (.inr (Nat.le_refl _)))
      clear hb hc hr
      go_simp
      refine hK.out _ _ C2.out.cells (fun _ => ?_)
      clear hK K
      exact as_of hR (J110.out (W.alloc (.cells #[] 3)) f (W.heap.size, W.heap.size + 1) z gF W.heap.size C2.out R2.out)
    · have hb := new_below W (.cells #[] 3)
      have C2 := Lib.hid (hc.below hb)
      have R2 := Lib.hid (hr.newZ (z' := (W.heap.size, W.heap.size + 1)) hb (ownR_empty W) (.inr (Nat.le_refl _)))
      clear hb hc hr
      go_simp
      refine hK.out _ _ C2.out.cells (fun _ => ?_)
      clear hK K
      exact as_of hR (J101.out (W.alloc (.cells #[] 3)) f t (W.heap.size, W.heap.size + 1) gF W.heap.size C2.out R2.out)
  have J100 := Lib.hid j
  clear j
  have j : ∀ (W : World) (f t z : Nat × Nat), CpS w W AF cF AT cT AZ cZ lo hi F T Z → CpR W (w.heap.size + 1 + 1) f t z none 0 none 0 none 0 [] [] [] → R 8 #[false, true, true, false, false, true, true, false, false, true, true, false, false, false] ⟨#[pebV AF F.length cF AT T.length cT AZ Z.length cZ, .pointer (some ⟨w.heap.size, 0, none⟩), .pointer (some ⟨w.heap.size + 1, 0, none⟩), undef, .pointer (some ⟨w.heap.size, 0, none⟩), .slice AF F.length cF, undef, undef, .pointer (some ⟨w.heap.size, 1, none⟩), .slice AT T.length cT, undef, undef, .pointer (some ⟨w.heap.size, 2, none⟩), .slice AZ Z.length cZ, undef, undef], []⟩ W := by
    intro W f t z  hc hr
    rw [hR]
    refine wpAnyH_ready (rs := [0, 4, 8]) (by kernel_rfl) (by simp) (AllReadyH.cons rfl (fun K hK => ?_) (AllReadyH.cons rfl (fun K hK => ?_) (AllReadyH.cons rfl (fun K hK => ?_) AllReadyH.nil)))
    · have hb := new_below W (.cells #[] 3)
      have C2 := Lib.hid (hc.below hb)
      have R2 := Lib.hid (hr.newF (f' := (W.heap.size, W.heap.size + 1)) hb (ownR_empty W) (.inr (Nat.le_refl _)))
      clear hb hc hr
      go_simp
      refine hK.out _ _ C2.out.cells (fun _ => ?_)
      clear hK K
      exact as_of hR (J100.out (W.alloc (.cells #[] 3)) (W.heap.size, W.heap.size + 1) t z W.heap.size C2.out R2.out)
    · have hb := new_below W (.cells #[] 3)
      have C2 := Lib.hid (hc.below hb)
      have R2 := Lib.hid (hr.newT (t' := (W.heap.size, W.heap.size + 1)) hb (ownR_empty W) (.inr (Nat.le_refl _)))
      clear hb hc hr
      go_simp
      refine hK.out _ _ C2.out.cells (fun _ => ?_)
      clear hK K
      exact as_of hR (J010.out (W.alloc (.cells #[] 3)) f (W.heap.size, W.heap.size + 1) z W.heap.size C2.out R2.out)
    · have hb := new_below W (.cells #[] 3)
      have C2 := Lib.hid (hc.below hb)
      have R2 := Lib.hid (hr.newZ (z' := (W.heap.size, W.heap.size + 1)) hb (ownR_empty W) (.inr (Nat.le_refl _)))
      clear hb hc hr
      go_simp
      refine hK.out _ _ C2.out.cells (fun _ => ?_)
      clear hK K
      exact as_of hR (J001.out (W.alloc (.cells #[] 3)) f t (W.heap.size, W.heap.size + 1) W.heap.size C2.out R2.out)
  have J000 := Lib.hid j
  clear j
  exact J000.out WD _ _ _ CD.out CR.out
end Go.Proofs.Ytdkpmaahinbhlaa
/- What spec.l4Shift answers: a copy of the state where a pebble moved and a path was turned round. No condition. -/
namespace Go.Proofs.Ytdkpmaahinbhlaa
open Go.RowKit

/-- What stands while the path is turned in the copy: what is read, the copy's box, the copy's rows. -/
structure ShL (w wr : World) (p : Int) (A : Option Addr) (cap : Nat) (l : List (Int × Int)) (AF AT AZ : Option Addr) (cF cT cZ lo hi : Nat) (F T Z : List Int) (bx gF dF gT dT : Nat) (BZ : Option Addr) (dZ : Nat) (z : Nat × Nat) (lf hf : Nat) (Af : Option Addr) (FR G T' : List Int) : Prop where
  g : GtI w wr p A cap l AF AT AZ cF cT cZ lo hi F T Z
  x : Cel3 wr bx 31 (.slice (some ⟨gF, 0, none⟩) F.length dF) (.slice (some ⟨gT, 0, none⟩) T.length dT) (.slice BZ Z.length dZ)
  s : St3 wr 0 gF dF gT dT BZ dZ z.1 z.2 G T' Z
  fr : IntsIn wr lf hf Af FR
  oz : OwnR wr z.1 z.2 BZ dZ Z
theorem ShL.below {w wr : World} {p : Int} {A : Option Addr} {cap : Nat} {l : List (Int × Int)} {AF AT AZ : Option Addr} {cF cT cZ lo hi : Nat} {F T Z : List Int} {bx gF dF gT dT : Nat} {BZ : Option Addr} {dZ : Nat} {z : Nat × Nat} {lf hf : Nat} {Af : Option Addr} {FR G T' : List Int} {w' : World} (h : ShL w wr p A cap l AF AT AZ cF cT cZ lo hi F T Z bx gF dF gT dT BZ dZ z lf hf Af FR G T') (hb : Below wr.heap.size wr w') : ShL w w' p A cap l AF AT AZ cF cT cZ lo hi F T Z bx gF dF gT dT BZ dZ z lf hf Af FR G T' :=
  ⟨h.g.below hb, h.x.kept hb, h.s.below hb, h.fr.within (within_of hb) (.inr (Nat.zero_le _)), h.oz.within (within_of hb) (.inr (Nat.zero_le _))⟩
theorem ShL.setT {w wr : World} {p : Int} {A : Option Addr} {cap : Nat} {l : List (Int × Int)} {AF AT AZ : Option Addr} {cF cT cZ lo hi : Nat} {F T Z : List Int} {bx gF dF gT dT : Nat} {BZ : Option Addr} {dZ : Nat} {z : Nat × Nat} {lf hf : Nat} {Af : Option Addr} {FR G T' : List Int} (h : ShL w wr p A cap l AF AT AZ cF cT cZ lo hi F T Z bx gF dF gT dT BZ dZ z lf hf Af FR G T') (h1 : w.heap.size + 3 ≤ gT) (h2 : hi ≤ gT) (h3 : hf ≤ gT) (h4 : gT ≠ bx) (h5 : gT < z.1 ∨ z.2 ≤ gT) (i : Nat) (v : Int) : ShL w (wr.setCell ⟨gT, i, none⟩ (.int .i64 v)) p A cap l AF AT AZ cF cT cZ lo hi F T Z bx gF dF gT dT BZ dZ z lf hf Af FR G (T'.set i v) := by
  have hw := within_set wr gT i (.int .i64 v)
  exact ⟨h.g.within hw h1 h2, h.x.within hw (by omega), h.s.setT i v, h.fr.within hw (by omega), h.oz.within hw (by omega)⟩

set_option maxHeartbeats 4000000 in
set_option maxRecDepth 100000 in
theorem shift_c (P : Nat) (l : List (Int × Int)) (A : Option Addr) (cap : Nat) (AF AT AZ : Option Addr) (cF cT cZ lo hi : Nat) (F T Z : List Int) (a u : Int) (q : List (Int × Nat)) (TF FR : List Int) (Af : Option Addr) (cf lf hf : Nat) (w : World) (hl : BarsAt w w.heap.size A l) (h : Peb3 w lo hi AF AT AZ F T Z) (hn : l.length ≤ 24) (hFP : F.length = P) (hP : 1 ≤ P ∧ P ≤ 8) (hTZ : T.length = Z.length) (hZ24 : Z.length ≤ 24)
    (hZ : ∀ i, i < Z.length → 0 ≤ Z.getD i 0 ∧ Z.getD i 0 < (l.length : Int)) (hq : TurnI P (plE l Z) T a q TF u T) (hfr : IntsIn w lf hf Af FR) (hFR : FR.length = P) (hfq : ∀ x ∈ q, x.1 ≠ a → FR.getD x.1.toNat 0 = (x.2 : Int)) (ha : 0 ≤ a ∧ a < (P : Int)) (hu : 0 ≤ u ∧ u < (P : Int)) (hua : u ≠ a) (hFu : 0 ≤ F.getD u.toNat 0 ∧ F.getD u.toNat 0 ≤ 3) (hFa : 0 ≤ F.getD a.toNat 0 ∧ F.getD a.toNat 0 ≤ 3) :
    Calls Try.prog 227 #[.agg #[.int .i64 (P : Int), .slice A l.length cap], pebV AF F.length cF AT T.length cT AZ Z.length cZ, .slice Af FR.length cf, .int .i64 a, .int .i64 u] w (PebR w (movF F a u) TF Z) := by
  obtain ⟨an, rfl⟩ : ∃ an : Nat, a = (an : Int) := ⟨a.toNat, by omega⟩
  obtain ⟨un, rfl⟩ : ∃ un : Nat, u = (un : Int) := ⟨u.toNat, by omega⟩
  rw [Int.toNat_natCast] at hFu hFa
  subst hFP
  have hT0 : 0 < T.length := by
    obtain ⟨i, _, hi, _⟩ := hq.next hua
    rw [plE_len] at hi
    omega
  have hT24 : T.length ≤ 24 := by omega
  have HTZ := Lib.hid hTZ
  have HFL := Lib.hid hFR
  clear hTZ hFR
  have hhi : hi ≤ w.heap.size := h.f.1
  have hhf : hf ≤ w.heap.size := hfr.1
  have HI0 := Lib.hid (GtI.start w (F.length : Int) A cap l AF AT AZ cF cT cZ lo hi F T Z hl h)
  have HFR0 := Lib.hid (hfr.within (within_of HI0.out.bel) (.inr (Nat.zero_le _)))
  have HQ := Lib.hid hq
  have HZ := Lib.hid hZ
  have HFQ := Lib.hid hfq
  have HE := Lib.hid (fun i hi => plE_get l Z i hi)
  have HEL := Lib.hid (plE_len l Z)
  generalize plE l Z = E at *
  obtain ⟨g0, g1, g2, _, _, _⟩ := HI0.out.pb.cells
  clear hl h hfr hq hZ hfq
  go_enter Try.func227, Try.ntmps227
  have hsz3 : (((w.alloc (.cells #[.int .i64 (F.length : Int), .slice A l.length cap] 26)).alloc (.cells #[.slice AF F.length cF, .slice AT T.length cT, .slice AZ Z.length cZ] 31)).alloc (.cells #[.slice none 0 0, .slice none 0 0, .slice none 0 0] 31)).heap.size = w.heap.size + 3 := by simp
  go_wp2_with (go_at_call 126; refine (copyPeb_c AF AT AZ cF cT cZ lo hi F T Z _ HI0.out.src (by omega) (by omega) (by omega)).mono ?_; rintro e w4 ⟨BF, dF, BT, dT, BZ, dZ, rfl, ho, hb⟩; have hb5 := new_below w4 (.cells #[.slice BF F.length dF, .slice BT T.length dT, .slice BZ Z.length dZ] 31); have HI5 := Lib.hid ((HI0.out.below hb).below hb5); have HX5 := Lib.hid (cel3_new w4 (.slice BF F.length dF) (.slice BT T.length dT) (.slice BZ Z.length dZ) 31); have HFR5 := Lib.hid ((HFR0.out.within (within_of hb) (.inr (Nat.zero_le _))).within (within_of hb5) (.inr (Nat.zero_le _))); obtain ⟨f, t, z, hof, y1, y2, y3⟩ := ho.ownF; have HO5 := Lib.hid (hof.below hb5); have hh4 := hof.hi; clear hof; have hlo := hb.size; rw [hsz3] at hlo y1 y2 y3; obtain ⟨x2, x3, x4, _, _, _⟩ := HX5.out.cells; clear ho hb hb5 g0 g1 g2)
  clear x2 x3 x4
  have HIS := Lib.hid hsz3
  clear hsz3
  generalize hw5 : (w4.alloc (.cells #[.slice BF F.length dF, .slice BT T.length dT, .slice BZ Z.length dZ] 31)) = w5 at *
  have hs5 : w4.heap.size < w5.heap.size := by rw [← hw5]; simp
  clear hw5
  generalize w4.heap.size = bx at *
  obtain ⟨gF, gT, rfl, rfl, bF, bT, hst⟩ := HO5.out.open_ (by omega) hT0
  have HOZ := Lib.hid HO5.out.2.2
  obtain ⟨hc1, hf1⟩ := hst.cellF un (by omega)
  obtain ⟨d, hd⟩ : ∃ d, d = F.getD un 0 := ⟨_, rfl⟩
  obtain ⟨e, he⟩ : ∃ e, e = F.getD an 0 := ⟨_, rfl⟩
  have hne : an ≠ un := by omega
  have hst1 := hst.setF un (d - 1)
  have HEE := Lib.hid he
  rw [← hd] at hc1 hFu
  rw [← he] at hFa
  have HMV := Lib.hid (show (F.set un (d - 1)).set an (e + 1) = movF F (an : Int) (un : Int) by unfold movF; rw [Int.toNat_natCast, Int.toNat_natCast, hd, he])
  clear hd he
  have hw1 := within_set w5 gF un (.int .i64 (d - 1))
  have hdr : Below (w5.setCell ⟨gF, un, none⟩ (.int .i64 (d - 1))).heap.size (w5.setCell ⟨gF, un, none⟩ (.int .i64 (d - 1))) (w5.setCell ⟨gF, un, none⟩ (.int .i64 (d - 1))).drew := (Below.refl _ _).drew
  obtain ⟨x0, x1, x2, _, _, _⟩ := HX5.out.cells
  have HI6 := Lib.hid ((HI5.out.within hw1 (by omega) (by omega)).below hdr)
  have HX6 := Lib.hid ((HX5.out.within hw1 (by omega)).kept hdr)
  have HST6 := Lib.hid (hst1.below hdr)
  have HFR6 := Lib.hid ((HFR5.out.within hw1 (by omega)).within (within_of hdr) (.inr (Nat.zero_le _)))
  have HOZ6 := Lib.hid ((HOZ.out.1.within hw1 (by have := HOZ.out.2; unfold Dis at this; omega)).within (within_of hdr) (.inr (Nat.zero_le _)))
  have HZR := Lib.hid HOZ.out.2
  have hs6 := Nat.le_trans hw1.size hdr.size
  clear hst hst1 hw1 hdr HOZ
  have huF : (un : Int) < (F.length : Int) := hu.2
  have haF : (an : Int) < (F.length : Int) := ha.2
  go_region
  go_wp2_with fail
  clear x0 x1 x2 hc1 hf1
  generalize (w5.setCell ⟨gF, un, none⟩ (.int .i64 (d - 1))).drew = w6 at *
  obtain ⟨x0, x1, x2, _, _, _⟩ := HX6.out.cells
  obtain ⟨hc2, hf2⟩ := HST6.out.cellF an (by rw [List.length_set]; omega)
  rw [set_getD_ne _ _ _ _ _ hne, ← HEE.out] at hc2
  have hw2 := within_set w6 gF an (.int .i64 (e + 1))
  have hdr2 : Below (w6.setCell ⟨gF, an, none⟩ (.int .i64 (e + 1))).heap.size (w6.setCell ⟨gF, an, none⟩ (.int .i64 (e + 1))) (w6.setCell ⟨gF, an, none⟩ (.int .i64 (e + 1))).drew := (Below.refl _ _).drew
  have hst7 := (HST6.out.setF an (e + 1)).below hdr2
  rw [HMV.out] at hst7
  have HS7 := Lib.hid (show ShL w (w6.setCell ⟨gF, an, none⟩ (.int .i64 (e + 1))).drew (F.length : Int) A cap l AF AT AZ cF cT cZ lo hi F T Z bx gF dF gT dT BZ dZ z lf hf Af FR (movF F (an : Int) (un : Int)) T from ⟨(HI6.out.within hw2 (by omega) (by omega)).below hdr2, (HX6.out.within hw2 (by omega)).kept hdr2, hst7, (HFR6.out.within hw2 (by omega)).within (within_of hdr2) (.inr (Nat.zero_le _)), (HOZ6.out.within hw2 (by have := HZR.out; unfold Dis at this; omega)).within (within_of hdr2) (.inr (Nat.zero_le _))⟩)
  have hs7 := Nat.le_trans hw2.size hdr2.size
  clear hst7 hw2 hdr2 HI6 HX6 HST6 HFR6 HOZ6 HMV HEE
  go_region
  go_wp2_with fail
  clear x0 x1 x2 hc2 hf2
  generalize (w6.setCell ⟨gF, an, none⟩ (.int .i64 (e + 1))).drew = w7 at *
  go_loopw [12] (fun v wr => ∃ (t : Int) (T' : List Int), v = .int .i64 t ∧ TurnI F.length E T (an : Int) q TF t T' ∧ w5.heap.size ≤ wr.heap.size ∧ ShL w wr (F.length : Int) A cap l AF AT AZ cF cT cZ lo hi F T Z bx gF dF gT dT BZ dZ z lf hf Af FR (movF F (an : Int) (un : Int)) T') (fun v _ => posQ q (intOf v))
  case atStart => exact ⟨un, T, rfl, HQ.out, by omega, HS7.out⟩
  case round =>
    obtain ⟨t, T', rfl, ht, hsz, hs⟩ := hrel
    have HS := Lib.hid hs
    obtain ⟨x0, x1, x2, _, _, _⟩ := hs.x.cells
    clear hs HS7
    by_cases c : t = (an : Int)
    · subst c
      have HTF := Lib.hid ht.done
      have hlen := ht.len
      clear ht
      have e1 : ((an : Int) != (an : Int)) = false := by simp
      have r3 := ret3 HS.out.g.rb (.slice (some ⟨gF, 0, none⟩) F.length dF) (.slice (some ⟨gT, 0, none⟩) T.length dT) (.slice BZ Z.length dZ)
      obtain ⟨_, _, _, f0, f1, f2⟩ := HS.out.g.rb.cells
      obtain ⟨s0, s1, s2, _⟩ := r3.1.cells
      have HW := Lib.hid r3.2
      clear r3
      go_wp2_with fail
      refine bodyPost_ret (v := pebV (some ⟨gF, 0, none⟩) F.length dF (some ⟨gT, 0, none⟩) T.length dT BZ Z.length dZ) ?_ rfl ?_
      · simp [results, Try.results227, go_sem, s0, s1, s2]
      · have hd := HZR.out
        unfold Dis at hd
        have ho := HS.out.s.ownF bF bT (by omega) (by omega) HS.out.oz hd.1 hd.2.1 hd.2.2
        have hw := HW.out.size
        have hTF : TF.length = T.length := by rw [← HTF.out, hlen, HEL.out, HTZ.out]
        rw [HTF.out] at ho
        exact ⟨_, _, _, _, _, _, by rw [movF_len, hTF], (ho.within HW.out (by omega) (by omega) (by omega)).own3R (by omega) (by omega) (by omega) (Nat.le_refl _), within_on HS.out.g.bel HW.out HS.out.g.bel.size (.inl (by omega))⟩
    · have e1 : (t != (an : Int)) = true := by simpa using c
      obtain ⟨i, hi1, hi2, hi3, hi4, hend, hor, hi5, hi6⟩ := ht.next c
      have HX := Lib.hid hi5
      have HM := Lib.hid hi6
      have hEi := HE.out i (by have := HEL.out; omega)
      have hbar := ht.ends.bar i hi2
      have hfi := HFQ.out (t, i) hi1 c
      have hiZ : i < Z.length := by have := HEL.out; omega
      have hlen := ht.len
      clear ht hi1 hi4 hi5 hi6 c
      obtain ⟨tn, rfl⟩ : ∃ tn : Nat, t = (tn : Int) := ⟨t.toNat, by omega⟩
      simp only [Int.toNat_natCast] at hfi
      obtain ⟨fb, fo, rfl, hfc⟩ := row_at HS.out.fr (by have := HFL.out; omega)
      have hfn := hfc tn (by have := HFL.out; omega)
      rw [hfi] at hfn
      obtain ⟨zb, zo, rfl, hzc⟩ := row_at HS.out.g.src.z (by omega)
      have hz := hzc i hiZ
      have hzr := HZ.out i hiZ
      obtain ⟨n, hnz⟩ : ∃ n : Nat, Z.getD i 0 = (n : Int) := ⟨(Z.getD i 0).toNat, by omega⟩
      rw [hnz] at hz hzr hEi
      rw [Int.toNat_natCast] at hEi
      obtain ⟨b, off, rfl, hbB, hbc⟩ := HS.out.g.bars.at (by omega)
      have hx1 := (hbc n (by omega)).1
      have hx2 := (hbc n (by omega)).2
      rw [← hEi] at hx1 hx2
      obtain ⟨v, hv⟩ : ∃ v, oth (E.getD i (0, 0)) (tn : Int) = v := ⟨_, rfl⟩
      obtain ⟨x, hxd⟩ : ∃ x, E.getD i (0, 0) = x := ⟨_, rfl⟩
      rw [hv] at HX HM hor
      rw [hxd] at hx1 hx2 hbar hend hv
      clear hEi hxd hzc hbc hfc hnz
      obtain ⟨x1', x2'⟩ := x
      simp only at hx1 hx2 hbar
      have HV := Lib.hid hv
      clear hv hend
      have htF : (tn : Int) < (FR.length : Int) := by have := HFL.out; omega
      have hiZi : (i : Int) < (Z.length : Int) := by omega
      have hnl : (n : Int) < (l.length : Int) := by omega
      have hiT : (i : Int) < (T.length : Int) := by have := HTZ.out; omega
      obtain ⟨_, gx0, gx1⟩ := HS.out.g.gb
      obtain ⟨p0, p1, p2, _, _, _⟩ := HS.out.g.pb.cells
      have HKK := Lib.hid (show (fun W' => W'.cell? ⟨w.heap.size, 1, none⟩ = some (.slice (some ⟨b, off, none⟩) l.length cap) ∧ W'.cell? ⟨w.heap.size + 1, 2, none⟩ = some (.slice (some ⟨zb, zo, none⟩) Z.length cZ) ∧ W'.cell? ⟨zb, zo + i, none⟩ = some (.int .i64 (n : Int)) ∧ W'.cell? ⟨b, off + n * 2, none⟩ = some (.int .i64 x1') ∧ W'.cell? ⟨b, off + n * 2 + 1, none⟩ = some (.int .i64 x2')) wr from ⟨gx1, p2, hz, hx1, hx2⟩)
      have HSD := Lib.hid (HS.out.below (Below.refl _ _).drew)
      go_wp2_with fail
      clear gx0 gx1 p0 p1 p2 x0 x1 x2
      go_region_held3 (fun W' => W'.cell? ⟨w.heap.size, 1, none⟩ = some (.slice (some ⟨b, off, none⟩) l.length cap) ∧ W'.cell? ⟨w.heap.size + 1, 2, none⟩ = some (.slice (some ⟨zb, zo, none⟩) Z.length cZ) ∧ W'.cell? ⟨zb, zo + i, none⟩ = some (.int .i64 (n : Int)) ∧ W'.cell? ⟨b, off + n * 2, none⟩ = some (.int .i64 x1') ∧ W'.cell? ⟨b, off + n * 2 + 1, none⟩ = some (.int .i64 x2'))
        (first | exact HKK.out | exact HK5.out | fail)
        (first | (go_at_call 226; refine (other_c (x1', x2') (tn : Int) _ (by omega) (by omega) (by omega)).mono ?_; rintro e w8 ⟨rfl, hb⟩; rw [HV.out]; have HS8 := Lib.hid (HSD.out.below hb); have hsz8 := hb.size; have HK5 := Lib.hid (show (fun W' => W'.cell? ⟨w.heap.size, 1, none⟩ = some (.slice (some ⟨b, off, none⟩) l.length cap) ∧ W'.cell? ⟨w.heap.size + 1, 2, none⟩ = some (.slice (some ⟨zb, zo, none⟩) Z.length cZ) ∧ W'.cell? ⟨zb, zo + i, none⟩ = some (.int .i64 (n : Int)) ∧ W'.cell? ⟨b, off + n * 2, none⟩ = some (.int .i64 x1') ∧ W'.cell? ⟨b, off + n * 2 + 1, none⟩ = some (.int .i64 x2')) w8 from ⟨HS8.out.g.gb.2.2, HS8.out.g.pb.cells.2.2.1, (hb.cell (p := ⟨zb, zo + i, none⟩) (World.block_lt_of_cell? _ _ HKK.out.2.2.1)).trans HKK.out.2.2.1, (hb.cell (p := ⟨b, off + n * 2, none⟩) (World.block_lt_of_cell? _ _ HKK.out.2.2.2.1)).trans HKK.out.2.2.2.1, (hb.cell (p := ⟨b, off + n * 2 + 1, none⟩) (World.block_lt_of_cell? _ _ HKK.out.2.2.2.2)).trans HKK.out.2.2.2.2⟩); clear hb))
      obtain ⟨y0, y1', y2', _, _, _⟩ := HS8.out.x.cells
      obtain ⟨hct, hft⟩ := HS8.out.s.cellT i (by omega)
      have hd := HZR.out
      unfold Dis at hd
      have HN := Lib.hid (HS8.out.setT (by omega) (by omega) (by omega) (by omega) (by omega) i (tn : Int))
      go_wp2_with fail
      go_roundw
      case rel => exact ⟨v, _, rfl, HX.out, by simpa using (by have : wr.drew.heap.size = wr.heap.size := rfl; omega), HN.out⟩
      case measure => exact HM.out
end Go.Proofs.Ytdkpmaahinbhlaa
/- What spec.IsPebbles answers. No condition. -/
namespace Go.Proofs.Ytdkpmaahinbhlaa
open Go.RowKit

set_option maxHeartbeats 8000000 in
set_option maxRecDepth 100000 in
theorem specIsPeb (p k : Int) (l : List (Int × Int)) (A : Option Addr) (cap : Nat) (AF AT AZ : Option Addr) (cF cT cZ lo hi : Nat) (F T Z : List Int) (w : World) (hl : BarsAt w w.heap.size A l) (h : Peb3 w lo hi AF AT AZ F T Z) (hn : l.length ≤ 1048576) (hF : F.length ≤ 1048576) (hT : T.length ≤ 1048576) (hZ : Z.length ≤ 1048576) (hw : WfI F) :
    Calls Try.prog 39 #[.agg #[.int .i64 p, .slice A l.length cap], .int .i64 k, pebV AF F.length cF AT T.length cT AZ Z.length cZ] w fun e w' => e = .returned (.bool (isPebB p k l F T Z)) ∧ Below w.heap.size w w' := by
  have HISG : ∀ W : World, BarsAt W W.heap.size A l → Calls Try.prog 118 #[.agg #[.int .i64 p, .slice A l.length cap]] W fun e w' => e = .returned (.bool (isGB p l)) ∧ Below W.heap.size W w' := fun W h => specIsGraph' p l A cap W h hn
  rcases hg : isGB p l with _ | _
  · skip
    rw [hg] at HISG
    have HR := Lib.hid (show isPebB p k l F T Z = false from isPebB_no fun hp => by rw [isGB_yes hp.1] at hg; cases hg)
    have hhi : hi ≤ w.heap.size := h.f.1
    have W0 := Lib.hid (Below.refl w.heap.size w)
    have HB_0 := Lib.hid (bars_in hl)
    have H_0 := Lib.hid (h)
    clear hl h
    have Z1 := Lib.hid (within_alloc w (.cells #[.int .i64 p, (.slice A l.length cap)] 26)).size
    have W1 := Lib.hid (within_on W0.out (within_alloc w (.cells #[.int .i64 p, (.slice A l.length cap)] 26)) W0.out.size (.inr (Nat.le_refl _)))
    have HB_1 := Lib.hid (HB_0.out.within (within_alloc w (.cells #[.int .i64 p, (.slice A l.length cap)] 26)) (by omega))
    have H_1 := Lib.hid (H_0.out.within (within_alloc w (.cells #[.int .i64 p, (.slice A l.length cap)] 26)) (by omega))
    have Y1 := Lib.hid (show (w.alloc (.cells #[.int .i64 p, (.slice A l.length cap)] 26)).heap.size = w.heap.size + 1 by simp)
    have hnew := box_new w p (.slice A l.length cap) 26
    have BX_1 := Lib.hid hnew
    clear hnew
    have Z2 := Lib.hid (within_alloc (w.alloc (.cells #[.int .i64 p, (.slice A l.length cap)] 26)) (.cells #[(.slice AF F.length cF), (.slice AT T.length cT), (.slice AZ Z.length cZ)] 31)).size
    have W2 := Lib.hid (within_on W1.out (within_alloc (w.alloc (.cells #[.int .i64 p, (.slice A l.length cap)] 26)) (.cells #[(.slice AF F.length cF), (.slice AT T.length cT), (.slice AZ Z.length cZ)] 31)) W1.out.size (.inr (Nat.le_refl _)))
    have HB_2 := Lib.hid (HB_1.out.within (within_alloc (w.alloc (.cells #[.int .i64 p, (.slice A l.length cap)] 26)) (.cells #[(.slice AF F.length cF), (.slice AT T.length cT), (.slice AZ Z.length cZ)] 31)) (by omega))
    have H_2 := Lib.hid (H_1.out.within (within_alloc (w.alloc (.cells #[.int .i64 p, (.slice A l.length cap)] 26)) (.cells #[(.slice AF F.length cF), (.slice AT T.length cT), (.slice AZ Z.length cZ)] 31)) (by omega))
    have BX_2 := Lib.hid (BX_1.out.within (within_alloc (w.alloc (.cells #[.int .i64 p, (.slice A l.length cap)] 26)) (.cells #[(.slice AF F.length cF), (.slice AT T.length cT), (.slice AZ Z.length cZ)] 31)) (by omega))
    have Y2 := Lib.hid (show ((w.alloc (.cells #[.int .i64 p, (.slice A l.length cap)] 26)).alloc (.cells #[(.slice AF F.length cF), (.slice AT T.length cT), (.slice AZ Z.length cZ)] 31)).heap.size = (w.alloc (.cells #[.int .i64 p, (.slice A l.length cap)] 26)).heap.size + 1 by simp)
    have hnew := cel3_new (w.alloc (.cells #[.int .i64 p, (.slice A l.length cap)] 26)) (.slice AF F.length cF) (.slice AT T.length cT) (.slice AZ Z.length cZ) 31
    rw [show (w.alloc (.cells #[.int .i64 p, (.slice A l.length cap)] 26)).heap.size = w.heap.size + 1 by simp] at hnew
    have GA_2 := Lib.hid hnew
    clear hnew
    go_enter Try.func39, Try.ntmps39
    obtain ⟨g0_0, g0_1, g0_2⟩ := BX_2.out
    obtain ⟨g1_0, g1_1, g1_2, g1_3, g1_4, g1_5⟩ := GA_2.out.cells
    go_wp2_with fail
    clear g0_0 g0_1 g0_2 g1_0 g1_1 g1_2 g1_3 g1_4 g1_5
    generalize ((w.alloc (.cells #[.int .i64 p, (.slice A l.length cap)] 26)).alloc (.cells #[(.slice AF F.length cF), (.slice AT T.length cT), (.slice AZ Z.length cZ)] 31)) = w2 at *
    generalize (w.alloc (.cells #[.int .i64 p, (.slice A l.length cap)] 26)) = w1 at *
    refine (HISG _ HB_2.out.at).mono ?_
    rintro e w3 ⟨rfl, hb⟩
    have Z3 := Lib.hid (within_of hb).size
    have W3 := Lib.hid (within_on W2.out (within_of hb) W2.out.size (.inr (Nat.le_refl _)))
    have HB_3 := Lib.hid (HB_2.out.within (within_of hb) (by omega))
    have H_3 := Lib.hid (H_2.out.within (within_of hb) (by omega))
    have BX_3 := Lib.hid (BX_2.out.within (within_of hb) (by omega))
    have GA_3 := Lib.hid (GA_2.out.within (within_of hb) (by omega))
    clear hb HISG
    go_wp2_with fail
    go_ret
    exact ⟨by rw [HR.out]; rfl, W3.out⟩
  · by_cases hkk : 1 ≤ k ∧ k ≤ 3
    case neg =>
      rw [hg] at HISG
      have hk : k < 1 ∨ 3 < k := by omega
      have HR := Lib.hid (show isPebB p k l F T Z = false from isPebB_no fun hp => by exact hkk hp.2.1)
      have hhi : hi ≤ w.heap.size := h.f.1
      have W0 := Lib.hid (Below.refl w.heap.size w)
      have HB_0 := Lib.hid (bars_in hl)
      have H_0 := Lib.hid (h)
      clear hl h
      have Z1 := Lib.hid (within_alloc w (.cells #[.int .i64 p, (.slice A l.length cap)] 26)).size
      have W1 := Lib.hid (within_on W0.out (within_alloc w (.cells #[.int .i64 p, (.slice A l.length cap)] 26)) W0.out.size (.inr (Nat.le_refl _)))
      have HB_1 := Lib.hid (HB_0.out.within (within_alloc w (.cells #[.int .i64 p, (.slice A l.length cap)] 26)) (by omega))
      have H_1 := Lib.hid (H_0.out.within (within_alloc w (.cells #[.int .i64 p, (.slice A l.length cap)] 26)) (by omega))
      have Y1 := Lib.hid (show (w.alloc (.cells #[.int .i64 p, (.slice A l.length cap)] 26)).heap.size = w.heap.size + 1 by simp)
      have hnew := box_new w p (.slice A l.length cap) 26
      have BX_1 := Lib.hid hnew
      clear hnew
      have Z2 := Lib.hid (within_alloc (w.alloc (.cells #[.int .i64 p, (.slice A l.length cap)] 26)) (.cells #[(.slice AF F.length cF), (.slice AT T.length cT), (.slice AZ Z.length cZ)] 31)).size
      have W2 := Lib.hid (within_on W1.out (within_alloc (w.alloc (.cells #[.int .i64 p, (.slice A l.length cap)] 26)) (.cells #[(.slice AF F.length cF), (.slice AT T.length cT), (.slice AZ Z.length cZ)] 31)) W1.out.size (.inr (Nat.le_refl _)))
      have HB_2 := Lib.hid (HB_1.out.within (within_alloc (w.alloc (.cells #[.int .i64 p, (.slice A l.length cap)] 26)) (.cells #[(.slice AF F.length cF), (.slice AT T.length cT), (.slice AZ Z.length cZ)] 31)) (by omega))
      have H_2 := Lib.hid (H_1.out.within (within_alloc (w.alloc (.cells #[.int .i64 p, (.slice A l.length cap)] 26)) (.cells #[(.slice AF F.length cF), (.slice AT T.length cT), (.slice AZ Z.length cZ)] 31)) (by omega))
      have BX_2 := Lib.hid (BX_1.out.within (within_alloc (w.alloc (.cells #[.int .i64 p, (.slice A l.length cap)] 26)) (.cells #[(.slice AF F.length cF), (.slice AT T.length cT), (.slice AZ Z.length cZ)] 31)) (by omega))
      have Y2 := Lib.hid (show ((w.alloc (.cells #[.int .i64 p, (.slice A l.length cap)] 26)).alloc (.cells #[(.slice AF F.length cF), (.slice AT T.length cT), (.slice AZ Z.length cZ)] 31)).heap.size = (w.alloc (.cells #[.int .i64 p, (.slice A l.length cap)] 26)).heap.size + 1 by simp)
      have hnew := cel3_new (w.alloc (.cells #[.int .i64 p, (.slice A l.length cap)] 26)) (.slice AF F.length cF) (.slice AT T.length cT) (.slice AZ Z.length cZ) 31
      rw [show (w.alloc (.cells #[.int .i64 p, (.slice A l.length cap)] 26)).heap.size = w.heap.size + 1 by simp] at hnew
      have GA_2 := Lib.hid hnew
      clear hnew
      go_enter Try.func39, Try.ntmps39
      obtain ⟨g0_0, g0_1, g0_2⟩ := BX_2.out
      obtain ⟨g1_0, g1_1, g1_2, g1_3, g1_4, g1_5⟩ := GA_2.out.cells
      go_wp2_with fail
      clear g0_0 g0_1 g0_2 g1_0 g1_1 g1_2 g1_3 g1_4 g1_5
      generalize ((w.alloc (.cells #[.int .i64 p, (.slice A l.length cap)] 26)).alloc (.cells #[(.slice AF F.length cF), (.slice AT T.length cT), (.slice AZ Z.length cZ)] 31)) = w2 at *
      generalize (w.alloc (.cells #[.int .i64 p, (.slice A l.length cap)] 26)) = w1 at *
      refine (HISG _ HB_2.out.at).mono ?_
      rintro e w3 ⟨rfl, hb⟩
      have Z3 := Lib.hid (within_of hb).size
      have W3 := Lib.hid (within_on W2.out (within_of hb) W2.out.size (.inr (Nat.le_refl _)))
      have HB_3 := Lib.hid (HB_2.out.within (within_of hb) (by omega))
      have H_3 := Lib.hid (H_2.out.within (within_of hb) (by omega))
      have BX_3 := Lib.hid (BX_2.out.within (within_of hb) (by omega))
      have GA_3 := Lib.hid (GA_2.out.within (within_of hb) (by omega))
      clear hb HISG
      go_wp2_with fail
      refine (l1In_no k 1 3 _ hk).mono ?_
      rintro e w9 ⟨rfl, rfl⟩
      go_wp2_with fail
      go_ret
      exact ⟨by rw [HR.out]; rfl, W3.out⟩
    by_cases hfp : (F.length : Int) = p
    case neg =>
      rw [hg] at HISG
      have hk : 1 ≤ k ∧ k ≤ 3 := hkk
      have hne : ((F.length : Int) == p) = false := by simpa using hfp
      have HR := Lib.hid (show isPebB p k l F T Z = false from isPebB_no fun hp => by exact hfp hp.2.2.1)
      have hhi : hi ≤ w.heap.size := h.f.1
      have W0 := Lib.hid (Below.refl w.heap.size w)
      have HB_0 := Lib.hid (bars_in hl)
      have H_0 := Lib.hid (h)
      clear hl h
      have Z1 := Lib.hid (within_alloc w (.cells #[.int .i64 p, (.slice A l.length cap)] 26)).size
      have W1 := Lib.hid (within_on W0.out (within_alloc w (.cells #[.int .i64 p, (.slice A l.length cap)] 26)) W0.out.size (.inr (Nat.le_refl _)))
      have HB_1 := Lib.hid (HB_0.out.within (within_alloc w (.cells #[.int .i64 p, (.slice A l.length cap)] 26)) (by omega))
      have H_1 := Lib.hid (H_0.out.within (within_alloc w (.cells #[.int .i64 p, (.slice A l.length cap)] 26)) (by omega))
      have Y1 := Lib.hid (show (w.alloc (.cells #[.int .i64 p, (.slice A l.length cap)] 26)).heap.size = w.heap.size + 1 by simp)
      have hnew := box_new w p (.slice A l.length cap) 26
      have BX_1 := Lib.hid hnew
      clear hnew
      have Z2 := Lib.hid (within_alloc (w.alloc (.cells #[.int .i64 p, (.slice A l.length cap)] 26)) (.cells #[(.slice AF F.length cF), (.slice AT T.length cT), (.slice AZ Z.length cZ)] 31)).size
      have W2 := Lib.hid (within_on W1.out (within_alloc (w.alloc (.cells #[.int .i64 p, (.slice A l.length cap)] 26)) (.cells #[(.slice AF F.length cF), (.slice AT T.length cT), (.slice AZ Z.length cZ)] 31)) W1.out.size (.inr (Nat.le_refl _)))
      have HB_2 := Lib.hid (HB_1.out.within (within_alloc (w.alloc (.cells #[.int .i64 p, (.slice A l.length cap)] 26)) (.cells #[(.slice AF F.length cF), (.slice AT T.length cT), (.slice AZ Z.length cZ)] 31)) (by omega))
      have H_2 := Lib.hid (H_1.out.within (within_alloc (w.alloc (.cells #[.int .i64 p, (.slice A l.length cap)] 26)) (.cells #[(.slice AF F.length cF), (.slice AT T.length cT), (.slice AZ Z.length cZ)] 31)) (by omega))
      have BX_2 := Lib.hid (BX_1.out.within (within_alloc (w.alloc (.cells #[.int .i64 p, (.slice A l.length cap)] 26)) (.cells #[(.slice AF F.length cF), (.slice AT T.length cT), (.slice AZ Z.length cZ)] 31)) (by omega))
      have Y2 := Lib.hid (show ((w.alloc (.cells #[.int .i64 p, (.slice A l.length cap)] 26)).alloc (.cells #[(.slice AF F.length cF), (.slice AT T.length cT), (.slice AZ Z.length cZ)] 31)).heap.size = (w.alloc (.cells #[.int .i64 p, (.slice A l.length cap)] 26)).heap.size + 1 by simp)
      have hnew := cel3_new (w.alloc (.cells #[.int .i64 p, (.slice A l.length cap)] 26)) (.slice AF F.length cF) (.slice AT T.length cT) (.slice AZ Z.length cZ) 31
      rw [show (w.alloc (.cells #[.int .i64 p, (.slice A l.length cap)] 26)).heap.size = w.heap.size + 1 by simp] at hnew
      have GA_2 := Lib.hid hnew
      clear hnew
      go_enter Try.func39, Try.ntmps39
      obtain ⟨g0_0, g0_1, g0_2⟩ := BX_2.out
      obtain ⟨g1_0, g1_1, g1_2, g1_3, g1_4, g1_5⟩ := GA_2.out.cells
      go_wp2_with fail
      clear g0_0 g0_1 g0_2 g1_0 g1_1 g1_2 g1_3 g1_4 g1_5
      generalize ((w.alloc (.cells #[.int .i64 p, (.slice A l.length cap)] 26)).alloc (.cells #[(.slice AF F.length cF), (.slice AT T.length cT), (.slice AZ Z.length cZ)] 31)) = w2 at *
      generalize (w.alloc (.cells #[.int .i64 p, (.slice A l.length cap)] 26)) = w1 at *
      refine (HISG _ HB_2.out.at).mono ?_
      rintro e w3 ⟨rfl, hb⟩
      have Z3 := Lib.hid (within_of hb).size
      have W3 := Lib.hid (within_on W2.out (within_of hb) W2.out.size (.inr (Nat.le_refl _)))
      have HB_3 := Lib.hid (HB_2.out.within (within_of hb) (by omega))
      have H_3 := Lib.hid (H_2.out.within (within_of hb) (by omega))
      have BX_3 := Lib.hid (BX_2.out.within (within_of hb) (by omega))
      have GA_3 := Lib.hid (GA_2.out.within (within_of hb) (by omega))
      clear hb HISG
      obtain ⟨g2_0, g2_1, g2_2⟩ := BX_3.out
      obtain ⟨g3_0, g3_1, g3_2, g3_3, g3_4, g3_5⟩ := GA_3.out.cells
      go_wp2_with fail
      refine (l1In_yes k 1 3 _ hk.1 hk.2).mono ?_
      rintro e w9 ⟨rfl, rfl⟩
      go_wp2_with fail
      go_ret
      exact ⟨by rw [HR.out]; rfl, W3.out⟩
    by_cases htz : T.length = Z.length
    case neg =>
      rw [hg] at HISG
      have hk : 1 ≤ k ∧ k ≤ 3 := hkk
      have heq : ((F.length : Int) == p) = true := by simpa using hfp
      have hne : ((T.length : Int) == (Z.length : Int)) = false := by rw [beq_eq_false_iff_ne]; omega
      have hne2 : (T.length == Z.length) = false := by simpa using htz
      have HR := Lib.hid (show isPebB p k l F T Z = false from isPebB_no fun hp => by exact htz hp.2.2.2.1)
      have hhi : hi ≤ w.heap.size := h.f.1
      have W0 := Lib.hid (Below.refl w.heap.size w)
      have HB_0 := Lib.hid (bars_in hl)
      have H_0 := Lib.hid (h)
      clear hl h
      have Z1 := Lib.hid (within_alloc w (.cells #[.int .i64 p, (.slice A l.length cap)] 26)).size
      have W1 := Lib.hid (within_on W0.out (within_alloc w (.cells #[.int .i64 p, (.slice A l.length cap)] 26)) W0.out.size (.inr (Nat.le_refl _)))
      have HB_1 := Lib.hid (HB_0.out.within (within_alloc w (.cells #[.int .i64 p, (.slice A l.length cap)] 26)) (by omega))
      have H_1 := Lib.hid (H_0.out.within (within_alloc w (.cells #[.int .i64 p, (.slice A l.length cap)] 26)) (by omega))
      have Y1 := Lib.hid (show (w.alloc (.cells #[.int .i64 p, (.slice A l.length cap)] 26)).heap.size = w.heap.size + 1 by simp)
      have hnew := box_new w p (.slice A l.length cap) 26
      have BX_1 := Lib.hid hnew
      clear hnew
      have Z2 := Lib.hid (within_alloc (w.alloc (.cells #[.int .i64 p, (.slice A l.length cap)] 26)) (.cells #[(.slice AF F.length cF), (.slice AT T.length cT), (.slice AZ Z.length cZ)] 31)).size
      have W2 := Lib.hid (within_on W1.out (within_alloc (w.alloc (.cells #[.int .i64 p, (.slice A l.length cap)] 26)) (.cells #[(.slice AF F.length cF), (.slice AT T.length cT), (.slice AZ Z.length cZ)] 31)) W1.out.size (.inr (Nat.le_refl _)))
      have HB_2 := Lib.hid (HB_1.out.within (within_alloc (w.alloc (.cells #[.int .i64 p, (.slice A l.length cap)] 26)) (.cells #[(.slice AF F.length cF), (.slice AT T.length cT), (.slice AZ Z.length cZ)] 31)) (by omega))
      have H_2 := Lib.hid (H_1.out.within (within_alloc (w.alloc (.cells #[.int .i64 p, (.slice A l.length cap)] 26)) (.cells #[(.slice AF F.length cF), (.slice AT T.length cT), (.slice AZ Z.length cZ)] 31)) (by omega))
      have BX_2 := Lib.hid (BX_1.out.within (within_alloc (w.alloc (.cells #[.int .i64 p, (.slice A l.length cap)] 26)) (.cells #[(.slice AF F.length cF), (.slice AT T.length cT), (.slice AZ Z.length cZ)] 31)) (by omega))
      have Y2 := Lib.hid (show ((w.alloc (.cells #[.int .i64 p, (.slice A l.length cap)] 26)).alloc (.cells #[(.slice AF F.length cF), (.slice AT T.length cT), (.slice AZ Z.length cZ)] 31)).heap.size = (w.alloc (.cells #[.int .i64 p, (.slice A l.length cap)] 26)).heap.size + 1 by simp)
      have hnew := cel3_new (w.alloc (.cells #[.int .i64 p, (.slice A l.length cap)] 26)) (.slice AF F.length cF) (.slice AT T.length cT) (.slice AZ Z.length cZ) 31
      rw [show (w.alloc (.cells #[.int .i64 p, (.slice A l.length cap)] 26)).heap.size = w.heap.size + 1 by simp] at hnew
      have GA_2 := Lib.hid hnew
      clear hnew
      go_enter Try.func39, Try.ntmps39
      obtain ⟨g0_0, g0_1, g0_2⟩ := BX_2.out
      obtain ⟨g1_0, g1_1, g1_2, g1_3, g1_4, g1_5⟩ := GA_2.out.cells
      go_wp2_with fail
      clear g0_0 g0_1 g0_2 g1_0 g1_1 g1_2 g1_3 g1_4 g1_5
      generalize ((w.alloc (.cells #[.int .i64 p, (.slice A l.length cap)] 26)).alloc (.cells #[(.slice AF F.length cF), (.slice AT T.length cT), (.slice AZ Z.length cZ)] 31)) = w2 at *
      generalize (w.alloc (.cells #[.int .i64 p, (.slice A l.length cap)] 26)) = w1 at *
      refine (HISG _ HB_2.out.at).mono ?_
      rintro e w3 ⟨rfl, hb⟩
      have Z3 := Lib.hid (within_of hb).size
      have W3 := Lib.hid (within_on W2.out (within_of hb) W2.out.size (.inr (Nat.le_refl _)))
      have HB_3 := Lib.hid (HB_2.out.within (within_of hb) (by omega))
      have H_3 := Lib.hid (H_2.out.within (within_of hb) (by omega))
      have BX_3 := Lib.hid (BX_2.out.within (within_of hb) (by omega))
      have GA_3 := Lib.hid (GA_2.out.within (within_of hb) (by omega))
      clear hb HISG
      obtain ⟨g2_0, g2_1, g2_2⟩ := BX_3.out
      obtain ⟨g3_0, g3_1, g3_2, g3_3, g3_4, g3_5⟩ := GA_3.out.cells
      go_wp2_with fail
      refine (l1In_yes k 1 3 _ hk.1 hk.2).mono ?_
      rintro e w9 ⟨rfl, rfl⟩
      go_wp2_with fail
      go_ret
      exact ⟨by rw [HR.out]; rfl, W3.out⟩
    rw [hg] at HISG
    have hG : IsG p l := Classical.byContradiction fun g => by rw [isGB_no g] at hg; cases hg
    obtain rfl : p = (F.length : Int) := hfp.symm
    have hk : 1 ≤ k ∧ k ≤ 3 := hkk
    have heq : ((F.length : Int) != (F.length : Int)) = false := by simp
    have hF8 := hG.1.2
    have heq1 : ((T.length : Int) != (Z.length : Int)) = false := by rw [bne_eq_false_iff_eq]; omega
    have heq2 : (T.length == Z.length) = true := by simpa using htz
    have h24 := hG.2.1
    have HYES := Lib.hid (show (∀ j, j < Z.length → OkP l T Z j) → (∀ v : Nat, v < F.length → 0 ≤ F.getD v 0 ∧ F.getD v 0 + (T.count (v : Int) : Int) = k) → isPebB (F.length : Int) k l F T Z = true from fun h1 h2 => isPebB_yes ⟨hG, hkk, rfl, htz, h1, h2⟩)
    have HW := Lib.hid hw
    have HTZ := Lib.hid htz
    clear hg hG hw htz
    have hhi : hi ≤ w.heap.size := h.f.1
    have W0 := Lib.hid (Below.refl w.heap.size w)
    have HB_0 := Lib.hid (bars_in hl)
    have H_0 := Lib.hid (h)
    clear hl h
    have Z1 := Lib.hid (within_alloc w (.cells #[.int .i64 (F.length : Int), (.slice A l.length cap)] 26)).size
    have W1 := Lib.hid (within_on W0.out (within_alloc w (.cells #[.int .i64 (F.length : Int), (.slice A l.length cap)] 26)) W0.out.size (.inr (Nat.le_refl _)))
    have HB_1 := Lib.hid (HB_0.out.within (within_alloc w (.cells #[.int .i64 (F.length : Int), (.slice A l.length cap)] 26)) (by omega))
    have H_1 := Lib.hid (H_0.out.within (within_alloc w (.cells #[.int .i64 (F.length : Int), (.slice A l.length cap)] 26)) (by omega))
    have Y1 := Lib.hid (show (w.alloc (.cells #[.int .i64 (F.length : Int), (.slice A l.length cap)] 26)).heap.size = w.heap.size + 1 by simp)
    have hnew := box_new w (F.length : Int) (.slice A l.length cap) 26
    have BX_1 := Lib.hid hnew
    clear hnew
    have Z2 := Lib.hid (within_alloc (w.alloc (.cells #[.int .i64 (F.length : Int), (.slice A l.length cap)] 26)) (.cells #[(.slice AF F.length cF), (.slice AT T.length cT), (.slice AZ Z.length cZ)] 31)).size
    have W2 := Lib.hid (within_on W1.out (within_alloc (w.alloc (.cells #[.int .i64 (F.length : Int), (.slice A l.length cap)] 26)) (.cells #[(.slice AF F.length cF), (.slice AT T.length cT), (.slice AZ Z.length cZ)] 31)) W1.out.size (.inr (Nat.le_refl _)))
    have HB_2 := Lib.hid (HB_1.out.within (within_alloc (w.alloc (.cells #[.int .i64 (F.length : Int), (.slice A l.length cap)] 26)) (.cells #[(.slice AF F.length cF), (.slice AT T.length cT), (.slice AZ Z.length cZ)] 31)) (by omega))
    have H_2 := Lib.hid (H_1.out.within (within_alloc (w.alloc (.cells #[.int .i64 (F.length : Int), (.slice A l.length cap)] 26)) (.cells #[(.slice AF F.length cF), (.slice AT T.length cT), (.slice AZ Z.length cZ)] 31)) (by omega))
    have BX_2 := Lib.hid (BX_1.out.within (within_alloc (w.alloc (.cells #[.int .i64 (F.length : Int), (.slice A l.length cap)] 26)) (.cells #[(.slice AF F.length cF), (.slice AT T.length cT), (.slice AZ Z.length cZ)] 31)) (by omega))
    have Y2 := Lib.hid (show ((w.alloc (.cells #[.int .i64 (F.length : Int), (.slice A l.length cap)] 26)).alloc (.cells #[(.slice AF F.length cF), (.slice AT T.length cT), (.slice AZ Z.length cZ)] 31)).heap.size = (w.alloc (.cells #[.int .i64 (F.length : Int), (.slice A l.length cap)] 26)).heap.size + 1 by simp)
    have hnew := cel3_new (w.alloc (.cells #[.int .i64 (F.length : Int), (.slice A l.length cap)] 26)) (.slice AF F.length cF) (.slice AT T.length cT) (.slice AZ Z.length cZ) 31
    rw [show (w.alloc (.cells #[.int .i64 (F.length : Int), (.slice A l.length cap)] 26)).heap.size = w.heap.size + 1 by simp] at hnew
    have GA_2 := Lib.hid hnew
    clear hnew
    go_enter Try.func39, Try.ntmps39
    obtain ⟨g0_0, g0_1, g0_2⟩ := BX_2.out
    obtain ⟨g1_0, g1_1, g1_2, g1_3, g1_4, g1_5⟩ := GA_2.out.cells
    go_wp2_with fail
    clear g0_0 g0_1 g0_2 g1_0 g1_1 g1_2 g1_3 g1_4 g1_5
    generalize ((w.alloc (.cells #[.int .i64 (F.length : Int), (.slice A l.length cap)] 26)).alloc (.cells #[(.slice AF F.length cF), (.slice AT T.length cT), (.slice AZ Z.length cZ)] 31)) = w2 at *
    generalize (w.alloc (.cells #[.int .i64 (F.length : Int), (.slice A l.length cap)] 26)) = w1 at *
    refine (HISG _ HB_2.out.at).mono ?_
    rintro e w3 ⟨rfl, hb⟩
    have Z3 := Lib.hid (within_of hb).size
    have W3 := Lib.hid (within_on W2.out (within_of hb) W2.out.size (.inr (Nat.le_refl _)))
    have HB_3 := Lib.hid (HB_2.out.within (within_of hb) (by omega))
    have H_3 := Lib.hid (H_2.out.within (within_of hb) (by omega))
    have BX_3 := Lib.hid (BX_2.out.within (within_of hb) (by omega))
    have GA_3 := Lib.hid (GA_2.out.within (within_of hb) (by omega))
    clear hb HISG
    obtain ⟨g2_0, g2_1, g2_2⟩ := BX_3.out
    obtain ⟨g3_0, g3_1, g3_2, g3_3, g3_4, g3_5⟩ := GA_3.out.cells
    go_wp2_with fail
    refine (l1In_yes k 1 3 _ hk.1 hk.2).mono ?_
    rintro e w9 ⟨rfl, rfl⟩
    have HGP := Lib.hid (⟨BX_3.out, GA_3.out, HB_3.out, H_3.out, W3.out⟩ : GP w w3 w.heap.size (w.heap.size + 1) (F.length : Int) A cap l AF AT AZ cF cT cZ lo hi F T Z)
    go_wp2_with fail
    clear g2_0 g2_1 g2_2 g3_0 g3_1 g3_2 g3_3 g3_4 g3_5
    clear heq heq1 heq2
    go_loopw [7] (fun i wr => ∃ j : Nat, j ≤ Z.length ∧ i = .int .i64 j ∧ (∀ u, u < j → OkP l T Z u) ∧ GP w wr w.heap.size (w.heap.size + 1) (F.length : Int) A cap l AF AT AZ cF cT cZ lo hi F T Z) (fun i _ => Z.length - (intOf i).toNat)
    case atStart => exact ⟨0, Nat.zero_le _, rfl, fun u hu => absurd hu (Nat.not_lt_zero _), HGP.out⟩
    case round =>
      obtain ⟨j, hj, rfl, hok, hst⟩ := hrel
      have HOK := Lib.hid hok
      have HS := Lib.hid hst
      obtain ⟨_, gx0, gx1⟩ := hst.box
      obtain ⟨gc0, gc1, gc2, _, _, _⟩ := hst.st.cells
      clear hok hst
      by_cases hlt : j < Z.length
      · skip
        have hji : (j : Int) < (Z.length : Int) := by omega
        obtain ⟨zb, zo, rfl, hzc⟩ := row_at HS.out.rows.z (by omega)
        obtain ⟨tb, tq9, rfl, htc⟩ := row_at HS.out.rows.t (by have := HTZ.out; omega)
        have hz := hzc j hlt
        have hjt : (j : Int) < (T.length : Int) := by have := HTZ.out; omega
        have ht := htc j (by omega)
        have HBAD := Lib.hid (fun h : ¬ OkP l T Z j => isPeb_bad (p := (F.length : Int)) (k := k) (F := F) hlt h)
        have HNEXT := Lib.hid (fun h : OkP l T Z j => okP_snoc HOK.out h)
        have HDEF := Lib.hid (show OkP l T Z j = ((0 ≤ Z.getD j 0 ∧ Z.getD j 0 < (l.length : Int)) ∧ (0 < j → Z.getD (j - 1) 0 < Z.getD j 0) ∧ isEnd (l.getD (Z.getD j 0).toNat (0, 0)) (T.getD j 0)) from rfl)
        have HPREV := Lib.hid (fun h0 : 0 < j => hzc (j - 1) (by omega))
        obtain ⟨z, hzd⟩ : ∃ z, Z.getD j 0 = z := ⟨_, rfl⟩
        obtain ⟨t, htd⟩ : ∃ t, T.getD j 0 = t := ⟨_, rfl⟩
        obtain ⟨y, hyd⟩ : ∃ y, Z.getD (j - 1) 0 = y := ⟨_, rfl⟩
        rw [hzd] at hz HDEF
        rw [htd] at ht HDEF
        rw [hyd] at HPREV HDEF
        clear hzd htd hyd hzc htc
        by_cases c1 : z < 0
        · skip
          have Q := Lib.hid (HBAD.out fun h => by rw [HDEF.out] at h; omega)
          go_wp2_with fail
          go_big_quiet (fail)
          go_wp2_with fail
          go_ret
          exact ⟨by rw [Q.out]; rfl, HS.out.bel.trans (below_drewN _ _ _)⟩
        have d1 : decide (z < 0) = false := by simpa using c1
        obtain ⟨n, rfl⟩ : ∃ n : Nat, z = (n : Int) := ⟨z.toNat, by omega⟩
        have d1n : decide ((n : Int) < 0) = false := d1
        by_cases c2 : l.length ≤ n
        · skip
          have c2i : (l.length : Int) ≤ (n : Int) := by omega
          have Q := Lib.hid (HBAD.out fun h => by rw [HDEF.out] at h; omega)
          go_wp2_with fail
          go_big_quiet (fail)
          go_wp2_with fail
          go_ret
          exact ⟨by rw [Q.out]; rfl, HS.out.bel.trans (below_drewN _ _ _)⟩
        have c2i : ¬ (l.length : Int) ≤ (n : Int) := by omega
        have d2 : decide ((l.length : Int) ≤ (n : Int)) = false := by simpa using c2i
        have d2n : decide (l.length ≤ n) = false := by simpa using c2
        obtain ⟨b, off, rfl, _, hbc⟩ := HS.out.bars.at (by omega)
        have hx1 := (hbc n (by omega)).1
        have hx2 := (hbc n (by omega)).2
        obtain ⟨x, hxd⟩ : ∃ x, l.getD n (0, 0) = x := ⟨_, rfl⟩
        rw [hxd] at hx1 hx2
        rw [Int.toNat_natCast, hxd] at HDEF
        clear hxd hbc
        obtain ⟨x1, x2⟩ := x
        simp only at hx1 hx2 HDEF
        by_cases hj0 : j = 0
        · skip
          have d3 : decide ((0 : Int) < (j : Int)) = false := by simp; omega
          have d3n : decide (0 < j) = false := by simp; omega
          have HJ0 := Lib.hid hj0
          clear hj0
          by_cases c4 : t = x1
          · skip
            have e1 : (t != x1) = false := by simpa using c4
            have HN := Lib.hid (HNEXT.out (by rw [HDEF.out]; exact ⟨by omega, fun h => absurd h (by have := HJ0.out; omega), .inl c4⟩))
            clear c4
            go_wp2_with fail
            go_big_quiet (fail)
            go_wp2_with fail
            go_roundw
            case rel => exact ⟨j + 1, by omega, by go_num, HN.out, HS.out.drewN _⟩
            case measure => simp [intOf]; omega
          have e1 : (t != x1) = true := by simpa using c4
          have HC4 := Lib.hid c4
          clear c4
          by_cases c5 : t = x2
          · skip
            have e2 : (t != x2) = false := by simpa using c5
            have HN := Lib.hid (HNEXT.out (by rw [HDEF.out]; exact ⟨by omega, fun h => absurd h (by have := HJ0.out; omega), .inr c5⟩))
            clear c5
            go_wp2_with fail
            go_big_quiet (fail)
            go_wp2_with fail
            go_roundw
            case rel => exact ⟨j + 1, by omega, by go_num, HN.out, HS.out.drewN _⟩
            case measure => simp [intOf]; omega
          have e2 : (t != x2) = true := by simpa using c5
          have HC5 := Lib.hid c5
          clear c5
          have Q := Lib.hid (HBAD.out fun h => by rw [HDEF.out] at h; rcases h.2.2 with h | h; exact HC4.out h; exact HC5.out h)
          go_wp2_with fail
          go_big_quiet (fail)
          go_wp2_with fail
          go_ret
          exact ⟨by rw [Q.out]; rfl, HS.out.bel.trans (below_drewN _ _ _)⟩
        · skip
          have d3 : decide ((0 : Int) < (j : Int)) = true := by simp; omega
          have d3n : decide (0 < j) = true := by simp; omega
          have hy := HPREV.out (by omega)
          have hjm : (j : Int) - 1 = ((j - 1 : Nat) : Int) := by omega
          have hjw : IntKind.i64.wrap ((j - 1 : Nat) : Int) = ((j - 1 : Nat) : Int) := IntWalk.i64_in _ (by omega)
          have hjl : ((j - 1 : Nat) : Int) < (Z.length : Int) := by omega
          have hjl2 : j - 1 < Z.length := by omega
          have HJ0 := Lib.hid hj0
          clear hj0
          by_cases c3 : (n : Int) ≤ y
          · skip
            have Q := Lib.hid (HBAD.out fun h => by rw [HDEF.out] at h; have := h.2.1 (by have := HJ0.out; omega); omega)
            go_wp2_with fail
            go_big_quiet (fail)
            go_wp2_with fail
            go_ret
            exact ⟨by rw [Q.out]; rfl, HS.out.bel.trans (below_drewN _ _ _)⟩
          have d4 : decide ((n : Int) ≤ y) = false := by simpa using c3
          by_cases c4 : t = x1
          · skip
            have e1 : (t != x1) = false := by simpa using c4
            have HN := Lib.hid (HNEXT.out (by rw [HDEF.out]; exact ⟨by omega, fun _ => by omega, .inl c4⟩))
            clear c4
            go_wp2_with fail
            go_big_quiet (fail)
            go_wp2_with fail
            go_roundw
            case rel => exact ⟨j + 1, by omega, by go_num, HN.out, HS.out.drewN _⟩
            case measure => simp [intOf]; omega
          have e1 : (t != x1) = true := by simpa using c4
          have HC4 := Lib.hid c4
          clear c4
          by_cases c5 : t = x2
          · skip
            have e2 : (t != x2) = false := by simpa using c5
            have HN := Lib.hid (HNEXT.out (by rw [HDEF.out]; exact ⟨by omega, fun _ => by omega, .inr c5⟩))
            clear c5
            go_wp2_with fail
            go_big_quiet (fail)
            go_wp2_with fail
            go_roundw
            case rel => exact ⟨j + 1, by omega, by go_num, HN.out, HS.out.drewN _⟩
            case measure => simp [intOf]; omega
          have e2 : (t != x2) = true := by simpa using c5
          have HC5 := Lib.hid c5
          clear c5
          have Q := Lib.hid (HBAD.out fun h => by rw [HDEF.out] at h; rcases h.2.2 with h | h; exact HC4.out h; exact HC5.out h)
          go_wp2_with fail
          go_big_quiet (fail)
          go_wp2_with fail
          go_ret
          exact ⟨by rw [Q.out]; rfl, HS.out.bel.trans (below_drewN _ _ _)⟩
      · obtain rfl : j = Z.length := by omega
        have HL24 := Lib.hid (Nat.le_trans (okP_len HOK.out) h24)
        have HNO := Lib.hid (fun (v : Nat) (hv : v < F.length) h => isPeb_free (p := (F.length : Int)) (k := k) (l := l) (Z := Z) (T := T) hv h)
        have HY2 := Lib.hid (HYES.out HOK.out)
        clear HYES HOK
        go_wp2_with fail
        go_loopw [9] (fun i wr => ∃ v : Nat, v ≤ F.length ∧ i = .int .i64 v ∧ (∀ u : Nat, u < v → 0 ≤ F.getD u 0 ∧ F.getD u 0 + (T.count (u : Int) : Int) = k) ∧ GP w wr w.heap.size (w.heap.size + 1) (F.length : Int) A cap l AF AT AZ cF cT cZ lo hi F T Z) (fun i _ => F.length - (intOf i).toNat)
        case atStart => exact ⟨0, Nat.zero_le _, rfl, fun u hu => absurd hu (Nat.not_lt_zero _), HS.out⟩
        case round =>
          clear gx0 gx1 gc0 gc1 gc2 hlt hj HS
          obtain ⟨v, hv, rfl, hok, hst⟩ := hrel
          have HOK := Lib.hid hok
          have HS := Lib.hid hst
          obtain ⟨_, gx0, gx1⟩ := hst.box
          obtain ⟨gc0, gc1, gc2, _, _, _⟩ := hst.st.cells
          clear hok hst
          by_cases hlt : v < F.length
          · skip
            have hvi : (v : Int) < (F.length : Int) := by omega
            obtain ⟨fb, fo, rfl, hfc⟩ := row_at HS.out.rows.f (by omega)
            have hfv := hfc v hlt
            have HN := Lib.hid (HNO.out v hlt)
            have HSN := Lib.hid (show (0 ≤ F.getD v 0 ∧ F.getD v 0 + (T.count (v : Int) : Int) = k) → ∀ u : Nat, u < v + 1 → 0 ≤ F.getD u 0 ∧ F.getD u 0 + (T.count (u : Int) : Int) = k from fun h u hu => by
              by_cases e : u = v
              · subst e; exact h
              · exact HOK.out u (by omega))
            have hxw := HW.out v hlt
            have hcn : T.count (v : Int) ≤ 24 := Nat.le_trans (List.count_le_length ..) (by have := HTZ.out; have := HL24.out; omega)
            obtain ⟨x, hx⟩ : ∃ x, F.getD v 0 = x := ⟨_, rfl⟩
            rw [hx] at hfv HN HSN hxw
            clear hx hfc
            obtain ⟨c, hcd⟩ : ∃ c, T.count (v : Int) = c := ⟨_, rfl⟩
            rw [hcd] at HN HSN hcn
            have HCD := Lib.hid hcd
            clear hcd
            by_cases c1 : x < 0
            · skip
              have Q := Lib.hid (HN.out (by omega))
              go_wp2_with fail
              go_big_quiet (fail)
              go_wp2_with fail
              go_ret
              exact ⟨by rw [Q.out]; rfl, HS.out.bel.trans (below_drewN _ _ _)⟩
            have d1 : decide (x < 0) = false := by simpa using c1
            have hwf := wf_add hxw (by omega) hcn hk
            have HSD := Lib.hid (HS.out.below (Below.refl _ _).drew)
            have kk : (fun W' => W'.cell? ⟨w.heap.size + 1, 0, none⟩ = some (.slice (some ⟨fb, fo, none⟩) F.length cF) ∧ W'.cell? ⟨w.heap.size + 1, 1, none⟩ = some (.slice AT T.length cT) ∧ W'.cell? ⟨w.heap.size + 1, 2, none⟩ = some (.slice AZ Z.length cZ) ∧ W'.cell? ⟨fb, fo + v, none⟩ = some (.int .i64 x)) wr := ⟨gc0, gc1, gc2, hfv⟩
            have HKK := Lib.hid kk
            by_cases c2 : x + (c : Int) = k
            · skip
              have hs : IntKind.i64.wrap (x + (c : Int)) = k := hwf.2 c2
              have hq : (IntKind.i64.wrap (x + (c : Int)) != k) = false := by rw [hs]; simp
              have HNX := Lib.hid (HSN.out ⟨by omega, c2⟩)
              clear hwf hs c2
              go_wp2_with fail
              go_region_held3 (fun W' => W'.cell? ⟨w.heap.size + 1, 0, none⟩ = some (.slice (some ⟨fb, fo, none⟩) F.length cF) ∧ W'.cell? ⟨w.heap.size + 1, 1, none⟩ = some (.slice AT T.length cT) ∧ W'.cell? ⟨w.heap.size + 1, 2, none⟩ = some (.slice AZ Z.length cZ) ∧ W'.cell? ⟨fb, fo + v, none⟩ = some (.int .i64 x))
                (first | exact HKK.out | exact HK5.out | fail)
                (first | (go_at_call 132; refine (tail_c (some ⟨fb, fo, none⟩) AT AZ cF cT cZ lo hi F T Z (v : Int) _ HSD.out.rows hT).mono ?_; rintro e w5 ⟨rfl, hb⟩; rw [HCD.out]; have HS5 := Lib.hid (HSD.out.below hb); have HK5 := Lib.hid (show (fun W' : World => W'.cell? ⟨w.heap.size + 1, 0, none⟩ = some (.slice (some ⟨fb, fo, none⟩) F.length cF) ∧ W'.cell? ⟨w.heap.size + 1, 1, none⟩ = some (.slice AT T.length cT) ∧ W'.cell? ⟨w.heap.size + 1, 2, none⟩ = some (.slice AZ Z.length cZ) ∧ W'.cell? ⟨fb, fo + v, none⟩ = some (.int .i64 x)) w5 from ⟨HS5.out.st.cells.1, HS5.out.st.cells.2.1, HS5.out.st.cells.2.2.1, (hb.cell (p := ⟨fb, fo + v, none⟩) (World.block_lt_of_cell? _ _ HKK.out.2.2.2)).trans HKK.out.2.2.2⟩); clear hb))
              go_wp2_with fail
              go_roundw
              case rel => exact ⟨v + 1, by omega, by go_num, HNX.out, HS5.out⟩
              case measure => simp [intOf]; omega
            have hq : (IntKind.i64.wrap (x + (c : Int)) != k) = true := by rw [bne_iff_ne]; exact fun h => c2 (hwf.1 h)
            have Q := Lib.hid (HN.out (by omega))
            clear hwf
            go_wp2_with fail
            go_region_held3 (fun W' => W'.cell? ⟨w.heap.size + 1, 0, none⟩ = some (.slice (some ⟨fb, fo, none⟩) F.length cF) ∧ W'.cell? ⟨w.heap.size + 1, 1, none⟩ = some (.slice AT T.length cT) ∧ W'.cell? ⟨w.heap.size + 1, 2, none⟩ = some (.slice AZ Z.length cZ) ∧ W'.cell? ⟨fb, fo + v, none⟩ = some (.int .i64 x))
              (first | exact HKK.out | exact HK5.out | fail)
              (first | (go_at_call 132; refine (tail_c (some ⟨fb, fo, none⟩) AT AZ cF cT cZ lo hi F T Z (v : Int) _ HSD.out.rows hT).mono ?_; rintro e w5 ⟨rfl, hb⟩; rw [HCD.out]; have HS5 := Lib.hid (HSD.out.below hb); have HK5 := Lib.hid (show (fun W' : World => W'.cell? ⟨w.heap.size + 1, 0, none⟩ = some (.slice (some ⟨fb, fo, none⟩) F.length cF) ∧ W'.cell? ⟨w.heap.size + 1, 1, none⟩ = some (.slice AT T.length cT) ∧ W'.cell? ⟨w.heap.size + 1, 2, none⟩ = some (.slice AZ Z.length cZ) ∧ W'.cell? ⟨fb, fo + v, none⟩ = some (.int .i64 x)) w5 from ⟨HS5.out.st.cells.1, HS5.out.st.cells.2.1, HS5.out.st.cells.2.2.1, (hb.cell (p := ⟨fb, fo + v, none⟩) (World.block_lt_of_cell? _ _ HKK.out.2.2.2)).trans HKK.out.2.2.2⟩); clear hb))
            go_wp2_with fail
            go_ret
            exact ⟨by rw [Q.out]; rfl, HS5.out.bel⟩
          · obtain rfl : v = F.length := by omega
            go_wp2_with fail
            go_ret
            exact ⟨by rw [HY2.out HOK.out]; rfl, HS.out.bel⟩
end Go.Proofs.Ytdkpmaahinbhlaa
/- What spec.NewPebbles answers. No condition. -/
namespace Go.Proofs.Ytdkpmaahinbhlaa
open Go.RowKit

/-- An own row of no elements that is kept over steps of the world: what it is, and where. -/
structure Own0 (W : World) (base g : Nat) : Prop where
  row : W.ownsRow base 3 1 (.slice (some ⟨g, 0, none⟩) 0 0) 0 []
theorem Own0.within {W W' : World} {base g lo hi : Nat} (h : Own0 W base g) (hw : Within lo hi W W') (hd : g < lo ∨ hi ≤ g) : Own0 W' base g := by
  rcases h.row.2 with ⟨e, _⟩ | ⟨g', cap, cur, e, _, hh, _⟩
  · cases e
  · cases e
    exact ⟨own_block h.row (hw.block g (Array.getElem?_eq_some_iff.1 hh).1 hd)⟩
theorem Cel3.grown {W W' : World} {b : Nat} {T : TypeId} {v0 v1 v2 : Value} {g : Option Nat} (h : Cel3 W b T v0 v1 v2) (hg : W.grownBy W' g) (hne : some b ≠ g) : Cel3 W' b T v0 v1 v2 := (hg.block b h.lt (fun e => hne e)).trans h
/-- A state under the making: its free pebbles up to j. -/
structure NewS (w wr : World) (p k : Int) (gv : Value) (j : Nat) (v u1 u2 : Value) : Prop where
  row : wr.ownsRow w.heap.size 3 1 v j (intCells (List.replicate j k))
  at_ : ∀ a, v.ownBlock = some a → w.heap.size + 1 < a ∧ a ≠ w.heap.size + 1 + 1 + 1 + 1 + 1
  st : Cel3 wr (w.heap.size + 1 + 1 + 1 + 1 + 1) 31 v u1 u2
  ret : Cel3 wr (w.heap.size + 1) 31 (.slice none 0 0) (.slice none 0 0) (.slice none 0 0)
  box : Box wr w.heap.size p gv
  bel : Below w.heap.size w wr
theorem NewS.alloc {w wr : World} {p k : Int} {gv : Value} {j : Nat} {v u1 u2 : Value} (h : NewS w wr p k gv j v u1 u2) (o : Obj) : NewS w (wr.alloc o) p k gv j v u1 u2 :=
  ⟨h.row.alloc _, h.at_, h.st.kept (new_below wr o), h.ret.kept (new_below wr o), h.box.kept (new_below wr o), below_on h.bel (new_below wr o) h.bel.size⟩
theorem NewS.push {w wr w' : World} {p k : Int} {gv : Value} {j : Nat} {v v' u1 u2 : Value} (h : NewS w wr p k gv j v u1 u2) (ho : w'.ownsRow w.heap.size 3 1 v' (j + 1) (intCells (List.replicate j k) ++ [.int .i64 k])) (hg : wr.grownBy w' v.ownBlock)
    (hat : v'.ownBlock = v.ownBlock ∨ v'.ownBlock = some (wr.heap.size + 1)) : Cel3 w' (w.heap.size + 1 + 1 + 1 + 1 + 1) 31 v u1 u2 ∧ NewS w (w'.setCell ⟨w.heap.size + 1 + 1 + 1 + 1 + 1, 0, none⟩ v') p k gv (j + 1) v' u1 u2 := by
  obtain ⟨h1, h2, h3, h4, h5, h6⟩ := h
  have n5 : some (w.heap.size + 1 + 1 + 1 + 1 + 1) ≠ v.ownBlock := fun e => (h2 _ e.symm).2 rfl
  have c5 := h3.grown hg n5
  have l5 := h3.lt
  have hat' : ∀ a, v'.ownBlock = some a → w.heap.size + 1 < a ∧ a ≠ w.heap.size + 1 + 1 + 1 + 1 + 1 := fun a e => by
    rcases hat with hat | hat
    · exact h2 a (hat ▸ e)
    · rw [hat] at e
      cases e
      omega
  have hs := within_set w' (w.heap.size + 1 + 1 + 1 + 1 + 1) 0 v'
  refine ⟨c5, ?_, hat', c5.set0 v', ?_, ?_, ?_⟩
  · have hr : intCells (List.replicate (j + 1) k) = intCells (List.replicate j k) ++ [.int .i64 k] := by simp [intCells, List.replicate_succ']
    rw [hr]
    rcases ho.2 with ⟨e, e0⟩ | ⟨g, cap', cur, e, _, hh, _⟩
    · omega
    · subst e
      exact own_block ho (hs.block g (Array.getElem?_eq_some_iff.1 hh).1 (by have := (hat' g rfl).2; omega))
  · exact (h4.grown hg fun e => by have := (h2 _ e.symm).1; omega).within hs (by omega)
  · have hb := h5.1
    refine Box.within (W := w') ⟨Nat.lt_of_lt_of_le hb hg.size, ?_, ?_⟩ hs (by omega)
    · exact (World.cell?_of_block (hg.block w.heap.size hb fun e => by have := (h2 _ e.symm).1; omega)).trans h5.2.1
    · exact (World.cell?_of_block (a := ⟨w.heap.size, 1, none⟩) (hg.block w.heap.size hb fun e => by have := (h2 _ e.symm).1; omega)).trans h5.2.2
  · exact (h6.grown hg (Nat.le_trans h6.size (Nat.le_refl _)) fun g hgg => (h1.lt g hgg).1).setCell (p := ⟨w.heap.size + 1 + 1 + 1 + 1 + 1, 0, none⟩) (by simp only []; omega) _
theorem NewS.row2 {w wr : World} {p k : Int} {gv : Value} {j : Nat} {A : Option Addr} {c : Nat} {u1 u2 : Value} (h : NewS w wr p k gv j (.slice A j c) u1 u2) : OwnInts wr (w.heap.size + 1 + 1) wr.heap.size A c (List.replicate j k) := by
  refine ⟨Nat.le_refl _, ?_⟩
  rcases h.row.2 with ⟨_, e⟩ | ⟨g, cap, cur, e, h1, hh, h3⟩
  · subst e
    exact .inl rfl
  · cases e
    have := (h.at_ g rfl).1
    exact .inr ⟨g, rfl, by omega, (Array.getElem?_eq_some_iff.1 hh).1, by rw [List.length_replicate]; exact ⟨h.row.1, .inr ⟨g, c, cur, rfl, by omega, hh, h3⟩⟩⟩

set_option maxHeartbeats 4000000 in
set_option maxRecDepth 100000 in
theorem specNewP (p k : Int) (l : List (Int × Int)) (A : Option Addr) (cap : Nat) (w : World) (hl : BarsAt w w.heap.size A l) (hn : l.length ≤ 1048576) :
    Calls Try.prog 37 #[.agg #[.int .i64 p, .slice A l.length cap], .int .i64 k] w (PebOB w (newF p k l) [] [] (newB p k l)) := by
  have HISG : ∀ W : World, BarsAt W W.heap.size A l → Calls Try.prog 118 #[.agg #[.int .i64 p, .slice A l.length cap]] W fun e w' => e = .returned (.bool (isGB p l)) ∧ Below W.heap.size W w' := fun W h => specIsGraph' p l A cap W h hn
  by_cases hbad : isGB p l = false ∨ k < 1 ∨ 3 < k
  · have HR := Lib.hid (new_no hbad)
    rcases hg : isGB p l with _ | _
    · skip
      rw [hg] at HISG
      clear hbad
      have W0 := Lib.hid (Below.refl w.heap.size w)
      have HB_0 := Lib.hid (bars_in hl)
      clear hl
      have Z1 := Lib.hid (within_alloc w (.cells #[.int .i64 p, (.slice A l.length cap)] 26)).size
      have W1 := Lib.hid (within_on W0.out (within_alloc w (.cells #[.int .i64 p, (.slice A l.length cap)] 26)) W0.out.size (.inr (Nat.le_refl _)))
      have HB_1 := Lib.hid (HB_0.out.within (within_alloc w (.cells #[.int .i64 p, (.slice A l.length cap)] 26)) (by omega))
      have Y1 := Lib.hid (show (w.alloc (.cells #[.int .i64 p, (.slice A l.length cap)] 26)).heap.size = w.heap.size + 1 by simp)
      have hnew := box_new w p (.slice A l.length cap) 26
      have BX_1 := Lib.hid hnew
      clear hnew
      have Z2 := Lib.hid (within_alloc (w.alloc (.cells #[.int .i64 p, (.slice A l.length cap)] 26)) (.cells #[(.slice none 0 0), (.slice none 0 0), (.slice none 0 0)] 31)).size
      have W2 := Lib.hid (within_on W1.out (within_alloc (w.alloc (.cells #[.int .i64 p, (.slice A l.length cap)] 26)) (.cells #[(.slice none 0 0), (.slice none 0 0), (.slice none 0 0)] 31)) W1.out.size (.inr (Nat.le_refl _)))
      have HB_2 := Lib.hid (HB_1.out.within (within_alloc (w.alloc (.cells #[.int .i64 p, (.slice A l.length cap)] 26)) (.cells #[(.slice none 0 0), (.slice none 0 0), (.slice none 0 0)] 31)) (by omega))
      have BX_2 := Lib.hid (BX_1.out.within (within_alloc (w.alloc (.cells #[.int .i64 p, (.slice A l.length cap)] 26)) (.cells #[(.slice none 0 0), (.slice none 0 0), (.slice none 0 0)] 31)) (by omega))
      have Y2 := Lib.hid (show ((w.alloc (.cells #[.int .i64 p, (.slice A l.length cap)] 26)).alloc (.cells #[(.slice none 0 0), (.slice none 0 0), (.slice none 0 0)] 31)).heap.size = (w.alloc (.cells #[.int .i64 p, (.slice A l.length cap)] 26)).heap.size + 1 by simp)
      have hnew := cel3_new (w.alloc (.cells #[.int .i64 p, (.slice A l.length cap)] 26)) (.slice none 0 0) (.slice none 0 0) (.slice none 0 0) 31
      rw [show (w.alloc (.cells #[.int .i64 p, (.slice A l.length cap)] 26)).heap.size = w.heap.size + 1 by simp] at hnew
      have GR_2 := Lib.hid hnew
      clear hnew
      have Z3 := Lib.hid (within_alloc ((w.alloc (.cells #[.int .i64 p, (.slice A l.length cap)] 26)).alloc (.cells #[(.slice none 0 0), (.slice none 0 0), (.slice none 0 0)] 31)) (.cells #[] 3)).size
      have W3 := Lib.hid (within_on W2.out (within_alloc ((w.alloc (.cells #[.int .i64 p, (.slice A l.length cap)] 26)).alloc (.cells #[(.slice none 0 0), (.slice none 0 0), (.slice none 0 0)] 31)) (.cells #[] 3)) W2.out.size (.inr (Nat.le_refl _)))
      have HB_3 := Lib.hid (HB_2.out.within (within_alloc ((w.alloc (.cells #[.int .i64 p, (.slice A l.length cap)] 26)).alloc (.cells #[(.slice none 0 0), (.slice none 0 0), (.slice none 0 0)] 31)) (.cells #[] 3)) (by omega))
      have BX_3 := Lib.hid (BX_2.out.within (within_alloc ((w.alloc (.cells #[.int .i64 p, (.slice A l.length cap)] 26)).alloc (.cells #[(.slice none 0 0), (.slice none 0 0), (.slice none 0 0)] 31)) (.cells #[] 3)) (by omega))
      have GR_3 := Lib.hid (GR_2.out.within (within_alloc ((w.alloc (.cells #[.int .i64 p, (.slice A l.length cap)] 26)).alloc (.cells #[(.slice none 0 0), (.slice none 0 0), (.slice none 0 0)] 31)) (.cells #[] 3)) (by omega))
      have Y3 := Lib.hid (show (((w.alloc (.cells #[.int .i64 p, (.slice A l.length cap)] 26)).alloc (.cells #[(.slice none 0 0), (.slice none 0 0), (.slice none 0 0)] 31)).alloc (.cells #[] 3)).heap.size = ((w.alloc (.cells #[.int .i64 p, (.slice A l.length cap)] 26)).alloc (.cells #[(.slice none 0 0), (.slice none 0 0), (.slice none 0 0)] 31)).heap.size + 1 by simp)
      have Z4 := Lib.hid (within_alloc (((w.alloc (.cells #[.int .i64 p, (.slice A l.length cap)] 26)).alloc (.cells #[(.slice none 0 0), (.slice none 0 0), (.slice none 0 0)] 31)).alloc (.cells #[] 3)) (.cells #[] 3)).size
      have W4 := Lib.hid (within_on W3.out (within_alloc (((w.alloc (.cells #[.int .i64 p, (.slice A l.length cap)] 26)).alloc (.cells #[(.slice none 0 0), (.slice none 0 0), (.slice none 0 0)] 31)).alloc (.cells #[] 3)) (.cells #[] 3)) W3.out.size (.inr (Nat.le_refl _)))
      have HB_4 := Lib.hid (HB_3.out.within (within_alloc (((w.alloc (.cells #[.int .i64 p, (.slice A l.length cap)] 26)).alloc (.cells #[(.slice none 0 0), (.slice none 0 0), (.slice none 0 0)] 31)).alloc (.cells #[] 3)) (.cells #[] 3)) (by omega))
      have BX_4 := Lib.hid (BX_3.out.within (within_alloc (((w.alloc (.cells #[.int .i64 p, (.slice A l.length cap)] 26)).alloc (.cells #[(.slice none 0 0), (.slice none 0 0), (.slice none 0 0)] 31)).alloc (.cells #[] 3)) (.cells #[] 3)) (by omega))
      have GR_4 := Lib.hid (GR_3.out.within (within_alloc (((w.alloc (.cells #[.int .i64 p, (.slice A l.length cap)] 26)).alloc (.cells #[(.slice none 0 0), (.slice none 0 0), (.slice none 0 0)] 31)).alloc (.cells #[] 3)) (.cells #[] 3)) (by omega))
      have Y4 := Lib.hid (show ((((w.alloc (.cells #[.int .i64 p, (.slice A l.length cap)] 26)).alloc (.cells #[(.slice none 0 0), (.slice none 0 0), (.slice none 0 0)] 31)).alloc (.cells #[] 3)).alloc (.cells #[] 3)).heap.size = (((w.alloc (.cells #[.int .i64 p, (.slice A l.length cap)] 26)).alloc (.cells #[(.slice none 0 0), (.slice none 0 0), (.slice none 0 0)] 31)).alloc (.cells #[] 3)).heap.size + 1 by simp)
      have Z5 := Lib.hid (within_alloc ((((w.alloc (.cells #[.int .i64 p, (.slice A l.length cap)] 26)).alloc (.cells #[(.slice none 0 0), (.slice none 0 0), (.slice none 0 0)] 31)).alloc (.cells #[] 3)).alloc (.cells #[] 3)) (.cells #[] 3)).size
      have W5 := Lib.hid (within_on W4.out (within_alloc ((((w.alloc (.cells #[.int .i64 p, (.slice A l.length cap)] 26)).alloc (.cells #[(.slice none 0 0), (.slice none 0 0), (.slice none 0 0)] 31)).alloc (.cells #[] 3)).alloc (.cells #[] 3)) (.cells #[] 3)) W4.out.size (.inr (Nat.le_refl _)))
      have HB_5 := Lib.hid (HB_4.out.within (within_alloc ((((w.alloc (.cells #[.int .i64 p, (.slice A l.length cap)] 26)).alloc (.cells #[(.slice none 0 0), (.slice none 0 0), (.slice none 0 0)] 31)).alloc (.cells #[] 3)).alloc (.cells #[] 3)) (.cells #[] 3)) (by omega))
      have BX_5 := Lib.hid (BX_4.out.within (within_alloc ((((w.alloc (.cells #[.int .i64 p, (.slice A l.length cap)] 26)).alloc (.cells #[(.slice none 0 0), (.slice none 0 0), (.slice none 0 0)] 31)).alloc (.cells #[] 3)).alloc (.cells #[] 3)) (.cells #[] 3)) (by omega))
      have GR_5 := Lib.hid (GR_4.out.within (within_alloc ((((w.alloc (.cells #[.int .i64 p, (.slice A l.length cap)] 26)).alloc (.cells #[(.slice none 0 0), (.slice none 0 0), (.slice none 0 0)] 31)).alloc (.cells #[] 3)).alloc (.cells #[] 3)) (.cells #[] 3)) (by omega))
      have Y5 := Lib.hid (show (((((w.alloc (.cells #[.int .i64 p, (.slice A l.length cap)] 26)).alloc (.cells #[(.slice none 0 0), (.slice none 0 0), (.slice none 0 0)] 31)).alloc (.cells #[] 3)).alloc (.cells #[] 3)).alloc (.cells #[] 3)).heap.size = ((((w.alloc (.cells #[.int .i64 p, (.slice A l.length cap)] 26)).alloc (.cells #[(.slice none 0 0), (.slice none 0 0), (.slice none 0 0)] 31)).alloc (.cells #[] 3)).alloc (.cells #[] 3)).heap.size + 1 by simp)
      have Z6 := Lib.hid (within_alloc (((((w.alloc (.cells #[.int .i64 p, (.slice A l.length cap)] 26)).alloc (.cells #[(.slice none 0 0), (.slice none 0 0), (.slice none 0 0)] 31)).alloc (.cells #[] 3)).alloc (.cells #[] 3)).alloc (.cells #[] 3)) (.cells #[(.slice (some ⟨w.heap.size + 1 + 1, 0, none⟩) 0 0), (.slice (some ⟨w.heap.size + 1 + 1 + 1, 0, none⟩) 0 0), (.slice (some ⟨w.heap.size + 1 + 1 + 1 + 1, 0, none⟩) 0 0)] 31)).size
      have W6 := Lib.hid (within_on W5.out (within_alloc (((((w.alloc (.cells #[.int .i64 p, (.slice A l.length cap)] 26)).alloc (.cells #[(.slice none 0 0), (.slice none 0 0), (.slice none 0 0)] 31)).alloc (.cells #[] 3)).alloc (.cells #[] 3)).alloc (.cells #[] 3)) (.cells #[(.slice (some ⟨w.heap.size + 1 + 1, 0, none⟩) 0 0), (.slice (some ⟨w.heap.size + 1 + 1 + 1, 0, none⟩) 0 0), (.slice (some ⟨w.heap.size + 1 + 1 + 1 + 1, 0, none⟩) 0 0)] 31)) W5.out.size (.inr (Nat.le_refl _)))
      have HB_6 := Lib.hid (HB_5.out.within (within_alloc (((((w.alloc (.cells #[.int .i64 p, (.slice A l.length cap)] 26)).alloc (.cells #[(.slice none 0 0), (.slice none 0 0), (.slice none 0 0)] 31)).alloc (.cells #[] 3)).alloc (.cells #[] 3)).alloc (.cells #[] 3)) (.cells #[(.slice (some ⟨w.heap.size + 1 + 1, 0, none⟩) 0 0), (.slice (some ⟨w.heap.size + 1 + 1 + 1, 0, none⟩) 0 0), (.slice (some ⟨w.heap.size + 1 + 1 + 1 + 1, 0, none⟩) 0 0)] 31)) (by omega))
      have BX_6 := Lib.hid (BX_5.out.within (within_alloc (((((w.alloc (.cells #[.int .i64 p, (.slice A l.length cap)] 26)).alloc (.cells #[(.slice none 0 0), (.slice none 0 0), (.slice none 0 0)] 31)).alloc (.cells #[] 3)).alloc (.cells #[] 3)).alloc (.cells #[] 3)) (.cells #[(.slice (some ⟨w.heap.size + 1 + 1, 0, none⟩) 0 0), (.slice (some ⟨w.heap.size + 1 + 1 + 1, 0, none⟩) 0 0), (.slice (some ⟨w.heap.size + 1 + 1 + 1 + 1, 0, none⟩) 0 0)] 31)) (by omega))
      have GR_6 := Lib.hid (GR_5.out.within (within_alloc (((((w.alloc (.cells #[.int .i64 p, (.slice A l.length cap)] 26)).alloc (.cells #[(.slice none 0 0), (.slice none 0 0), (.slice none 0 0)] 31)).alloc (.cells #[] 3)).alloc (.cells #[] 3)).alloc (.cells #[] 3)) (.cells #[(.slice (some ⟨w.heap.size + 1 + 1, 0, none⟩) 0 0), (.slice (some ⟨w.heap.size + 1 + 1 + 1, 0, none⟩) 0 0), (.slice (some ⟨w.heap.size + 1 + 1 + 1 + 1, 0, none⟩) 0 0)] 31)) (by omega))
      have Y6 := Lib.hid (show ((((((w.alloc (.cells #[.int .i64 p, (.slice A l.length cap)] 26)).alloc (.cells #[(.slice none 0 0), (.slice none 0 0), (.slice none 0 0)] 31)).alloc (.cells #[] 3)).alloc (.cells #[] 3)).alloc (.cells #[] 3)).alloc (.cells #[(.slice (some ⟨w.heap.size + 1 + 1, 0, none⟩) 0 0), (.slice (some ⟨w.heap.size + 1 + 1 + 1, 0, none⟩) 0 0), (.slice (some ⟨w.heap.size + 1 + 1 + 1 + 1, 0, none⟩) 0 0)] 31)).heap.size = (((((w.alloc (.cells #[.int .i64 p, (.slice A l.length cap)] 26)).alloc (.cells #[(.slice none 0 0), (.slice none 0 0), (.slice none 0 0)] 31)).alloc (.cells #[] 3)).alloc (.cells #[] 3)).alloc (.cells #[] 3)).heap.size + 1 by simp)
      have hnew := cel3_new (((((w.alloc (.cells #[.int .i64 p, (.slice A l.length cap)] 26)).alloc (.cells #[(.slice none 0 0), (.slice none 0 0), (.slice none 0 0)] 31)).alloc (.cells #[] 3)).alloc (.cells #[] 3)).alloc (.cells #[] 3)) (.slice (some ⟨w.heap.size + 1 + 1, 0, none⟩) 0 0) (.slice (some ⟨w.heap.size + 1 + 1 + 1, 0, none⟩) 0 0) (.slice (some ⟨w.heap.size + 1 + 1 + 1 + 1, 0, none⟩) 0 0) 31
      rw [show (((((w.alloc (.cells #[.int .i64 p, (.slice A l.length cap)] 26)).alloc (.cells #[(.slice none 0 0), (.slice none 0 0), (.slice none 0 0)] 31)).alloc (.cells #[] 3)).alloc (.cells #[] 3)).alloc (.cells #[] 3)).heap.size = w.heap.size + 1 + 1 + 1 + 1 + 1 by simp] at hnew
      have GP_6 := Lib.hid hnew
      clear hnew
      go_enter Try.func37, Try.ntmps37
      obtain ⟨g0_0, g0_1, g0_2⟩ := BX_6.out
      go_wp2_with fail
      clear g0_0 g0_1 g0_2
      generalize ((((((w.alloc (.cells #[.int .i64 p, (.slice A l.length cap)] 26)).alloc (.cells #[(.slice none 0 0), (.slice none 0 0), (.slice none 0 0)] 31)).alloc (.cells #[] 3)).alloc (.cells #[] 3)).alloc (.cells #[] 3)).alloc (.cells #[(.slice (some ⟨w.heap.size + 1 + 1, 0, none⟩) 0 0), (.slice (some ⟨w.heap.size + 1 + 1 + 1, 0, none⟩) 0 0), (.slice (some ⟨w.heap.size + 1 + 1 + 1 + 1, 0, none⟩) 0 0)] 31)) = w6 at *
      generalize (((((w.alloc (.cells #[.int .i64 p, (.slice A l.length cap)] 26)).alloc (.cells #[(.slice none 0 0), (.slice none 0 0), (.slice none 0 0)] 31)).alloc (.cells #[] 3)).alloc (.cells #[] 3)).alloc (.cells #[] 3)) = w5 at *
      generalize ((((w.alloc (.cells #[.int .i64 p, (.slice A l.length cap)] 26)).alloc (.cells #[(.slice none 0 0), (.slice none 0 0), (.slice none 0 0)] 31)).alloc (.cells #[] 3)).alloc (.cells #[] 3)) = w4 at *
      generalize (((w.alloc (.cells #[.int .i64 p, (.slice A l.length cap)] 26)).alloc (.cells #[(.slice none 0 0), (.slice none 0 0), (.slice none 0 0)] 31)).alloc (.cells #[] 3)) = w3 at *
      generalize ((w.alloc (.cells #[.int .i64 p, (.slice A l.length cap)] 26)).alloc (.cells #[(.slice none 0 0), (.slice none 0 0), (.slice none 0 0)] 31)) = w2 at *
      generalize (w.alloc (.cells #[.int .i64 p, (.slice A l.length cap)] 26)) = w1 at *
      refine (HISG _ HB_6.out.at).mono ?_
      rintro e w7 ⟨rfl, hb⟩
      have Z7 := Lib.hid (within_of hb).size
      have W7 := Lib.hid (within_on W6.out (within_of hb) W6.out.size (.inr (Nat.le_refl _)))
      have HB_7 := Lib.hid (HB_6.out.within (within_of hb) (by omega))
      have BX_7 := Lib.hid (BX_6.out.within (within_of hb) (by omega))
      have GR_7 := Lib.hid (GR_6.out.within (within_of hb) (by omega))
      have GP_7 := Lib.hid (GP_6.out.within (within_of hb) (by omega))
      clear hb HISG
      obtain ⟨g1_0, g1_1, g1_2, g1_3, g1_4, g1_5⟩ := GR_7.out.cells
      have Z8 := Lib.hid ((ret3 GR_7.out (.slice none 0 0) (.slice none 0 0) (.slice none 0 0)).2).size
      have W8 := Lib.hid (within_on W7.out ((ret3 GR_7.out (.slice none 0 0) (.slice none 0 0) (.slice none 0 0)).2) W7.out.size (by have := Z1.out; have := Z2.out; have := Z3.out; have := Z4.out; have := Z5.out; have := Z6.out; have := Z7.out; have := Z8.out; have := Y1.out; have := Y2.out; have := Y3.out; have := Y4.out; have := Y5.out; have := Y6.out; omega))
      have HB_8 := Lib.hid (HB_7.out.within ((ret3 GR_7.out (.slice none 0 0) (.slice none 0 0) (.slice none 0 0)).2) (by have := Z1.out; have := Z2.out; have := Z3.out; have := Z4.out; have := Z5.out; have := Z6.out; have := Z7.out; have := Z8.out; have := Y1.out; have := Y2.out; have := Y3.out; have := Y4.out; have := Y5.out; have := Y6.out; omega))
      have BX_8 := Lib.hid (BX_7.out.within ((ret3 GR_7.out (.slice none 0 0) (.slice none 0 0) (.slice none 0 0)).2) (by have := Z1.out; have := Z2.out; have := Z3.out; have := Z4.out; have := Z5.out; have := Z6.out; have := Z7.out; have := Z8.out; have := Y1.out; have := Y2.out; have := Y3.out; have := Y4.out; have := Y5.out; have := Y6.out; omega))
      have GR_8 := Lib.hid ((ret3 GR_7.out (.slice none 0 0) (.slice none 0 0) (.slice none 0 0)).1)
      have GP_8 := Lib.hid (GP_7.out.within ((ret3 GR_7.out (.slice none 0 0) (.slice none 0 0) (.slice none 0 0)).2) (by have := Z1.out; have := Z2.out; have := Z3.out; have := Z4.out; have := Z5.out; have := Z6.out; have := Z7.out; have := Z8.out; have := Y1.out; have := Y2.out; have := Y3.out; have := Y4.out; have := Y5.out; have := Y6.out; omega))
      obtain ⟨g2_0, g2_1, g2_2, g2_3, g2_4, g2_5⟩ := GR_8.out.cells
      go_wp2_with fail
      generalize (((w7.setCell ⟨w.heap.size + 1, 0, none⟩ (.slice none 0 0)).setCell ⟨w.heap.size + 1, 1, none⟩ (.slice none 0 0)).setCell ⟨w.heap.size + 1, 2, none⟩ (.slice none 0 0)) = w8 at *
      refine bodyPost_ret (v := .tuple #[pebV none 0 0 none 0 0 none 0 0, .bool false]) ?_ rfl ?_
      · simp [results, Try.results37, go_sem, g2_0, g2_1, g2_2]
      · rw [HR.out.1, HR.out.2]
        exact ⟨none, 0, none, 0, none, 0, rfl, own3_nil _ _ W8.out.size _ _ _ _ _ _, W8.out⟩
    · skip
      rw [hg] at HISG
      have hk : k < 1 ∨ 3 < k := by simp only [hg] at hbad; simp at hbad; omega
      clear hbad
      have W0 := Lib.hid (Below.refl w.heap.size w)
      have HB_0 := Lib.hid (bars_in hl)
      clear hl
      have Z1 := Lib.hid (within_alloc w (.cells #[.int .i64 p, (.slice A l.length cap)] 26)).size
      have W1 := Lib.hid (within_on W0.out (within_alloc w (.cells #[.int .i64 p, (.slice A l.length cap)] 26)) W0.out.size (.inr (Nat.le_refl _)))
      have HB_1 := Lib.hid (HB_0.out.within (within_alloc w (.cells #[.int .i64 p, (.slice A l.length cap)] 26)) (by omega))
      have Y1 := Lib.hid (show (w.alloc (.cells #[.int .i64 p, (.slice A l.length cap)] 26)).heap.size = w.heap.size + 1 by simp)
      have hnew := box_new w p (.slice A l.length cap) 26
      have BX_1 := Lib.hid hnew
      clear hnew
      have Z2 := Lib.hid (within_alloc (w.alloc (.cells #[.int .i64 p, (.slice A l.length cap)] 26)) (.cells #[(.slice none 0 0), (.slice none 0 0), (.slice none 0 0)] 31)).size
      have W2 := Lib.hid (within_on W1.out (within_alloc (w.alloc (.cells #[.int .i64 p, (.slice A l.length cap)] 26)) (.cells #[(.slice none 0 0), (.slice none 0 0), (.slice none 0 0)] 31)) W1.out.size (.inr (Nat.le_refl _)))
      have HB_2 := Lib.hid (HB_1.out.within (within_alloc (w.alloc (.cells #[.int .i64 p, (.slice A l.length cap)] 26)) (.cells #[(.slice none 0 0), (.slice none 0 0), (.slice none 0 0)] 31)) (by omega))
      have BX_2 := Lib.hid (BX_1.out.within (within_alloc (w.alloc (.cells #[.int .i64 p, (.slice A l.length cap)] 26)) (.cells #[(.slice none 0 0), (.slice none 0 0), (.slice none 0 0)] 31)) (by omega))
      have Y2 := Lib.hid (show ((w.alloc (.cells #[.int .i64 p, (.slice A l.length cap)] 26)).alloc (.cells #[(.slice none 0 0), (.slice none 0 0), (.slice none 0 0)] 31)).heap.size = (w.alloc (.cells #[.int .i64 p, (.slice A l.length cap)] 26)).heap.size + 1 by simp)
      have hnew := cel3_new (w.alloc (.cells #[.int .i64 p, (.slice A l.length cap)] 26)) (.slice none 0 0) (.slice none 0 0) (.slice none 0 0) 31
      rw [show (w.alloc (.cells #[.int .i64 p, (.slice A l.length cap)] 26)).heap.size = w.heap.size + 1 by simp] at hnew
      have GR_2 := Lib.hid hnew
      clear hnew
      have Z3 := Lib.hid (within_alloc ((w.alloc (.cells #[.int .i64 p, (.slice A l.length cap)] 26)).alloc (.cells #[(.slice none 0 0), (.slice none 0 0), (.slice none 0 0)] 31)) (.cells #[] 3)).size
      have W3 := Lib.hid (within_on W2.out (within_alloc ((w.alloc (.cells #[.int .i64 p, (.slice A l.length cap)] 26)).alloc (.cells #[(.slice none 0 0), (.slice none 0 0), (.slice none 0 0)] 31)) (.cells #[] 3)) W2.out.size (.inr (Nat.le_refl _)))
      have HB_3 := Lib.hid (HB_2.out.within (within_alloc ((w.alloc (.cells #[.int .i64 p, (.slice A l.length cap)] 26)).alloc (.cells #[(.slice none 0 0), (.slice none 0 0), (.slice none 0 0)] 31)) (.cells #[] 3)) (by omega))
      have BX_3 := Lib.hid (BX_2.out.within (within_alloc ((w.alloc (.cells #[.int .i64 p, (.slice A l.length cap)] 26)).alloc (.cells #[(.slice none 0 0), (.slice none 0 0), (.slice none 0 0)] 31)) (.cells #[] 3)) (by omega))
      have GR_3 := Lib.hid (GR_2.out.within (within_alloc ((w.alloc (.cells #[.int .i64 p, (.slice A l.length cap)] 26)).alloc (.cells #[(.slice none 0 0), (.slice none 0 0), (.slice none 0 0)] 31)) (.cells #[] 3)) (by omega))
      have Y3 := Lib.hid (show (((w.alloc (.cells #[.int .i64 p, (.slice A l.length cap)] 26)).alloc (.cells #[(.slice none 0 0), (.slice none 0 0), (.slice none 0 0)] 31)).alloc (.cells #[] 3)).heap.size = ((w.alloc (.cells #[.int .i64 p, (.slice A l.length cap)] 26)).alloc (.cells #[(.slice none 0 0), (.slice none 0 0), (.slice none 0 0)] 31)).heap.size + 1 by simp)
      have Z4 := Lib.hid (within_alloc (((w.alloc (.cells #[.int .i64 p, (.slice A l.length cap)] 26)).alloc (.cells #[(.slice none 0 0), (.slice none 0 0), (.slice none 0 0)] 31)).alloc (.cells #[] 3)) (.cells #[] 3)).size
      have W4 := Lib.hid (within_on W3.out (within_alloc (((w.alloc (.cells #[.int .i64 p, (.slice A l.length cap)] 26)).alloc (.cells #[(.slice none 0 0), (.slice none 0 0), (.slice none 0 0)] 31)).alloc (.cells #[] 3)) (.cells #[] 3)) W3.out.size (.inr (Nat.le_refl _)))
      have HB_4 := Lib.hid (HB_3.out.within (within_alloc (((w.alloc (.cells #[.int .i64 p, (.slice A l.length cap)] 26)).alloc (.cells #[(.slice none 0 0), (.slice none 0 0), (.slice none 0 0)] 31)).alloc (.cells #[] 3)) (.cells #[] 3)) (by omega))
      have BX_4 := Lib.hid (BX_3.out.within (within_alloc (((w.alloc (.cells #[.int .i64 p, (.slice A l.length cap)] 26)).alloc (.cells #[(.slice none 0 0), (.slice none 0 0), (.slice none 0 0)] 31)).alloc (.cells #[] 3)) (.cells #[] 3)) (by omega))
      have GR_4 := Lib.hid (GR_3.out.within (within_alloc (((w.alloc (.cells #[.int .i64 p, (.slice A l.length cap)] 26)).alloc (.cells #[(.slice none 0 0), (.slice none 0 0), (.slice none 0 0)] 31)).alloc (.cells #[] 3)) (.cells #[] 3)) (by omega))
      have Y4 := Lib.hid (show ((((w.alloc (.cells #[.int .i64 p, (.slice A l.length cap)] 26)).alloc (.cells #[(.slice none 0 0), (.slice none 0 0), (.slice none 0 0)] 31)).alloc (.cells #[] 3)).alloc (.cells #[] 3)).heap.size = (((w.alloc (.cells #[.int .i64 p, (.slice A l.length cap)] 26)).alloc (.cells #[(.slice none 0 0), (.slice none 0 0), (.slice none 0 0)] 31)).alloc (.cells #[] 3)).heap.size + 1 by simp)
      have Z5 := Lib.hid (within_alloc ((((w.alloc (.cells #[.int .i64 p, (.slice A l.length cap)] 26)).alloc (.cells #[(.slice none 0 0), (.slice none 0 0), (.slice none 0 0)] 31)).alloc (.cells #[] 3)).alloc (.cells #[] 3)) (.cells #[] 3)).size
      have W5 := Lib.hid (within_on W4.out (within_alloc ((((w.alloc (.cells #[.int .i64 p, (.slice A l.length cap)] 26)).alloc (.cells #[(.slice none 0 0), (.slice none 0 0), (.slice none 0 0)] 31)).alloc (.cells #[] 3)).alloc (.cells #[] 3)) (.cells #[] 3)) W4.out.size (.inr (Nat.le_refl _)))
      have HB_5 := Lib.hid (HB_4.out.within (within_alloc ((((w.alloc (.cells #[.int .i64 p, (.slice A l.length cap)] 26)).alloc (.cells #[(.slice none 0 0), (.slice none 0 0), (.slice none 0 0)] 31)).alloc (.cells #[] 3)).alloc (.cells #[] 3)) (.cells #[] 3)) (by omega))
      have BX_5 := Lib.hid (BX_4.out.within (within_alloc ((((w.alloc (.cells #[.int .i64 p, (.slice A l.length cap)] 26)).alloc (.cells #[(.slice none 0 0), (.slice none 0 0), (.slice none 0 0)] 31)).alloc (.cells #[] 3)).alloc (.cells #[] 3)) (.cells #[] 3)) (by omega))
      have GR_5 := Lib.hid (GR_4.out.within (within_alloc ((((w.alloc (.cells #[.int .i64 p, (.slice A l.length cap)] 26)).alloc (.cells #[(.slice none 0 0), (.slice none 0 0), (.slice none 0 0)] 31)).alloc (.cells #[] 3)).alloc (.cells #[] 3)) (.cells #[] 3)) (by omega))
      have Y5 := Lib.hid (show (((((w.alloc (.cells #[.int .i64 p, (.slice A l.length cap)] 26)).alloc (.cells #[(.slice none 0 0), (.slice none 0 0), (.slice none 0 0)] 31)).alloc (.cells #[] 3)).alloc (.cells #[] 3)).alloc (.cells #[] 3)).heap.size = ((((w.alloc (.cells #[.int .i64 p, (.slice A l.length cap)] 26)).alloc (.cells #[(.slice none 0 0), (.slice none 0 0), (.slice none 0 0)] 31)).alloc (.cells #[] 3)).alloc (.cells #[] 3)).heap.size + 1 by simp)
      have Z6 := Lib.hid (within_alloc (((((w.alloc (.cells #[.int .i64 p, (.slice A l.length cap)] 26)).alloc (.cells #[(.slice none 0 0), (.slice none 0 0), (.slice none 0 0)] 31)).alloc (.cells #[] 3)).alloc (.cells #[] 3)).alloc (.cells #[] 3)) (.cells #[(.slice (some ⟨w.heap.size + 1 + 1, 0, none⟩) 0 0), (.slice (some ⟨w.heap.size + 1 + 1 + 1, 0, none⟩) 0 0), (.slice (some ⟨w.heap.size + 1 + 1 + 1 + 1, 0, none⟩) 0 0)] 31)).size
      have W6 := Lib.hid (within_on W5.out (within_alloc (((((w.alloc (.cells #[.int .i64 p, (.slice A l.length cap)] 26)).alloc (.cells #[(.slice none 0 0), (.slice none 0 0), (.slice none 0 0)] 31)).alloc (.cells #[] 3)).alloc (.cells #[] 3)).alloc (.cells #[] 3)) (.cells #[(.slice (some ⟨w.heap.size + 1 + 1, 0, none⟩) 0 0), (.slice (some ⟨w.heap.size + 1 + 1 + 1, 0, none⟩) 0 0), (.slice (some ⟨w.heap.size + 1 + 1 + 1 + 1, 0, none⟩) 0 0)] 31)) W5.out.size (.inr (Nat.le_refl _)))
      have HB_6 := Lib.hid (HB_5.out.within (within_alloc (((((w.alloc (.cells #[.int .i64 p, (.slice A l.length cap)] 26)).alloc (.cells #[(.slice none 0 0), (.slice none 0 0), (.slice none 0 0)] 31)).alloc (.cells #[] 3)).alloc (.cells #[] 3)).alloc (.cells #[] 3)) (.cells #[(.slice (some ⟨w.heap.size + 1 + 1, 0, none⟩) 0 0), (.slice (some ⟨w.heap.size + 1 + 1 + 1, 0, none⟩) 0 0), (.slice (some ⟨w.heap.size + 1 + 1 + 1 + 1, 0, none⟩) 0 0)] 31)) (by omega))
      have BX_6 := Lib.hid (BX_5.out.within (within_alloc (((((w.alloc (.cells #[.int .i64 p, (.slice A l.length cap)] 26)).alloc (.cells #[(.slice none 0 0), (.slice none 0 0), (.slice none 0 0)] 31)).alloc (.cells #[] 3)).alloc (.cells #[] 3)).alloc (.cells #[] 3)) (.cells #[(.slice (some ⟨w.heap.size + 1 + 1, 0, none⟩) 0 0), (.slice (some ⟨w.heap.size + 1 + 1 + 1, 0, none⟩) 0 0), (.slice (some ⟨w.heap.size + 1 + 1 + 1 + 1, 0, none⟩) 0 0)] 31)) (by omega))
      have GR_6 := Lib.hid (GR_5.out.within (within_alloc (((((w.alloc (.cells #[.int .i64 p, (.slice A l.length cap)] 26)).alloc (.cells #[(.slice none 0 0), (.slice none 0 0), (.slice none 0 0)] 31)).alloc (.cells #[] 3)).alloc (.cells #[] 3)).alloc (.cells #[] 3)) (.cells #[(.slice (some ⟨w.heap.size + 1 + 1, 0, none⟩) 0 0), (.slice (some ⟨w.heap.size + 1 + 1 + 1, 0, none⟩) 0 0), (.slice (some ⟨w.heap.size + 1 + 1 + 1 + 1, 0, none⟩) 0 0)] 31)) (by omega))
      have Y6 := Lib.hid (show ((((((w.alloc (.cells #[.int .i64 p, (.slice A l.length cap)] 26)).alloc (.cells #[(.slice none 0 0), (.slice none 0 0), (.slice none 0 0)] 31)).alloc (.cells #[] 3)).alloc (.cells #[] 3)).alloc (.cells #[] 3)).alloc (.cells #[(.slice (some ⟨w.heap.size + 1 + 1, 0, none⟩) 0 0), (.slice (some ⟨w.heap.size + 1 + 1 + 1, 0, none⟩) 0 0), (.slice (some ⟨w.heap.size + 1 + 1 + 1 + 1, 0, none⟩) 0 0)] 31)).heap.size = (((((w.alloc (.cells #[.int .i64 p, (.slice A l.length cap)] 26)).alloc (.cells #[(.slice none 0 0), (.slice none 0 0), (.slice none 0 0)] 31)).alloc (.cells #[] 3)).alloc (.cells #[] 3)).alloc (.cells #[] 3)).heap.size + 1 by simp)
      have hnew := cel3_new (((((w.alloc (.cells #[.int .i64 p, (.slice A l.length cap)] 26)).alloc (.cells #[(.slice none 0 0), (.slice none 0 0), (.slice none 0 0)] 31)).alloc (.cells #[] 3)).alloc (.cells #[] 3)).alloc (.cells #[] 3)) (.slice (some ⟨w.heap.size + 1 + 1, 0, none⟩) 0 0) (.slice (some ⟨w.heap.size + 1 + 1 + 1, 0, none⟩) 0 0) (.slice (some ⟨w.heap.size + 1 + 1 + 1 + 1, 0, none⟩) 0 0) 31
      rw [show (((((w.alloc (.cells #[.int .i64 p, (.slice A l.length cap)] 26)).alloc (.cells #[(.slice none 0 0), (.slice none 0 0), (.slice none 0 0)] 31)).alloc (.cells #[] 3)).alloc (.cells #[] 3)).alloc (.cells #[] 3)).heap.size = w.heap.size + 1 + 1 + 1 + 1 + 1 by simp] at hnew
      have GP_6 := Lib.hid hnew
      clear hnew
      go_enter Try.func37, Try.ntmps37
      obtain ⟨g0_0, g0_1, g0_2⟩ := BX_6.out
      go_wp2_with fail
      clear g0_0 g0_1 g0_2
      generalize ((((((w.alloc (.cells #[.int .i64 p, (.slice A l.length cap)] 26)).alloc (.cells #[(.slice none 0 0), (.slice none 0 0), (.slice none 0 0)] 31)).alloc (.cells #[] 3)).alloc (.cells #[] 3)).alloc (.cells #[] 3)).alloc (.cells #[(.slice (some ⟨w.heap.size + 1 + 1, 0, none⟩) 0 0), (.slice (some ⟨w.heap.size + 1 + 1 + 1, 0, none⟩) 0 0), (.slice (some ⟨w.heap.size + 1 + 1 + 1 + 1, 0, none⟩) 0 0)] 31)) = w6 at *
      generalize (((((w.alloc (.cells #[.int .i64 p, (.slice A l.length cap)] 26)).alloc (.cells #[(.slice none 0 0), (.slice none 0 0), (.slice none 0 0)] 31)).alloc (.cells #[] 3)).alloc (.cells #[] 3)).alloc (.cells #[] 3)) = w5 at *
      generalize ((((w.alloc (.cells #[.int .i64 p, (.slice A l.length cap)] 26)).alloc (.cells #[(.slice none 0 0), (.slice none 0 0), (.slice none 0 0)] 31)).alloc (.cells #[] 3)).alloc (.cells #[] 3)) = w4 at *
      generalize (((w.alloc (.cells #[.int .i64 p, (.slice A l.length cap)] 26)).alloc (.cells #[(.slice none 0 0), (.slice none 0 0), (.slice none 0 0)] 31)).alloc (.cells #[] 3)) = w3 at *
      generalize ((w.alloc (.cells #[.int .i64 p, (.slice A l.length cap)] 26)).alloc (.cells #[(.slice none 0 0), (.slice none 0 0), (.slice none 0 0)] 31)) = w2 at *
      generalize (w.alloc (.cells #[.int .i64 p, (.slice A l.length cap)] 26)) = w1 at *
      refine (HISG _ HB_6.out.at).mono ?_
      rintro e w7 ⟨rfl, hb⟩
      have Z7 := Lib.hid (within_of hb).size
      have W7 := Lib.hid (within_on W6.out (within_of hb) W6.out.size (.inr (Nat.le_refl _)))
      have HB_7 := Lib.hid (HB_6.out.within (within_of hb) (by omega))
      have BX_7 := Lib.hid (BX_6.out.within (within_of hb) (by omega))
      have GR_7 := Lib.hid (GR_6.out.within (within_of hb) (by omega))
      have GP_7 := Lib.hid (GP_6.out.within (within_of hb) (by omega))
      clear hb HISG
      go_wp2_with fail
      refine (l1In_no k 1 3 _ hk).mono ?_
      rintro e w9 ⟨rfl, rfl⟩
      obtain ⟨g1_0, g1_1, g1_2, g1_3, g1_4, g1_5⟩ := GR_7.out.cells
      have Z8 := Lib.hid ((ret3 GR_7.out (.slice none 0 0) (.slice none 0 0) (.slice none 0 0)).2).size
      have W8 := Lib.hid (within_on W7.out ((ret3 GR_7.out (.slice none 0 0) (.slice none 0 0) (.slice none 0 0)).2) W7.out.size (by have := Z1.out; have := Z2.out; have := Z3.out; have := Z4.out; have := Z5.out; have := Z6.out; have := Z7.out; have := Z8.out; have := Y1.out; have := Y2.out; have := Y3.out; have := Y4.out; have := Y5.out; have := Y6.out; omega))
      have HB_8 := Lib.hid (HB_7.out.within ((ret3 GR_7.out (.slice none 0 0) (.slice none 0 0) (.slice none 0 0)).2) (by have := Z1.out; have := Z2.out; have := Z3.out; have := Z4.out; have := Z5.out; have := Z6.out; have := Z7.out; have := Z8.out; have := Y1.out; have := Y2.out; have := Y3.out; have := Y4.out; have := Y5.out; have := Y6.out; omega))
      have BX_8 := Lib.hid (BX_7.out.within ((ret3 GR_7.out (.slice none 0 0) (.slice none 0 0) (.slice none 0 0)).2) (by have := Z1.out; have := Z2.out; have := Z3.out; have := Z4.out; have := Z5.out; have := Z6.out; have := Z7.out; have := Z8.out; have := Y1.out; have := Y2.out; have := Y3.out; have := Y4.out; have := Y5.out; have := Y6.out; omega))
      have GR_8 := Lib.hid ((ret3 GR_7.out (.slice none 0 0) (.slice none 0 0) (.slice none 0 0)).1)
      have GP_8 := Lib.hid (GP_7.out.within ((ret3 GR_7.out (.slice none 0 0) (.slice none 0 0) (.slice none 0 0)).2) (by have := Z1.out; have := Z2.out; have := Z3.out; have := Z4.out; have := Z5.out; have := Z6.out; have := Z7.out; have := Z8.out; have := Y1.out; have := Y2.out; have := Y3.out; have := Y4.out; have := Y5.out; have := Y6.out; omega))
      obtain ⟨g2_0, g2_1, g2_2, g2_3, g2_4, g2_5⟩ := GR_8.out.cells
      go_wp2_with fail
      generalize (((w7.setCell ⟨w.heap.size + 1, 0, none⟩ (.slice none 0 0)).setCell ⟨w.heap.size + 1, 1, none⟩ (.slice none 0 0)).setCell ⟨w.heap.size + 1, 2, none⟩ (.slice none 0 0)) = w8 at *
      refine bodyPost_ret (v := .tuple #[pebV none 0 0 none 0 0 none 0 0, .bool false]) ?_ rfl ?_
      · simp [results, Try.results37, go_sem, g2_0, g2_1, g2_2]
      · rw [HR.out.1, HR.out.2]
        exact ⟨none, 0, none, 0, none, 0, rfl, own3_nil _ _ W8.out.size _ _ _ _ _ _, W8.out⟩
  · skip
    have hg : isGB p l = true := by
      cases h : isGB p l with
      | true => rfl
      | false => exact absurd (.inl h) hbad
    have hG : IsG p l := Classical.byContradiction fun g => by rw [isGB_no g] at hg; cases hg
    obtain ⟨P, rfl⟩ : ∃ P : Nat, p = (P : Int) := ⟨p.toNat, by have := hG.1; omega⟩
    have hP : 1 ≤ P ∧ P ≤ 8 := by have := hG.1; omega
    have hk1 : ¬ k < 1 := by omega
    have hk2 : ¬ 3 < k := by omega
    have HR := Lib.hid (new_yes (l := l) hg (by omega : 1 ≤ k) (by omega))
    rw [hg] at HISG
    clear hbad hG hg
    have W0 := Lib.hid (Below.refl w.heap.size w)
    have HB_0 := Lib.hid (bars_in hl)
    clear hl
    have Z1 := Lib.hid (within_alloc w (.cells #[.int .i64 (P : Int), (.slice A l.length cap)] 26)).size
    have W1 := Lib.hid (within_on W0.out (within_alloc w (.cells #[.int .i64 (P : Int), (.slice A l.length cap)] 26)) W0.out.size (.inr (Nat.le_refl _)))
    have HB_1 := Lib.hid (HB_0.out.within (within_alloc w (.cells #[.int .i64 (P : Int), (.slice A l.length cap)] 26)) (by omega))
    have Y1 := Lib.hid (show (w.alloc (.cells #[.int .i64 (P : Int), (.slice A l.length cap)] 26)).heap.size = w.heap.size + 1 by simp)
    have hnew := box_new w (P : Int) (.slice A l.length cap) 26
    have BX_1 := Lib.hid hnew
    clear hnew
    have Z2 := Lib.hid (within_alloc (w.alloc (.cells #[.int .i64 (P : Int), (.slice A l.length cap)] 26)) (.cells #[(.slice none 0 0), (.slice none 0 0), (.slice none 0 0)] 31)).size
    have W2 := Lib.hid (within_on W1.out (within_alloc (w.alloc (.cells #[.int .i64 (P : Int), (.slice A l.length cap)] 26)) (.cells #[(.slice none 0 0), (.slice none 0 0), (.slice none 0 0)] 31)) W1.out.size (.inr (Nat.le_refl _)))
    have HB_2 := Lib.hid (HB_1.out.within (within_alloc (w.alloc (.cells #[.int .i64 (P : Int), (.slice A l.length cap)] 26)) (.cells #[(.slice none 0 0), (.slice none 0 0), (.slice none 0 0)] 31)) (by omega))
    have BX_2 := Lib.hid (BX_1.out.within (within_alloc (w.alloc (.cells #[.int .i64 (P : Int), (.slice A l.length cap)] 26)) (.cells #[(.slice none 0 0), (.slice none 0 0), (.slice none 0 0)] 31)) (by omega))
    have Y2 := Lib.hid (show ((w.alloc (.cells #[.int .i64 (P : Int), (.slice A l.length cap)] 26)).alloc (.cells #[(.slice none 0 0), (.slice none 0 0), (.slice none 0 0)] 31)).heap.size = (w.alloc (.cells #[.int .i64 (P : Int), (.slice A l.length cap)] 26)).heap.size + 1 by simp)
    have hnew := cel3_new (w.alloc (.cells #[.int .i64 (P : Int), (.slice A l.length cap)] 26)) (.slice none 0 0) (.slice none 0 0) (.slice none 0 0) 31
    rw [show (w.alloc (.cells #[.int .i64 (P : Int), (.slice A l.length cap)] 26)).heap.size = w.heap.size + 1 by simp] at hnew
    have GR_2 := Lib.hid hnew
    clear hnew
    have Z3 := Lib.hid (within_alloc ((w.alloc (.cells #[.int .i64 (P : Int), (.slice A l.length cap)] 26)).alloc (.cells #[(.slice none 0 0), (.slice none 0 0), (.slice none 0 0)] 31)) (.cells #[] 3)).size
    have W3 := Lib.hid (within_on W2.out (within_alloc ((w.alloc (.cells #[.int .i64 (P : Int), (.slice A l.length cap)] 26)).alloc (.cells #[(.slice none 0 0), (.slice none 0 0), (.slice none 0 0)] 31)) (.cells #[] 3)) W2.out.size (.inr (Nat.le_refl _)))
    have HB_3 := Lib.hid (HB_2.out.within (within_alloc ((w.alloc (.cells #[.int .i64 (P : Int), (.slice A l.length cap)] 26)).alloc (.cells #[(.slice none 0 0), (.slice none 0 0), (.slice none 0 0)] 31)) (.cells #[] 3)) (by omega))
    have BX_3 := Lib.hid (BX_2.out.within (within_alloc ((w.alloc (.cells #[.int .i64 (P : Int), (.slice A l.length cap)] 26)).alloc (.cells #[(.slice none 0 0), (.slice none 0 0), (.slice none 0 0)] 31)) (.cells #[] 3)) (by omega))
    have GR_3 := Lib.hid (GR_2.out.within (within_alloc ((w.alloc (.cells #[.int .i64 (P : Int), (.slice A l.length cap)] 26)).alloc (.cells #[(.slice none 0 0), (.slice none 0 0), (.slice none 0 0)] 31)) (.cells #[] 3)) (by omega))
    have Y3 := Lib.hid (show (((w.alloc (.cells #[.int .i64 (P : Int), (.slice A l.length cap)] 26)).alloc (.cells #[(.slice none 0 0), (.slice none 0 0), (.slice none 0 0)] 31)).alloc (.cells #[] 3)).heap.size = ((w.alloc (.cells #[.int .i64 (P : Int), (.slice A l.length cap)] 26)).alloc (.cells #[(.slice none 0 0), (.slice none 0 0), (.slice none 0 0)] 31)).heap.size + 1 by simp)
    have hown := World.ownsRow_made (base := w.heap.size) (e := 3) (size := 1) ((w.alloc (.cells #[.int .i64 (P : Int), (.slice A l.length cap)] 26)).alloc (.cells #[(.slice none 0 0), (.slice none 0 0), (.slice none 0 0)] 31)) #[] 0 (by simp; omega) (by unfold maxLen; omega) (by simp)
    rw [show ((w.alloc (.cells #[.int .i64 (P : Int), (.slice A l.length cap)] 26)).alloc (.cells #[(.slice none 0 0), (.slice none 0 0), (.slice none 0 0)] 31)).heap.size = w.heap.size + 1 + 1 by simp] at hown
    have OF_3 := Lib.hid (Own0.mk hown)
    clear hown
    have Z4 := Lib.hid (within_alloc (((w.alloc (.cells #[.int .i64 (P : Int), (.slice A l.length cap)] 26)).alloc (.cells #[(.slice none 0 0), (.slice none 0 0), (.slice none 0 0)] 31)).alloc (.cells #[] 3)) (.cells #[] 3)).size
    have W4 := Lib.hid (within_on W3.out (within_alloc (((w.alloc (.cells #[.int .i64 (P : Int), (.slice A l.length cap)] 26)).alloc (.cells #[(.slice none 0 0), (.slice none 0 0), (.slice none 0 0)] 31)).alloc (.cells #[] 3)) (.cells #[] 3)) W3.out.size (.inr (Nat.le_refl _)))
    have HB_4 := Lib.hid (HB_3.out.within (within_alloc (((w.alloc (.cells #[.int .i64 (P : Int), (.slice A l.length cap)] 26)).alloc (.cells #[(.slice none 0 0), (.slice none 0 0), (.slice none 0 0)] 31)).alloc (.cells #[] 3)) (.cells #[] 3)) (by omega))
    have BX_4 := Lib.hid (BX_3.out.within (within_alloc (((w.alloc (.cells #[.int .i64 (P : Int), (.slice A l.length cap)] 26)).alloc (.cells #[(.slice none 0 0), (.slice none 0 0), (.slice none 0 0)] 31)).alloc (.cells #[] 3)) (.cells #[] 3)) (by omega))
    have GR_4 := Lib.hid (GR_3.out.within (within_alloc (((w.alloc (.cells #[.int .i64 (P : Int), (.slice A l.length cap)] 26)).alloc (.cells #[(.slice none 0 0), (.slice none 0 0), (.slice none 0 0)] 31)).alloc (.cells #[] 3)) (.cells #[] 3)) (by omega))
    have OF_4 := Lib.hid (OF_3.out.within (within_alloc (((w.alloc (.cells #[.int .i64 (P : Int), (.slice A l.length cap)] 26)).alloc (.cells #[(.slice none 0 0), (.slice none 0 0), (.slice none 0 0)] 31)).alloc (.cells #[] 3)) (.cells #[] 3)) (by omega))
    have Y4 := Lib.hid (show ((((w.alloc (.cells #[.int .i64 (P : Int), (.slice A l.length cap)] 26)).alloc (.cells #[(.slice none 0 0), (.slice none 0 0), (.slice none 0 0)] 31)).alloc (.cells #[] 3)).alloc (.cells #[] 3)).heap.size = (((w.alloc (.cells #[.int .i64 (P : Int), (.slice A l.length cap)] 26)).alloc (.cells #[(.slice none 0 0), (.slice none 0 0), (.slice none 0 0)] 31)).alloc (.cells #[] 3)).heap.size + 1 by simp)
    have Z5 := Lib.hid (within_alloc ((((w.alloc (.cells #[.int .i64 (P : Int), (.slice A l.length cap)] 26)).alloc (.cells #[(.slice none 0 0), (.slice none 0 0), (.slice none 0 0)] 31)).alloc (.cells #[] 3)).alloc (.cells #[] 3)) (.cells #[] 3)).size
    have W5 := Lib.hid (within_on W4.out (within_alloc ((((w.alloc (.cells #[.int .i64 (P : Int), (.slice A l.length cap)] 26)).alloc (.cells #[(.slice none 0 0), (.slice none 0 0), (.slice none 0 0)] 31)).alloc (.cells #[] 3)).alloc (.cells #[] 3)) (.cells #[] 3)) W4.out.size (.inr (Nat.le_refl _)))
    have HB_5 := Lib.hid (HB_4.out.within (within_alloc ((((w.alloc (.cells #[.int .i64 (P : Int), (.slice A l.length cap)] 26)).alloc (.cells #[(.slice none 0 0), (.slice none 0 0), (.slice none 0 0)] 31)).alloc (.cells #[] 3)).alloc (.cells #[] 3)) (.cells #[] 3)) (by omega))
    have BX_5 := Lib.hid (BX_4.out.within (within_alloc ((((w.alloc (.cells #[.int .i64 (P : Int), (.slice A l.length cap)] 26)).alloc (.cells #[(.slice none 0 0), (.slice none 0 0), (.slice none 0 0)] 31)).alloc (.cells #[] 3)).alloc (.cells #[] 3)) (.cells #[] 3)) (by omega))
    have GR_5 := Lib.hid (GR_4.out.within (within_alloc ((((w.alloc (.cells #[.int .i64 (P : Int), (.slice A l.length cap)] 26)).alloc (.cells #[(.slice none 0 0), (.slice none 0 0), (.slice none 0 0)] 31)).alloc (.cells #[] 3)).alloc (.cells #[] 3)) (.cells #[] 3)) (by omega))
    have OF_5 := Lib.hid (OF_4.out.within (within_alloc ((((w.alloc (.cells #[.int .i64 (P : Int), (.slice A l.length cap)] 26)).alloc (.cells #[(.slice none 0 0), (.slice none 0 0), (.slice none 0 0)] 31)).alloc (.cells #[] 3)).alloc (.cells #[] 3)) (.cells #[] 3)) (by omega))
    have Y5 := Lib.hid (show (((((w.alloc (.cells #[.int .i64 (P : Int), (.slice A l.length cap)] 26)).alloc (.cells #[(.slice none 0 0), (.slice none 0 0), (.slice none 0 0)] 31)).alloc (.cells #[] 3)).alloc (.cells #[] 3)).alloc (.cells #[] 3)).heap.size = ((((w.alloc (.cells #[.int .i64 (P : Int), (.slice A l.length cap)] 26)).alloc (.cells #[(.slice none 0 0), (.slice none 0 0), (.slice none 0 0)] 31)).alloc (.cells #[] 3)).alloc (.cells #[] 3)).heap.size + 1 by simp)
    have Z6 := Lib.hid (within_alloc (((((w.alloc (.cells #[.int .i64 (P : Int), (.slice A l.length cap)] 26)).alloc (.cells #[(.slice none 0 0), (.slice none 0 0), (.slice none 0 0)] 31)).alloc (.cells #[] 3)).alloc (.cells #[] 3)).alloc (.cells #[] 3)) (.cells #[(.slice (some ⟨w.heap.size + 1 + 1, 0, none⟩) 0 0), (.slice (some ⟨w.heap.size + 1 + 1 + 1, 0, none⟩) 0 0), (.slice (some ⟨w.heap.size + 1 + 1 + 1 + 1, 0, none⟩) 0 0)] 31)).size
    have W6 := Lib.hid (within_on W5.out (within_alloc (((((w.alloc (.cells #[.int .i64 (P : Int), (.slice A l.length cap)] 26)).alloc (.cells #[(.slice none 0 0), (.slice none 0 0), (.slice none 0 0)] 31)).alloc (.cells #[] 3)).alloc (.cells #[] 3)).alloc (.cells #[] 3)) (.cells #[(.slice (some ⟨w.heap.size + 1 + 1, 0, none⟩) 0 0), (.slice (some ⟨w.heap.size + 1 + 1 + 1, 0, none⟩) 0 0), (.slice (some ⟨w.heap.size + 1 + 1 + 1 + 1, 0, none⟩) 0 0)] 31)) W5.out.size (.inr (Nat.le_refl _)))
    have HB_6 := Lib.hid (HB_5.out.within (within_alloc (((((w.alloc (.cells #[.int .i64 (P : Int), (.slice A l.length cap)] 26)).alloc (.cells #[(.slice none 0 0), (.slice none 0 0), (.slice none 0 0)] 31)).alloc (.cells #[] 3)).alloc (.cells #[] 3)).alloc (.cells #[] 3)) (.cells #[(.slice (some ⟨w.heap.size + 1 + 1, 0, none⟩) 0 0), (.slice (some ⟨w.heap.size + 1 + 1 + 1, 0, none⟩) 0 0), (.slice (some ⟨w.heap.size + 1 + 1 + 1 + 1, 0, none⟩) 0 0)] 31)) (by omega))
    have BX_6 := Lib.hid (BX_5.out.within (within_alloc (((((w.alloc (.cells #[.int .i64 (P : Int), (.slice A l.length cap)] 26)).alloc (.cells #[(.slice none 0 0), (.slice none 0 0), (.slice none 0 0)] 31)).alloc (.cells #[] 3)).alloc (.cells #[] 3)).alloc (.cells #[] 3)) (.cells #[(.slice (some ⟨w.heap.size + 1 + 1, 0, none⟩) 0 0), (.slice (some ⟨w.heap.size + 1 + 1 + 1, 0, none⟩) 0 0), (.slice (some ⟨w.heap.size + 1 + 1 + 1 + 1, 0, none⟩) 0 0)] 31)) (by omega))
    have GR_6 := Lib.hid (GR_5.out.within (within_alloc (((((w.alloc (.cells #[.int .i64 (P : Int), (.slice A l.length cap)] 26)).alloc (.cells #[(.slice none 0 0), (.slice none 0 0), (.slice none 0 0)] 31)).alloc (.cells #[] 3)).alloc (.cells #[] 3)).alloc (.cells #[] 3)) (.cells #[(.slice (some ⟨w.heap.size + 1 + 1, 0, none⟩) 0 0), (.slice (some ⟨w.heap.size + 1 + 1 + 1, 0, none⟩) 0 0), (.slice (some ⟨w.heap.size + 1 + 1 + 1 + 1, 0, none⟩) 0 0)] 31)) (by omega))
    have OF_6 := Lib.hid (OF_5.out.within (within_alloc (((((w.alloc (.cells #[.int .i64 (P : Int), (.slice A l.length cap)] 26)).alloc (.cells #[(.slice none 0 0), (.slice none 0 0), (.slice none 0 0)] 31)).alloc (.cells #[] 3)).alloc (.cells #[] 3)).alloc (.cells #[] 3)) (.cells #[(.slice (some ⟨w.heap.size + 1 + 1, 0, none⟩) 0 0), (.slice (some ⟨w.heap.size + 1 + 1 + 1, 0, none⟩) 0 0), (.slice (some ⟨w.heap.size + 1 + 1 + 1 + 1, 0, none⟩) 0 0)] 31)) (by omega))
    have Y6 := Lib.hid (show ((((((w.alloc (.cells #[.int .i64 (P : Int), (.slice A l.length cap)] 26)).alloc (.cells #[(.slice none 0 0), (.slice none 0 0), (.slice none 0 0)] 31)).alloc (.cells #[] 3)).alloc (.cells #[] 3)).alloc (.cells #[] 3)).alloc (.cells #[(.slice (some ⟨w.heap.size + 1 + 1, 0, none⟩) 0 0), (.slice (some ⟨w.heap.size + 1 + 1 + 1, 0, none⟩) 0 0), (.slice (some ⟨w.heap.size + 1 + 1 + 1 + 1, 0, none⟩) 0 0)] 31)).heap.size = (((((w.alloc (.cells #[.int .i64 (P : Int), (.slice A l.length cap)] 26)).alloc (.cells #[(.slice none 0 0), (.slice none 0 0), (.slice none 0 0)] 31)).alloc (.cells #[] 3)).alloc (.cells #[] 3)).alloc (.cells #[] 3)).heap.size + 1 by simp)
    have hnew := cel3_new (((((w.alloc (.cells #[.int .i64 (P : Int), (.slice A l.length cap)] 26)).alloc (.cells #[(.slice none 0 0), (.slice none 0 0), (.slice none 0 0)] 31)).alloc (.cells #[] 3)).alloc (.cells #[] 3)).alloc (.cells #[] 3)) (.slice (some ⟨w.heap.size + 1 + 1, 0, none⟩) 0 0) (.slice (some ⟨w.heap.size + 1 + 1 + 1, 0, none⟩) 0 0) (.slice (some ⟨w.heap.size + 1 + 1 + 1 + 1, 0, none⟩) 0 0) 31
    rw [show (((((w.alloc (.cells #[.int .i64 (P : Int), (.slice A l.length cap)] 26)).alloc (.cells #[(.slice none 0 0), (.slice none 0 0), (.slice none 0 0)] 31)).alloc (.cells #[] 3)).alloc (.cells #[] 3)).alloc (.cells #[] 3)).heap.size = w.heap.size + 1 + 1 + 1 + 1 + 1 by simp] at hnew
    have GP_6 := Lib.hid hnew
    clear hnew
    go_enter Try.func37, Try.ntmps37
    obtain ⟨g0_0, g0_1, g0_2⟩ := BX_6.out
    go_wp2_with fail
    clear g0_0 g0_1 g0_2
    generalize ((((((w.alloc (.cells #[.int .i64 (P : Int), (.slice A l.length cap)] 26)).alloc (.cells #[(.slice none 0 0), (.slice none 0 0), (.slice none 0 0)] 31)).alloc (.cells #[] 3)).alloc (.cells #[] 3)).alloc (.cells #[] 3)).alloc (.cells #[(.slice (some ⟨w.heap.size + 1 + 1, 0, none⟩) 0 0), (.slice (some ⟨w.heap.size + 1 + 1 + 1, 0, none⟩) 0 0), (.slice (some ⟨w.heap.size + 1 + 1 + 1 + 1, 0, none⟩) 0 0)] 31)) = w6 at *
    generalize (((((w.alloc (.cells #[.int .i64 (P : Int), (.slice A l.length cap)] 26)).alloc (.cells #[(.slice none 0 0), (.slice none 0 0), (.slice none 0 0)] 31)).alloc (.cells #[] 3)).alloc (.cells #[] 3)).alloc (.cells #[] 3)) = w5 at *
    generalize ((((w.alloc (.cells #[.int .i64 (P : Int), (.slice A l.length cap)] 26)).alloc (.cells #[(.slice none 0 0), (.slice none 0 0), (.slice none 0 0)] 31)).alloc (.cells #[] 3)).alloc (.cells #[] 3)) = w4 at *
    generalize (((w.alloc (.cells #[.int .i64 (P : Int), (.slice A l.length cap)] 26)).alloc (.cells #[(.slice none 0 0), (.slice none 0 0), (.slice none 0 0)] 31)).alloc (.cells #[] 3)) = w3 at *
    generalize ((w.alloc (.cells #[.int .i64 (P : Int), (.slice A l.length cap)] 26)).alloc (.cells #[(.slice none 0 0), (.slice none 0 0), (.slice none 0 0)] 31)) = w2 at *
    generalize (w.alloc (.cells #[.int .i64 (P : Int), (.slice A l.length cap)] 26)) = w1 at *
    refine (HISG _ HB_6.out.at).mono ?_
    rintro e w7 ⟨rfl, hb⟩
    have Z7 := Lib.hid (within_of hb).size
    have W7 := Lib.hid (within_on W6.out (within_of hb) W6.out.size (.inr (Nat.le_refl _)))
    have HB_7 := Lib.hid (HB_6.out.within (within_of hb) (by omega))
    have BX_7 := Lib.hid (BX_6.out.within (within_of hb) (by omega))
    have GR_7 := Lib.hid (GR_6.out.within (within_of hb) (by omega))
    have OF_7 := Lib.hid (OF_6.out.within (within_of hb) (by omega))
    have GP_7 := Lib.hid (GP_6.out.within (within_of hb) (by omega))
    clear hb HISG
    go_wp2_with fail
    refine (l1In_yes k 1 3 _ (by omega) (by omega)).mono ?_
    rintro e w9 ⟨rfl, rfl⟩
    have HN := Lib.hid (show NewS w w7 (P : Int) k (.slice A l.length cap) 0 (.slice (some ⟨w.heap.size + 1 + 1, 0, none⟩) 0 0) (.slice (some ⟨w.heap.size + 1 + 1 + 1, 0, none⟩) 0 0) (.slice (some ⟨w.heap.size + 1 + 1 + 1 + 1, 0, none⟩) 0 0) from ⟨OF_7.out.row, fun a e => by simp [Value.ownBlock] at e; omega, GP_7.out, GR_7.out, BX_7.out, W7.out⟩)
    go_wp2_with fail
    go_loopw [7] (fun i wr => ∃ j : Nat, j ≤ P ∧ i = .int .i64 j ∧ ∃ v, NewS w wr (P : Int) k (.slice A l.length cap) j v (.slice (some ⟨w.heap.size + 1 + 1 + 1, 0, none⟩) 0 0) (.slice (some ⟨w.heap.size + 1 + 1 + 1 + 1, 0, none⟩) 0 0)) (fun i _ => P - (intOf i).toNat)
    case atStart => exact ⟨0, Nat.zero_le _, rfl, _, HN.out⟩
    case round =>
      obtain ⟨j, hj, rfl, v, hst⟩ := hrel
      have HS := Lib.hid hst
      obtain ⟨A', c', rfl⟩ := own_shape hst.row
      have hbs := hst.bel.size
      obtain ⟨_, g1, g2⟩ := hst.box
      obtain ⟨c0, c1, c2, f0, f1, f2⟩ := hst.st.cells
      clear hst
      by_cases hlt : j < P
      · have hji : (j : Int) < (P : Int) := by omega
        obtain ⟨k0, k1, k2, e0, e1, e2⟩ := (HS.out.alloc (.cells #[.int .i64 k] 3)).st.cells
        go_wp2_with (at_builtin; refine wpList_at _ rfl _ _ 29 rfl w.heap.size 3 (.int .i64 0) 1 8 Try.underlying29 infoInt rfl (by decide) _ _ _ rfl HS.out.row #[.int .i64 k] 1 rfl (by simp [Value.oneCell']) _ _ rfl (by omega) (by unfold maxLen; omega) hbs ?_; intro v' w' ho hg hat _; obtain ⟨A2, c2', rfl⟩ := own_shape ho; obtain ⟨q5, hN⟩ := HS.out.push ho hg hat; obtain ⟨d0, d1, d2, h0, h1, h2⟩ := q5.cells; have HN2 := Lib.hid hN; clear ho hg hat q5 hN)
        go_roundw
        case rel => exact ⟨j + 1, by omega, by go_num, _, HN2.out⟩
        case measure => simp [intOf]; omega
      · obtain rfl : j = P := by omega
        have rt := HS.out.ret
        obtain ⟨r0, r1, r2, q0, q1, q2⟩ := rt.cells
        have h3 := ret3 rt (.slice A' j c') (.slice (some ⟨w.heap.size + 1 + 1 + 1, 0, none⟩) 0 0) (.slice (some ⟨w.heap.size + 1 + 1 + 1 + 1, 0, none⟩) 0 0)
        obtain ⟨s0, s1, s2, _⟩ := h3.1.cells
        have HW := Lib.hid h3.2
        clear h3 rt
        go_wp2_with fail
        refine bodyPost_ret (v := .tuple #[pebV A' j c' (some ⟨w.heap.size + 1 + 1 + 1, 0, none⟩) 0 0 (some ⟨w.heap.size + 1 + 1 + 1 + 1, 0, none⟩) 0 0, .bool true]) ?_ rfl ?_
        · simp [results, Try.results37, go_sem, s0, s1, s2]
        · have hro := HS.out.row2.within HW.out (by omega)
          have hz := HW.out.size
          rw [HR.out.1, HR.out.2]
          refine ⟨A', c', some ⟨w.heap.size + 1 + 1 + 1, 0, none⟩, 0, some ⟨w.heap.size + 1 + 1 + 1 + 1, 0, none⟩, 0, by rw [List.length_replicate]; rfl, ?_, within_on HS.out.bel HW.out hbs (by omega)⟩
          exact own3_f hro (by omega) hz (by omega)
end Go.Proofs.Ytdkpmaahinbhlaa
/- What stands while a pebble is looked for in a state of the call's own. No program's walk. No condition. -/
namespace Go.Proofs.Ytdkpmaahinbhlaa
open Go.RowKit

/-- The pointers to the tails that led to the points of a queue. -/
def arrV (gT : Nat) (a : Int) (q : List (Int × Nat)) (v : Int) : Value :=
  match q.find? (fun x => decide (x.1 = v) && decide (x.1 ≠ a)) with
  | some x => .pointer (some ⟨gT, x.2, none⟩)
  | none => .pointer none
def arrL (gT : Nat) (a : Int) (q : List (Int × Nat)) : List Value := (List.range 8).map fun (v : Nat) => arrV gT a q (v : Int)
theorem arrL_len (gT : Nat) (a : Int) (q : List (Int × Nat)) : (arrL gT a q).length = 8 := by simp [arrL]
theorem arrL_get (gT : Nat) (a : Int) (q : List (Int × Nat)) (v : Nat) (h : v < 8) : (arrL gT a q)[v]? = some (arrV gT a q (v : Int)) := by simp [arrL, h]
theorem arrV_none {gT : Nat} {a : Int} {q : List (Int × Nat)} {v : Int} (h : v ∉ q.map Prod.fst ∨ v = a) : arrV gT a q v = .pointer none := by
  unfold arrV
  rw [List.find?_eq_none.2]
  intro x hx
  rcases h with h | h
  · have : x.1 ≠ v := fun e => h (e ▸ List.mem_map_of_mem hx)
    simp [this]
  · subst h
    by_cases e : x.1 = v <;> simp [e]
theorem arrV_some {gT : Nat} {a : Int} {q : List (Int × Nat)} {v : Int} (h : v ∈ q.map Prod.fst) (ha : v ≠ a) : ∃ g j, arrV gT a q v = .pointer (some ⟨g, j, none⟩) := by
  unfold arrV
  obtain ⟨x, hx, e⟩ := List.mem_map.1 h
  cases hf : q.find? (fun x => decide (x.1 = v) && decide (x.1 ≠ a)) with
  | some y => exact ⟨gT, y.2, rfl⟩
  | none =>
    have := List.find?_eq_none.1 hf x hx
    simp [e, ha] at this
theorem arrV_at {P : Nat} {E : List (Int × Int)} {T : List Int} {gT : Nat} {a : Int} {q : List (Int × Nat)} (hp : PathQ P E T a q) {x : Int × Nat} (hx : x ∈ q) (ha : x.1 ≠ a) : arrV gT a q x.1 = .pointer (some ⟨gT, x.2, none⟩) := by
  obtain ⟨q1, q2, rfl⟩ := List.append_of_mem hx
  have hne : q1 ≠ [] := by
    rintro rfl
    obtain ⟨s, e⟩ := hp.1
    cases e
    exact ha rfl
  have h1 := (hp.2 q1 x q2 rfl hne).1
  unfold arrV
  rw [List.find?_append, List.find?_eq_none.2 fun y hy => by
    have : y.1 ≠ x.1 := fun e => h1 (e ▸ List.mem_map_of_mem hy)
    simp [this]]
  simp [ha]
theorem arrL_set (gT : Nat) (a : Int) (q : List (Int × Nat)) (o j : Nat) (h8 : o < 8) (ho : (o : Int) ∉ q.map Prod.fst) (ha : (o : Int) ≠ a) : (arrL gT a q).set o (.pointer (some ⟨gT, j, none⟩)) = arrL gT a (q ++ [((o : Int), j)]) := by
  apply List.ext_getElem?
  intro v
  by_cases hv : v < 8
  · rw [List.getElem?_set, arrL_get _ _ _ v hv, arrL_get _ _ _ v hv, arrL_len]
    by_cases e : o = v
    · subst e
      rw [if_pos rfl, if_pos h8]
      congr 1
      unfold arrV
      rw [List.find?_append, List.find?_eq_none.2 fun y hy => by
        have : y.1 ≠ (o : Int) := fun e => ho (e ▸ List.mem_map_of_mem hy)
        simp [this]]
      simp [ha]
    · rw [if_neg e]
      congr 1
      unfold arrV
      rw [List.find?_append]
      have hne : ¬ (o : Int) = (v : Int) := by omega
      simp [hne]
  · rw [List.getElem?_eq_none (by rw [List.length_set, arrL_len]; omega), List.getElem?_eq_none (by rw [arrL_len]; omega)]

/-- Where the search stands: the state, the graph's box, the pointers, the queue. -/
structure PullI (w wr : World) (pb : Nat) (f t z : Nat × Nat) (p : Int) (A : Option Addr) (cap : Nat) (l : List (Int × Int)) (AF : Option Addr) (cF : Nat) (AT : Option Addr) (cT : Nat) (AZ : Option Addr) (cZ : Nat) (F T Z : List Int) (a : Int) (gT : Nat) (qa qr : List (Int × Nat)) (qv : Value) : Prop where
  st : Cel3 wr pb 31 (.slice AF F.length cF) (.slice AT T.length cT) (.slice AZ Z.length cZ)
  own : OwnF wr f t z AF cF AT cT AZ cZ F T Z
  box : Box wr w.heap.size p (.slice A l.length cap)
  bars : BarsIn wr 0 w.heap.size A l
  arr : wr.heap[w.heap.size + 1]? = some (.cells (arrL gT a qa).toArray 210 (0, 0))
  row : wr.ownsRow (w.heap.size + 1 + 1) 3 1 qv qr.length (intCells (qr.map Prod.fst))
  bel : Below w.heap.size w wr
  low : pb < w.heap.size ∧ f.2 ≤ w.heap.size ∧ t.2 ≤ w.heap.size ∧ z.2 ≤ w.heap.size
theorem PullI.below {w wr w' : World} {pb : Nat} {f t z : Nat × Nat} {p : Int} {A : Option Addr} {cap : Nat} {l : List (Int × Int)} {AF : Option Addr} {cF : Nat} {AT : Option Addr} {cT : Nat} {AZ : Option Addr} {cZ : Nat} {F T Z : List Int} {a : Int} {gT : Nat} {qa qr : List (Int × Nat)} {qv : Value}
    (h : PullI w wr pb f t z p A cap l AF cF AT cT AZ cZ F T Z a gT qa qr qv) (hb : Below wr.heap.size wr w') : PullI w w' pb f t z p A cap l AF cF AT cT AZ cZ F T Z a gT qa qr qv :=
  ⟨h.st.kept hb, h.own.below hb, h.box.kept hb, h.bars.within (within_of hb) (.inr (Nat.zero_le _)), (hb.block _ (Array.getElem?_eq_some_iff.1 h.arr).1).trans h.arr, own_below h.row hb, below_on h.bel hb h.bel.size, h.low⟩
theorem PullI.reach {w wr : World} {pb : Nat} {f t z : Nat × Nat} {p : Int} {A : Option Addr} {cap : Nat} {l : List (Int × Int)} {AF : Option Addr} {cF : Nat} {AT : Option Addr} {cT : Nat} {AZ : Option Addr} {cZ : Nat} {F T Z : List Int} {a : Int} {gT : Nat} {qa qr : List (Int × Nat)} {qv : Value}
    (h : PullI w wr pb f t z p A cap l AF cF AT cT AZ cZ F T Z a gT qa qr qv) (o j : Nat) (h8 : o < 8) (ho : (o : Int) ∉ qa.map Prod.fst) (ha : (o : Int) ≠ a) : PullI w (wr.setCell ⟨w.heap.size + 1, o, none⟩ (.pointer (some ⟨gT, j, none⟩))) pb f t z p A cap l AF cF AT cT AZ cZ F T Z a gT (qa ++ [((o : Int), j)]) qr qv := by
  have hw := within_set wr (w.heap.size + 1) o (.pointer (some ⟨gT, j, none⟩))
  obtain ⟨l1, l2, l3, l4⟩ := h.low
  refine ⟨h.st.within hw (by omega), h.own.within hw (by omega) (by omega) (by omega), h.box.within hw (by omega), h.bars.within hw (by omega), ?_, ?_, h.bel.setCell (p := ⟨w.heap.size + 1, o, none⟩) (by simp only []; omega) _, h.low⟩
  · have := heap_setCell_same wr (w.heap.size + 1) o _ _ (.pointer (some ⟨gT, j, none⟩)) h.arr
    rw [← arrL_set gT a qa o j h8 ho ha]
    simpa using this
  · rcases h.row.2 with ⟨e, e0⟩ | ⟨g, c, cur, e, hg, hh, _⟩
    · exact ⟨h.row.1, .inl ⟨e, e0⟩⟩
    · subst e
      exact own_block h.row (hw.block g (Array.getElem?_eq_some_iff.1 hh).1 (by omega))
theorem PullI.push {w wr w' : World} {pb : Nat} {f t z : Nat × Nat} {p : Int} {A : Option Addr} {cap : Nat} {l : List (Int × Int)} {AF : Option Addr} {cF : Nat} {AT : Option Addr} {cT : Nat} {AZ : Option Addr} {cZ : Nat} {F T Z : List Int} {a : Int} {gT : Nat} {qa qr : List (Int × Nat)} {qv qv' : Value}
    (h : PullI w wr pb f t z p A cap l AF cF AT cT AZ cZ F T Z a gT qa qr qv) (x : Int × Nat) (ho : w'.ownsRow (w.heap.size + 1 + 1) 3 1 qv' (qr.length + 1) (intCells (qr.map Prod.fst) ++ [.int .i64 x.1])) (hg : wr.grownBy w' qv.ownBlock) : PullI w w' pb f t z p A cap l AF cF AT cT AZ cZ F T Z a gT qa (qr ++ [x]) qv' := by
  obtain ⟨l1, l2, l3, l4⟩ := h.low
  have hs := h.bel.size
  have hra := (Array.getElem?_eq_some_iff.1 h.arr).1
  have hw : Within (w.heap.size + 1 + 1) wr.heap.size wr w' := ⟨hg.os, hg.tape, hg.output, hg.size, fun k hk hd => hg.block k hk fun e => by
    have := (h.row.lt k e.symm).1
    omega⟩
  have hbx := h.box.1
  refine ⟨h.st.within hw (by omega), h.own.within hw (by omega) (by omega) (by omega), h.box.within hw (by omega), h.bars.within hw (by omega), (hw.block _ hra (by omega)).trans h.arr, ?_, h.bel.grown hg (by omega) fun g e => by have := (h.row.lt g e).1; omega, h.low⟩
  rw [List.length_append, List.map_append, show intCells (qr.map Prod.fst ++ [x].map Prod.fst) = intCells (qr.map Prod.fst) ++ [.int .i64 x.1] by simp [intCells]]
  exact ho
theorem GoodQ.range {P : Nat} {E : List (Int × Int)} {T : List Int} {a : Int} {q : List (Int × Nat)} (h : GoodQ P E T a q) (ha : 0 ≤ a ∧ a < (P : Int)) (k : Nat) (hk : k < q.length) : 0 ≤ (q.getD k (0, 0)).1 ∧ (q.getD k (0, 0)).1 < (P : Int) := by
  have hm := getD_mem_fst q k hk
  by_cases e : (q.getD k (0, 0)).1 = a
  · rw [e]; exact ha
  · obtain ⟨_, _, _, _, _, _, _, _, _, h6, h7, _⟩ := h.path.at hm e
    exact ⟨h6, h7⟩
theorem Own3.fst {W : World} {lo hi : Nat} {AF AT AZ : Option Addr} {cF cT cZ : Nat} {F T Z : List Int} (h : Own3 W lo hi AF cF AT cT AZ cZ F T Z) (hF : 0 < F.length) : ∃ gF, AF = some ⟨gF, 0, none⟩ ∧ lo ≤ gF ∧ gF < hi := by
  obtain ⟨⟨f1, f2⟩, _, _, o1, _, _, _, _, _, b1, _, _, _⟩ := h
  simp only at o1 b1
  rcases o1.2 with e | ⟨gF, rfl, g1, g2, _⟩
  · subst e; simp at hF
  · exact ⟨gF, rfl, by omega, by omega⟩
theorem turn_prefix {E : List (Int × Int)} {a : Int} {q0 r : List (Int × Nat)} {x : Int × Nat} (T : List Int) (h : x.1 ∉ r.map Prod.fst) : turnQ E a (q0 ++ x :: r).reverse x.1 T = turnQ E a (q0 ++ [x]).reverse x.1 T := by
  rw [show (q0 ++ x :: r).reverse = r.reverse ++ (q0 ++ [x]).reverse by simp, turnQ_skip _ _ _ _ _ _ (by simpa using h)]
theorem take_snoc_getD (q : List (Int × Nat)) (k : Nat) (hk : k < q.length) : q.take (k + 1) = q.take k ++ [q.getD k (0, 0)] := take_getD q (0, 0) k hk
theorem map_fst_getD (q : List (Int × Nat)) (k : Nat) (h : k < q.length) : (q.map Prod.fst).getD k 0 = (q.getD k (0, 0)).1 := by
  simp [List.getD, List.getElem?_eq_getElem h]
/-- A point was looked at: none of those so far gives a pebble. -/
theorem no_step {E : List (Int × Int)} {T F : List Int} {a b : Int} {k : Nat} (hk : k < (bfs E T a k).length) (h : ∀ y ∈ (bfs E T a k).take k, givesB F a b y = false) (hx : givesB F a b ((bfs E T a k).getD k (0, 0)) = false) : ∀ y ∈ (bfs E T a (k + 1)).take (k + 1), givesB F a b y = false := by
  obtain ⟨r, e⟩ := bfs_pre1 E T a k
  rw [e, List.take_append_of_le_length (by omega), take_snoc_getD _ _ hk]
  intro y hy
  rcases List.mem_append.1 hy with hy | hy
  · exact h y hy
  · have : y = (bfs E T a k).getD k (0, 0) := by simpa using hy
    rw [this]; exact hx
/-- What a search for a pebble answers, and what it makes of the state. -/
def PullP (w : World) (f t z : Nat × Nat) (AF : Option Addr) (cF : Nat) (AT : Option Addr) (cT : Nat) (AZ : Option Addr) (cZ : Nat) (E : List (Int × Int)) (F T Z : List Int) (a b : Int) (e : Ending) (w' : World) : Prop :=
  Within2 f t w w' ∧ ((e = .returned (.bool false) ∧ findM E a b (F, T) = none ∧ OwnF w' f t z AF cF AT cT AZ cZ F T Z) ∨ ∃ s', e = .returned (.bool true) ∧ findM E a b (F, T) = some s' ∧ OwnF w' f t z AF cF AT cT AZ cZ s'.1 s'.2 Z)
end Go.Proofs.Ytdkpmaahinbhlaa
/- What stands while the specification looks for a pebble. No program's walk. No condition. -/
namespace Go.Proofs.Ytdkpmaahinbhlaa
open Go.RowKit

/-- What was seen: a row of bools. -/
def seenC (n : Nat) (q : List (Int × Nat)) : List Value := (List.range n).map fun (u : Nat) => Value.bool (decide ((u : Int) ∈ q.map Prod.fst))
theorem seenC_len (n : Nat) (q : List (Int × Nat)) : (seenC n q).length = n := by simp [seenC]
theorem seenC_get (n : Nat) (q : List (Int × Nat)) (u : Nat) (h : u < n) : (seenC n q)[u]? = some (.bool (decide ((u : Int) ∈ q.map Prod.fst))) := by simp [seenC, h]
theorem seenC_set (n : Nat) (q : List (Int × Nat)) (o j : Nat) : (seenC n q).set o (.bool true) = seenC n (q ++ [((o : Int), j)]) := by
  apply List.ext_getElem?
  intro i
  by_cases hi : i < n
  · rw [List.getElem?_set, seenC_get _ _ _ hi, seenC_get _ _ _ hi]
    simp only [seenC_len]
    by_cases h : o = i
    · subst h; simp [hi]
    · have h' : ¬ (i : Int) = (o : Int) := by omega
      simp [h, h']
  · rw [List.getElem?_eq_none (by simp [seenC_len]; omega), List.getElem?_eq_none (by simp [seenC_len]; omega)]
theorem seenC_one (n : Nat) (a : Nat) : (List.replicate n (Value.bool false)).set a (.bool true) = seenC n [((a : Int), 0)] := by
  have e : List.replicate n (Value.bool false) = seenC n [] := by
    apply List.ext_getElem?
    intro i
    by_cases hi : i < n
    · rw [seenC_get _ _ _ hi]; simp [hi]
    · rw [List.getElem?_eq_none (by simp; omega), List.getElem?_eq_none (by simp [seenC_len]; omega)]
  rw [e, seenC_set n [] a 0, List.nil_append]
/-- Where the search stands: what is read, how each point was reached, what was seen, the queue. -/
structure FindI (w wr : World) (p : Int) (A : Option Addr) (cap : Nat) (l : List (Int × Int)) (AF AT AZ : Option Addr) (cF cT cZ lo hi : Nat) (F T Z : List Int) (gf gs : Nat) (FR : List Int) (a : Int) (qa qr : List (Int × Nat)) (qv : Value) : Prop where
  g : GtI w wr p A cap l AF AT AZ cF cT cZ lo hi F T Z
  fr : wr.ownsRow gf 3 1 (.slice (some ⟨gf, 0, none⟩) F.length F.length) F.length (intCells FR)
  sn : wr.ownsRow gs 4 1 (.slice (some ⟨gs, 0, none⟩) F.length F.length) F.length (seenC F.length qa)
  qu : wr.ownsRow (w.heap.size + 3) 3 1 qv qr.length (intCells (qr.map Prod.fst))
  qn : ∀ g, qv.ownBlock = some g → g ≠ gf ∧ g ≠ gs
  ne : gf ≠ gs
  lf : w.heap.size + 3 ≤ gf
  ls : w.heap.size + 3 ≤ gs
  lh : hi ≤ w.heap.size
  frl : FR.length = F.length
  fro : ∀ x ∈ qa, x.1 ≠ a → FR.getD x.1.toNat 0 = (x.2 : Int)
theorem FindI.below {w wr w' : World} {p : Int} {A : Option Addr} {cap : Nat} {l : List (Int × Int)} {AF AT AZ : Option Addr} {cF cT cZ lo hi : Nat} {F T Z : List Int} {gf gs : Nat} {FR : List Int} {a : Int} {qa qr : List (Int × Nat)} {qv : Value}
    (h : FindI w wr p A cap l AF AT AZ cF cT cZ lo hi F T Z gf gs FR a qa qr qv) (hb : Below wr.heap.size wr w') : FindI w w' p A cap l AF AT AZ cF cT cZ lo hi F T Z gf gs FR a qa qr qv :=
  ⟨h.g.below hb, own_below h.fr hb, own_below h.sn hb, own_below h.qu hb, h.qn, h.ne, h.lf, h.ls, h.lh, h.frl, h.fro⟩
/-- A point is seen for the first time, along bar j. -/
theorem FindI.see {w wr : World} {p : Int} {A : Option Addr} {cap : Nat} {l : List (Int × Int)} {AF AT AZ : Option Addr} {cF cT cZ lo hi : Nat} {F T Z : List Int} {gf gs : Nat} {FR : List Int} {a : Int} {qa qr : List (Int × Nat)} {qv : Value}
    (h : FindI w wr p A cap l AF AT AZ cF cT cZ lo hi F T Z gf gs FR a qa qr qv) (o j : Nat) (ho : o < F.length) (hn : (o : Int) ∉ qa.map Prod.fst) (hq : ∀ x ∈ qa, x.1 ≠ a → 0 ≤ x.1) : FindI w ((wr.setCell ⟨gs, o, none⟩ (.bool true)).setCell ⟨gf, o, none⟩ (.int .i64 (j : Int))) p A cap l AF AT AZ cF cT cZ lo hi F T Z gf gs (FR.set o (j : Int)) a (qa ++ [((o : Int), j)]) qr qv := by
  have h1 := within_set wr gs o (.bool true)
  have h2 := within_set (wr.setCell ⟨gs, o, none⟩ (.bool true)) gf o (.int .i64 (j : Int))
  have e := h.ne
  have e1 := h.lf
  have e2 := h.ls
  have e3 := h.lh
  have s1 := (h.sn.stored o (.bool true)).1
  rw [seenC_set _ _ _ j] at s1
  have s2 := ((own_block h.fr (h1.block gf (h.fr.lt gf rfl).2 (by omega))).stored o (.int .i64 (j : Int))).1
  rw [intCells_set] at s2
  refine ⟨(h.g.within h1 (by omega) (by omega)).within h2 (by omega) (by omega), s2, own_block s1 (h2.block gs (s1.lt gs rfl).2 (by omega)), ?_, h.qn, h.ne, h.lf, h.ls, h.lh, by rw [List.length_set]; exact h.frl, fun x hx hxa => ?_⟩
  · rcases h.qu.2 with ⟨c, c0⟩ | ⟨g, c, cur, c1, hg, hh, _⟩
    · exact ⟨h.qu.1, .inl ⟨c, c0⟩⟩
    · subst c1
      have hne := h.qn g rfl
      have hl := (Array.getElem?_eq_some_iff.1 hh).1
      exact own_block (own_block h.qu (h1.block g hl (by omega))) (h2.block g (Nat.lt_of_lt_of_le hl h1.size) (by omega))
  · rcases List.mem_append.1 hx with hx | hx
    · have hxo : x.1 ≠ (o : Int) := fun c => hn (c ▸ List.mem_map_of_mem hx)
      have h0 := hq x hx hxa
      rw [set_getD_ne _ _ _ _ _ (by omega)]
      exact h.fro x hx hxa
    · obtain rfl : x = ((o : Int), j) := by simpa using hx
      simp only [Int.toNat_natCast]
      exact set_getD_eq _ _ _ _ (by rw [h.frl]; exact ho)
/-- The point is put behind the queue. -/
theorem FindI.push {w wr w' : World} {p : Int} {A : Option Addr} {cap : Nat} {l : List (Int × Int)} {AF AT AZ : Option Addr} {cF cT cZ lo hi : Nat} {F T Z : List Int} {gf gs : Nat} {FR : List Int} {a : Int} {qa qr : List (Int × Nat)} {qv qv' : Value}
    (h : FindI w wr p A cap l AF AT AZ cF cT cZ lo hi F T Z gf gs FR a qa qr qv) (x : Int × Nat) (ho : w'.ownsRow (w.heap.size + 3) 3 1 qv' (qr.length + 1) (intCells (qr.map Prod.fst) ++ [.int .i64 x.1])) (hg : wr.grownBy w' qv.ownBlock) (hat : qv'.ownBlock = qv.ownBlock ∨ qv'.ownBlock = some (wr.heap.size + 1)) : FindI w w' p A cap l AF AT AZ cF cT cZ lo hi F T Z gf gs FR a qa (qr ++ [x]) qv' := by
  have e1 := h.lf
  have e2 := h.ls
  have e3 := h.lh
  have l1 := (h.fr.lt gf rfl).2
  have l2 := (h.sn.lt gs rfl).2
  have hw : Within (w.heap.size + 3) wr.heap.size wr w' := ⟨hg.os, hg.tape, hg.output, hg.size, fun k hk hd => hg.block k hk fun e => by
    have := (h.qu.lt k e.symm).1
    omega⟩
  refine ⟨h.g.within hw (by omega) (by omega), own_block h.fr (hg.block gf l1 fun c => (h.qn gf c.symm).1 rfl), own_block h.sn (hg.block gs l2 fun c => (h.qn gs c.symm).2 rfl), ?_, fun g c => ?_, h.ne, h.lf, h.ls, h.lh, h.frl, h.fro⟩
  · rw [List.length_append, List.map_append, show intCells (qr.map Prod.fst ++ [x].map Prod.fst) = intCells (qr.map Prod.fst) ++ [.int .i64 x.1] by simp [intCells]]
    exact ho
  · rcases hat with hat | hat
    · exact h.qn g (hat ▸ c)
    · rw [hat] at c
      cases c
      omega
/-- What the specification's search answers. -/
def FindP (w : World) (pv : Value) (E : List (Int × Int)) (F T Z : List Int) (a b : Int) (e : Ending) (w' : World) : Prop :=
  Below w.heap.size w w' ∧ ((e = .returned (.tuple #[pv, .bool false]) ∧ findM E a b (F, T) = none) ∨ ∃ s' AF cF AT cT AZ cZ, e = .returned (.tuple #[pebV AF s'.1.length cF AT s'.2.length cT AZ Z.length cZ, .bool true]) ∧ findM E a b (F, T) = some s' ∧ Own3R w' w.heap.size w'.heap.size AF cF AT cT AZ cZ s'.1 s'.2 Z)
end Go.Proofs.Ytdkpmaahinbhlaa
/- What (*Pebbles).pull does: a search by breadth for a free pebble, and the path turned round. No condition. -/
namespace Go.Proofs.Ytdkpmaahinbhlaa
open Go.RowKit

set_option maxHeartbeats 8000000 in
set_option maxRecDepth 100000 in
theorem pull_c (P : Nat) (k0 : Int) (l : List (Int × Int)) (A : Option Addr) (cap pb : Nat) (f t z : Nat × Nat) (AF AT AZ : Option Addr) (cF cT cZ : Nat) (F T Z : List Int) (a b : Int) (gT : Nat) (w : World) (hS : PebS P k0 (plE l Z) F T) (hP : 1 ≤ P ∧ P ≤ 8) (hk0 : k0 ≤ 3) (hn : l.length ≤ 24) (hz24 : Z.length ≤ 24)
    (hZ : ∀ i, i < Z.length → 0 ≤ Z.getD i 0 ∧ Z.getD i 0 < (l.length : Int)) (ha : 0 ≤ a ∧ a < (P : Int)) (hb : 0 ≤ b ∧ b < (P : Int)) (hl : BarsAt w w.heap.size A l) (hst : Cel3 w pb 31 (.slice AF F.length cF) (.slice AT T.length cT) (.slice AZ Z.length cZ)) (ho : OwnF w f t z AF cF AT cT AZ cZ F T Z) (hgT : 0 < T.length → AT = some ⟨gT, 0, none⟩) (hpf : pb < f.1 ∨ f.2 ≤ pb) (hpt : pb < t.1 ∨ t.2 ≤ pb) :
    Calls Try.prog 192 #[.pointer (some ⟨pb, 0, none⟩), .agg #[.int .i64 (P : Int), .slice A l.length cap], .int .i64 a, .int .i64 b] w (PullP w f t z AF cF AT cT AZ cZ (plE l Z) F T Z a b) := by
  have hFl := hS.flen
  have hTl : T.length = Z.length := by rw [hS.ends.len, plE_len]
  obtain ⟨gF, rfl, _, _⟩ := ho.fst (by omega)
  have hhi := ho.hi
  have HE := Lib.hid (show ∀ i, i < Z.length → (plE l Z).getD i (0, 0) = l.getD (Z.getD i 0).toNat (0, 0) from fun i hi => plE_get l Z i hi)
  have HG := Lib.hid (fun k => bfs_good (T := T) hS.ends ha.1 ha.2 k)
  have HS := Lib.hid hS
  have HZ := Lib.hid hZ
  have HGT := Lib.hid hgT
  have HEL := Lib.hid (plE_len l Z)
  generalize plE l Z = E at *
  have HI := Lib.hid (show PullI w (((w.alloc (.cells #[.int .i64 (P : Int), .slice A l.length cap] 26)).alloc (.cells #[.pointer none, .pointer none, .pointer none, .pointer none, .pointer none, .pointer none, .pointer none, .pointer none] 210)).alloc (.cells #[.int .i64 a] 3)) pb f t z (P : Int) A cap l (some ⟨gF, 0, none⟩) cF AT cT AZ cZ F T Z a gT [(a, 0)] [(a, 0)] (.slice (some ⟨w.heap.size + 1 + 1, 0, none⟩) 1 1) from by
    have b1 := new_below w (.cells #[.int .i64 (P : Int), .slice A l.length cap] 26)
    have b2 := new_below (w.alloc (.cells #[.int .i64 (P : Int), .slice A l.length cap] 26)) (.cells #[.pointer none, .pointer none, .pointer none, .pointer none, .pointer none, .pointer none, .pointer none, .pointer none] 210)
    have b3 := new_below ((w.alloc (.cells #[.int .i64 (P : Int), .slice A l.length cap] 26)).alloc (.cells #[.pointer none, .pointer none, .pointer none, .pointer none, .pointer none, .pointer none, .pointer none, .pointer none] 210)) (.cells #[.int .i64 a] 3)
    have s1 : (w.alloc (.cells #[.int .i64 (P : Int), .slice A l.length cap] 26)).heap.size = w.heap.size + 1 := by simp
    have s2 : ((w.alloc (.cells #[.int .i64 (P : Int), .slice A l.length cap] 26)).alloc (.cells #[.pointer none, .pointer none, .pointer none, .pointer none, .pointer none, .pointer none, .pointer none, .pointer none] 210)).heap.size = w.heap.size + 1 + 1 := by simp
    have hball := below_on (below_on b1 b2 b1.size) b3 (by omega)
    have hr := World.ownsRow_lit (base := w.heap.size + 1 + 1) (e := 3) (size := 1) ((w.alloc (.cells #[.int .i64 (P : Int), .slice A l.length cap] 26)).alloc (.cells #[.pointer none, .pointer none, .pointer none, .pointer none, .pointer none, .pointer none, .pointer none, .pointer none] 210)) #[.int .i64 a] 1 (by omega) (by unfold maxLen; omega) (by simp)
    rw [s2] at hr
    have ha1 := heap_alloc_new (w.alloc (.cells #[.int .i64 (P : Int), .slice A l.length cap] 26)) (.cells #[.pointer none, .pointer none, .pointer none, .pointer none, .pointer none, .pointer none, .pointer none, .pointer none] 210)
    rw [s1] at ha1
    have hae : (arrL gT a [(a, 0)]) = [.pointer none, .pointer none, .pointer none, .pointer none, .pointer none, .pointer none, .pointer none, .pointer none] := by
      have h0 : ∀ v : Int, arrV gT a [(a, 0)] v = .pointer none := fun v => arrV_none (by by_cases e : v = a; exact .inr e; exact .inl (by simpa using e))
      unfold arrL
      simp only [h0]
      rfl
    exact ⟨hst.within (within_of hball) (.inr (Nat.zero_le _)), ho.below hball, ((box_new w (P : Int) (.slice A l.length cap) 26).kept b2).kept b3, (bars_in hl).within (within_of hball) (.inr (Nat.zero_le _)), by rw [hae]; exact (b3.block _ (by omega)).trans ha1, hr, hball, hst.lt, hhi.1, hhi.2.1, hhi.2.2⟩)
  clear hS hZ hgT hst ho hl
  go_enter Try.func192, Try.ntmps192
  go_wp2_with fail
  generalize (((w.alloc (.cells #[.int .i64 (P : Int), .slice A l.length cap] 26)).alloc (.cells #[.pointer none, .pointer none, .pointer none, .pointer none, .pointer none, .pointer none, .pointer none, .pointer none] 210)).alloc (.cells #[.int .i64 a] 3)) = w1 at *
  go_loopw [10, 11] (fun qv i wr => ∃ k : Nat, k ≤ (bfs E T a k).length ∧ i = .int .i64 k ∧ (∀ y ∈ (bfs E T a k).take k, givesB F a b y = false) ∧ PullI w wr pb f t z (P : Int) A cap l (some ⟨gF, 0, none⟩) cF AT cT AZ cZ F T Z a gT (bfs E T a k) (bfs E T a k) qv) (fun _ i _ => 9 - (intOf i).toNat)
  case atStart => exact ⟨0, Nat.zero_le _, rfl, fun y hy => (by simp at hy), HI.out⟩
  case round =>
    clear HI
    obtain ⟨k, hk, rfl, hno, hin⟩ := hrel
    have HIN := Lib.hid hin
    have HNO := Lib.hid hno
    have hshort := (HG.out k).short
    obtain ⟨A', c', rfl⟩ := own_shape hin.row
    clear hno
    by_cases hlt : k < (bfs E T a k).length
    · have hki : (k : Int) < ((bfs E T a k).length : Int) := by omega
      obtain ⟨gq, rfl⟩ : ∃ gq, A' = some ⟨gq, 0, none⟩ := by
        rcases hin.row.2 with ⟨_, e0⟩ | ⟨g, _, _, e, _⟩
        · omega
        · cases e
          exact ⟨g, rfl⟩
      have hq := (hin.row.cellAt k (show k < (bfs E T a k).length * 1 by omega)).trans (intCells_get ((bfs E T a k).map Prod.fst) k (by simpa using hlt))
      rw [map_fst_getD _ k hlt] at hq
      have hrg := (HG.out k).range ha k hlt
      have HFI := Lib.hid (fun hg : givesB F a b ((bfs E T a k).getD k (0, 0)) = true => find_impl k hlt (by omega) HNO.out hg)
      have HNX := Lib.hid (fun hg : givesB F a b ((bfs E T a k).getD k (0, 0)) = false => no_step hlt HNO.out hg)
      have HSC := Lib.hid (show bfs E T a (k + 1) = scanN E T ((bfs E T a k).getD k (0, 0)).1 (bfs E T a k) E.length by rw [bfs_succ, if_pos hlt])
      have HMEM := Lib.hid (getD_mem_fst _ k hlt)
      obtain ⟨gc0, gc1, gc2, _, _, _⟩ := hin.st.cells
      have hgb : givesB F a b ((bfs E T a k).getD k (0, 0)) = (decide (((bfs E T a k).getD k (0, 0)).1 ≠ a) && decide (((bfs E T a k).getD k (0, 0)).1 ≠ b) && decide (0 < F.getD ((bfs E T a k).getD k (0, 0)).1.toNat 0)) := rfl
      obtain ⟨fb, fo, hfb, hfc⟩ := row_at hin.own.reads.f (by omega)
      cases hfb
      obtain ⟨x, hx⟩ : ∃ x, (bfs E T a k).getD k (0, 0) = x := ⟨_, rfl⟩
      rw [hx] at hq hrg HFI HNX HSC HMEM hgb
      obtain ⟨v, i⟩ := x
      simp only at hq hrg hgb
      obtain ⟨n, rfl⟩ : ∃ n : Nat, v = (n : Int) := ⟨v.toNat, by omega⟩
      rw [Int.toNat_natCast] at hgb
      have hnF : (n : Int) < (F.length : Int) := by omega
      have hnP : n < P := by omega
      have hfn := hfc n (by omega)
      rw [Nat.zero_add] at hfn
      have HFC := Lib.hid hfc
      have HX := Lib.hid hx
      clear hfc hx
      by_cases hg : givesB F a b ((n : Int), i) = true
      · rw [hg] at hgb
        have hgb' := hgb.symm
        simp only [Bool.and_eq_true, decide_eq_true_eq] at hgb'
        obtain ⟨⟨g1, g2⟩, g3⟩ := hgb'
        obtain ⟨q1, r, hQ⟩ := HFI.out hg
        have hpk := (HG.out k).path
        have hTpos : 0 < T.length := by
          obtain ⟨_, _, _, _, _, _, hiE, _⟩ := hpk.at HMEM.out g1
          have := HEL.out
          omega
        obtain ⟨d, hd⟩ : ∃ d, d = F.getD n 0 := ⟨_, rfl⟩
        obtain ⟨d2, hd2⟩ : ∃ d2, d2 = F.getD a.toNat 0 := ⟨_, rfl⟩
        rw [← hd] at g3 hfn
        obtain ⟨gF', gT', e1, e2, b1, b3, hst3⟩ := hin.own.open_ (by omega) hTpos
        cases e1
        have e3 := HGT.out hTpos
        rw [e2] at e3
        cases e3
        cases e2
        obtain ⟨_, hf2⟩ := hst3.cellF n (by omega)
        have hst4 := hst3.setF n (d - 1)
        have han : a.toNat ≠ n := by omega
        have haF : a.toNat < F.length := by omega
        obtain ⟨hf3, hf4⟩ := hst4.cellF a.toNat (by rw [List.length_set]; omega)
        rw [set_getD_ne _ _ _ _ _ han, ← hd2] at hf3
        have hst5 := hst4.setF a.toNat (d2 + 1)
        have hw1 := within_set wr gF n (.int .i64 (d - 1))
        have hw2 := within_set (wr.setCell ⟨gF, n, none⟩ (.int .i64 (d - 1))) gF a.toNat (.int .i64 (d2 + 1))
        have hlo := hin.low
        have hc1 := (hin.st.within hw1 (by omega)).cells.1
        have harr := (hw2.block _ (Nat.lt_of_lt_of_le (Array.getElem?_eq_some_iff.1 hin.arr).1 hw1.size) (by omega)).trans ((hw1.block _ (Array.getElem?_eq_some_iff.1 hin.arr).1 (by omega)).trans hin.arr)
        have hrb1 := (Array.getElem?_eq_some_iff.1 harr).1
        have hmove : (F.set n (d - 1)).set a.toNat (d2 + 1) = movF F a (n : Int) := by unfold movF; rw [Int.toNat_natCast, hd, hd2]
        rw [hmove] at hst5
        have HST5 := Lib.hid hst5
        have HARR := Lib.hid harr
        have HWW := Lib.hid (And.intro hw1 hw2)
        have HBB := Lib.hid (show (f.1 ≤ gF ∧ gF < f.2) ∧ (t.1 ≤ gT ∧ gT < t.2) from ⟨b1, b3⟩)
        have HDS := Lib.hid hin.own.2.2
        have HTI := Lib.hid (show TurnI P E T a (bfs E T a k) (turnQ E a (bfsQ E T a).reverse (n : Int) T) (n : Int) T from by
          have e0 : bfs E T a k = ((bfs E T a k).take k ++ [((n : Int), i)]) ++ (bfs E T a k).drop (k + 1) := by rw [← HX.out, ← take_snoc_getD _ _ hlt, List.take_append_drop]
          have hnd := (HG.out (max E.length 8)).path.nodup (show bfs E T a (max E.length 8) = (bfs E T a k).take k ++ ((n : Int), i) :: r from hQ)
          have hp1 : PathQ P E T a ((bfs E T a k).take k ++ [((n : Int), i)]) := PathQ.pre (r := (bfs E T a k).drop (k + 1)) (by rw [← e0]; exact hpk) (by simp)
          have := TurnI.start (r := (bfs E T a k).drop (k + 1)) HS.out.ends hp1 (show (n : Int) ∈ _ by simp)
          rw [← e0] at this
          rw [hQ, turn_prefix (x := ((n : Int), i)) T hnd]
          exact this)
        have HFM := Lib.hid (show findM E a b (F, T) = some (movF F a (n : Int), turnQ E a (bfsQ E T a).reverse (n : Int) T) by
          show Option.map _ ((bfsQ E T a).find? (givesB F a b)) = _
          rw [q1]
          rfl)
        have hfv := HS.out.small (v := (n : Int)) (by omega)
        have hfa := HS.out.small (v := a) ha
        rw [Int.toNat_natCast, ← hd] at hfv
        rw [← hd2] at hfa
        have hai : (a.toNat : Int) = a := by omega
        obtain ⟨an, han2⟩ : ∃ an : Nat, a.toNat = an := ⟨_, rfl⟩
        rw [han2] at hai hf3 hf4 HST5 HARR HWW han haF
        subst hai
        have haF2 : (an : Int) < (F.length : Int) := by omega
        clear hd hd2
        have e4 : ((n : Int) != (an : Int)) = true := by simpa using g1
        have e5 : ((n : Int) != b) = true := by simpa using g2
        have g3d : decide (0 < d) = true := by simpa using g3
        clear g1 g2 hQ q1 hpk hst3 hst4 hst5 harr hw1 hw2 hmove hgb hg hin
        go_wp2_with fail
        have HCE := Lib.hid (show ∀ x ∈ bfs E T (an : Int) k, x.1 ≠ (an : Int) → ((wr.setCell ⟨gF, n, none⟩ (.int .i64 (d - 1))).setCell ⟨gF, an, none⟩ (.int .i64 (d2 + 1))).cell? ⟨w.heap.size + 1, x.1.toNat, none⟩ = some (.pointer (some ⟨gT, x.2, none⟩)) from fun x hx hxa => by
          obtain ⟨_, _, _, _, _, _, _, _, _, h6, h7, _⟩ := (HG.out k).path.at (List.mem_map_of_mem hx) hxa
          have e := arrL_get gT (an : Int) (bfs E T an k) x.1.toNat (by omega)
          rw [show ((x.1.toNat : Nat) : Int) = x.1 by omega, arrV_at (HG.out k).path hx hxa] at e
          exact (cell_of_row _ _ _ _ _ _ HARR.out).trans (by simpa using e))
        refine (turnPath_c P E (movF F an n) T Z _ an n (bfs E T an k) (w.heap.size + 1) 0 gF cF gT cT cZ z.1 z.2 AZ _ HST5.out HTI.out (by omega) HCE.out (by have := HBB.out; have := HIN.out.low; omega) (Array.getElem?_eq_some_iff.1 HARR.out).1).mono ?_
        rintro e6 w6 ⟨rfl, hst6, hw6⟩
        have HST6 := Lib.hid hst6
        have HW6 := Lib.hid hw6
        clear hst6 hw6
        go_wp2_with fail
        go_ret
        have hbl := HIN.out.bel
        have hlow := HIN.out.low
        have hbb := HBB.out
        have hsz1 := HWW.out.1.size
        have hsz2 := HWW.out.2.size
        have hsz6 := HW6.out.size
        have hszb := hbl.size
        obtain ⟨oz, od1, od2, od3⟩ := HDS.out
        unfold Dis at od1 od2 od3
        have oz6 := ((oz.within HWW.out.1 (by omega)).within HWW.out.2 (by omega)).within HW6.out (by omega)
        exact ⟨(((Within2.of (within_of hbl) (.inl (Nat.le_refl 0))).trans (Within2.of HWW.out.1 (by omega))).trans (Within2.of HWW.out.2 (by omega))).trans (Within2.of HW6.out (by omega)), .inr ⟨_, rfl, HFM.out, HST6.out.ownF hbb.1 hbb.2 (by omega) (by omega) oz6 (by unfold Dis; omega) (by unfold Dis; omega) (by unfold Dis; omega)⟩⟩
      · have hgf : givesB F a b ((n : Int), i) = false := by simpa using hg
        have HNX2 := Lib.hid (HNX.out hgf)
        have HGS := Lib.hid (fun j (hj : j ≤ E.length) => (HG.out k).scan HS.out.ends HMEM.out j hj)
        obtain ⟨d, hd⟩ : ∃ d, F.getD n 0 = d := ⟨_, rfl⟩
        rw [hd] at hgb hfn
        have hcase : ((n : Int) != a) = false ∨ (((n : Int) != a) = true ∧ ((n : Int) != b) = false) ∨ (((n : Int) != a) = true ∧ ((n : Int) != b) = true ∧ decide (0 < d) = false) := by
          by_cases k1 : (n : Int) = a
          · exact .inl (by simpa using k1)
          · by_cases k2 : (n : Int) = b
            · exact .inr (.inl ⟨by simpa using k1, by simpa using k2⟩)
            · rw [hgf] at hgb
              exact .inr (.inr ⟨by simpa using k1, by simpa using k2, by simpa [k1, k2] using hgb.symm⟩)
        have hst := HIN.out.st
        obtain ⟨hc0, hc1, hc2, _, _, _⟩ := hst.cells
        clear hgb hg hin hd hst gc0 gc1 gc2
        rcases hcase with c1 | ⟨c1, c2⟩ | ⟨c1, c2, c3⟩
        all_goals (
          go_wp2_with fail
          clear hc0 hc1 hc2
          go_loopw [10, 71] (fun qv jv wr' => ∃ j : Nat, j ≤ Z.length ∧ jv = .int .i64 j ∧ PullI w wr' pb f t z (P : Int) A cap l (some ⟨gF, 0, none⟩) cF AT cT AZ cZ F T Z a gT (scanN E T (n : Int) (bfs E T a k) j) (scanN E T (n : Int) (bfs E T a k) j) qv) (fun _ jv _ => Z.length - (intOf jv).toNat)
          case atStart => exact ⟨0, Nat.zero_le _, rfl, HIN.out⟩
          case round =>
            obtain ⟨j, hj, rfl, hin2⟩ := hrel
            have HIN2 := Lib.hid hin2
            obtain ⟨A2, c2', rfl⟩ := own_shape hin2.row
            obtain ⟨hc0, hc1, hc2, _, _, _⟩ := hin2.st.cells
            by_cases hlt2 : j < Z.length
            · have hji : (j : Int) < (Z.length : Int) := by omega
              have hjt : (j : Int) < (T.length : Int) := by omega
              obtain ⟨gF', gT', e1, e2, _, _, hst3⟩ := hin2.own.open_ (by omega) (by omega)
              cases e1
              have e3 := HGT.out (by omega)
              rw [e2] at e3
              cases e3
              cases e2
              have ht := (hst3.cellT j (by omega)).1
              obtain ⟨zb, zo, rfl, hzc⟩ := row_at hin2.own.reads.z (by omega)
              have hz := hzc j hlt2
              have HSN := Lib.hid (show scanN E T (n : Int) (bfs E T a k) (j + 1) = scan1 E T (n : Int) (scanN E T (n : Int) (bfs E T a k) j) j from rfl)
              obtain ⟨t, htd⟩ : ∃ t, T.getD j 0 = t := ⟨_, rfl⟩
              rw [htd] at ht
              clear hin2 hst3 hzc
              by_cases c5 : t = (n : Int)
              · subst c5
                have d5 : ((n : Int) != (n : Int)) = false := by simp
                obtain ⟨hz0, hz1⟩ := HZ.out j hlt2
                have hEj := HE.out j hlt2
                have hend := HS.out.ends.tail j (by rw [HEL.out]; exact hlt2)
                have hoth := HS.out.ends.oth_in (by rw [HEL.out]; exact hlt2) htd
                obtain ⟨gs, gm⟩ := HGS.out j (by rw [HEL.out]; omega)
                have hsh := gs.short
                rw [htd] at hend
                rw [hEj] at hend hoth
                obtain ⟨m, hm⟩ : ∃ m : Nat, Z.getD j 0 = (m : Int) := ⟨(Z.getD j 0).toNat, by omega⟩
                rw [hm] at hz hz0 hz1 hend hoth hEj
                rw [Int.toNat_natCast] at hend hoth hEj
                obtain ⟨bb, boff, rfl, _, hbc⟩ := HIN2.out.bars.at (by omega)
                have hx1 := (hbc m (by omega)).1
                have hx2 := (hbc m (by omega)).2
                obtain ⟨x, hxd⟩ : ∃ x, l.getD m (0, 0) = x := ⟨_, rfl⟩
                rw [hxd] at hx1 hx2 hend hoth hEj
                obtain ⟨x1, x2⟩ := x
                simp only at hx1 hx2
                obtain ⟨o, ho⟩ : ∃ o : Nat, oth (x1, x2) (n : Int) = (o : Int) := ⟨(oth (x1, x2) (n : Int)).toNat, by omega⟩
                rw [ho] at hoth
                have HO := Lib.hid ho
                have HEN := Lib.hid hend
                have HS1 := Lib.hid (show scan1 E T (n : Int) (scanN E T (n : Int) (bfs E T a k) j) j = if (o : Int) ∉ (scanN E T (n : Int) (bfs E T a k) j).map Prod.fst then (scanN E T (n : Int) (bfs E T a k) j) ++ [((o : Int), j)] else (scanN E T (n : Int) (bfs E T a k) j) by
                  unfold scan1
                  rw [htd, hEj, ho]
                  by_cases h : (o : Int) ∈ (scanN E T (n : Int) (bfs E T a k) j).map Prod.fst
                  · rw [if_neg (fun q => q.2 h), if_neg (fun q => q h)]
                  · rw [if_pos ⟨rfl, h⟩, if_pos h])
                have HGJ := Lib.hid gs
                have ho8 : o < 8 := by omega
                have ho8i : (o : Int) < 8 := by omega
                have hoP := hoth.1
                obtain ⟨_, gx0, gx1⟩ := HIN2.out.box
                have hmi : (m : Int) < (l.length : Int) := hz1
                clear hbc hxd ho hend hEj hm gs gm htd hz0 hoth
                by_cases c6 : (o : Int) = a
                · have d6 : ((o : Int) != a) = false := by simpa using c6
                  have HQ := Lib.hid (show (scanN E T (n : Int) (bfs E T a k) j) = scanN E T (n : Int) (bfs E T a k) (j + 1) by
                    rw [HSN.out, HS1.out, if_neg]
                    obtain ⟨r, e⟩ := HGJ.out.start
                    rw [e, c6]; simp)
                  clear c6
                  go_wp2_with (go_at_call 225; refine (otherEnd_c (x1, x2) (n : Int) _ HEN.out).mono ?_; rintro e w5 ⟨rfl, hb⟩; rw [HO.out]; have HIN5 := Lib.hid (HIN2.out.below hb); obtain ⟨hd0, hd1, hd2, _, _, _⟩ := HIN5.out.st.cells; have hfz := frozen_of_row _ _ o _ _ HIN5.out.arr; clear hb hc0 hc1 hc2)
                  go_roundw
                  case rel => exact ⟨j + 1, by omega, by go_num, by rw [← HQ.out]; exact HIN5.out⟩
                  case measure => simp [intOf]; omega
                · have d6 : ((o : Int) != a) = true := by simpa using c6
                  by_cases c7 : (o : Int) ∈ (scanN E T (n : Int) (bfs E T a k) j).map Prod.fst
                  · have HQ := Lib.hid (show (scanN E T (n : Int) (bfs E T a k) j) = scanN E T (n : Int) (bfs E T a k) (j + 1) by rw [HSN.out, HS1.out, if_neg]; simpa using c7)
                    obtain ⟨g7, j7, hv7⟩ := arrV_some (gT := gT) c7 c6
                    have HV := Lib.hid hv7
                    clear c6 c7 hv7
                    go_wp2_with (go_at_call 225; refine (otherEnd_c (x1, x2) (n : Int) _ HEN.out).mono ?_; rintro e w5 ⟨rfl, hb⟩; rw [HO.out]; have HIN5 := Lib.hid (HIN2.out.below hb); obtain ⟨hd0, hd1, hd2, _, _, _⟩ := HIN5.out.st.cells; have hfz := frozen_of_row _ _ o _ _ HIN5.out.arr; have har := (cell_of_row _ _ o _ _ _ HIN5.out.arr).trans (by simpa using (arrL_get gT a (scanN E T (n : Int) (bfs E T a k) j) o ho8).trans (congrArg some HV.out)); clear hb hc0 hc1 hc2)
                    go_roundw
                    case rel => exact ⟨j + 1, by omega, by go_num, by rw [← HQ.out]; exact HIN5.out⟩
                    case measure => simp [intOf]; omega
                  · have HQ := Lib.hid (show (scanN E T (n : Int) (bfs E T a k) j) ++ [((o : Int), j)] = scanN E T (n : Int) (bfs E T a k) (j + 1) by rw [HSN.out, HS1.out, if_pos c7])
                    have HV := Lib.hid (arrV_none (gT := gT) (a := a) (.inl c7))
                    have HNI := Lib.hid c7
                    have HNA := Lib.hid c6
                    clear c6 c7
                    go_wp2_with (first
                      | (go_at_call 225; refine (otherEnd_c (x1, x2) (n : Int) _ HEN.out).mono ?_; rintro e w5 ⟨rfl, hb⟩; rw [HO.out]; have HIN5 := Lib.hid (HIN2.out.below hb); obtain ⟨hd0, hd1, hd2, _, _, _⟩ := HIN5.out.st.cells; have hfz := frozen_of_row _ _ o _ _ HIN5.out.arr; have har := (cell_of_row _ _ o _ _ _ HIN5.out.arr).trans (by simpa using (arrL_get gT a (scanN E T (n : Int) (bfs E T a k) j) o ho8).trans (congrArg some HV.out)); clear hb hc0 hc1 hc2; have HR3 := Lib.hid (HIN5.out.reach o j ho8 HNI.out HNA.out); have hbs := (Array.getElem?_eq_some_iff.1 HR3.out.arr).1)
                      | (at_builtin; go_loud (refine wpList_at _ rfl _ _ 29 rfl (w.heap.size + 1 + 1) 3 (.int .i64 0) 1 8 Try.underlying29 infoInt rfl (by decide) _ _ _ rfl HR3.out.row #[.int .i64 (o : Int)] 1 rfl (by simp [Value.oneCell']) _ 1 (by simp only [World.size_setCell]; rfl) (by omega) (by unfold maxLen; omega) hbs ?_; intro v' w' ho hg _ _; obtain ⟨A3, c3', rfl⟩ := own_shape ho; have HN := Lib.hid (HR3.out.push ((o : Int), j) ho hg); clear ho hg)))
                    go_roundw
                    case rel => exact ⟨j + 1, by omega, by go_num, by rw [← HQ.out]; exact HN.out⟩
                    case measure => simp [intOf]; omega
              · have d5 : (t != (n : Int)) = true := by simpa using c5
                have HQ := Lib.hid (show (scanN E T (n : Int) (bfs E T a k) j) = scanN E T (n : Int) (bfs E T a k) (j + 1) by rw [HSN.out]; unfold scan1; rw [htd, if_neg]; exact fun h => c5 h.1)
                clear c5 htd
                go_wp2_with fail
                go_roundw
                case rel => exact ⟨j + 1, by omega, by go_num, by rw [← HQ.out]; exact HIN2.out⟩
                case measure => simp [intOf]; omega
            · obtain rfl : j = Z.length := by omega
              have hji : ¬ (Z.length : Int) < (Z.length : Int) := by omega
              clear hin2
              go_wp2_with fail
              go_roundw
              case rel => exact ⟨k + 1, by rw [HSC.out]; obtain ⟨r, e⟩ := scanN_pre E T (n : Int) (bfs E T a k) E.length; rw [e, List.length_append]; omega, by go_num, HNX2.out, by rw [HSC.out, HEL.out]; exact HIN2.out⟩
              case measure => simp [intOf]; omega)
    · have hkl : k = (bfs E T a k).length := by omega
      have HF := Lib.hid (find_no (E := E) (T := T) (F := F) (a := a) (b := b) k (by omega) (by omega) (by rw [← List.take_of_length_le (l := bfs E T a k) (i := k) (by omega)]; exact HNO.out))
      have hki : ¬ (k : Int) < ((bfs E T a k).length : Int) := by omega
      clear hin hkl
      go_wp2_with fail
      go_ret
      exact ⟨Within2.of (within_of HIN.out.bel) (.inl (Nat.le_refl 0)), .inl ⟨rfl, by show Option.map _ ((bfsQ E T a).find? (givesB F a b)) = none; rw [HF.out]; rfl, HIN.out.own⟩⟩
end Go.Proofs.Ytdkpmaahinbhlaa
/- What stands while pebbles are gathered in a state of the call's own. No program's walk. No condition. -/
namespace Go.Proofs.Ytdkpmaahinbhlaa
open Go.RowKit

/-- A row of the call's own is overwritten by a row of the same length. -/
theorem wpList_back {w : World} {ops : Array Oper} {rest : List Oper} {o : Oper} {a : Act} {Q : Exit → Act → World → Prop} (hgd : o.guard = none) (d s : Operand)
    (ho : o.op = .call { callee := .builtin .copy, args := #[d, s], argTypes := #[29, 29] }) (A AS : Option Addr) (zs ys : List Int) (cd cs lo hi lo2 hi2 n : Nat) (hd : a.eval d = .slice A n cd) (hs : a.eval s = .slice AS ys.length cs)
    (hz : OwnR w lo hi A cd zs) (hy : IntsIn w lo2 hi2 AS ys) (hl : ys.length = zs.length) (hnz : n = zs.length)
    (h : ∀ w', OwnR w' lo hi A cd ys → Within lo hi w w' → wpList Try.prog ops Q rest (a.put o.dst (goInt ys.length)) w') : wpList Try.prog ops Q (o :: rest) a w := by
  subst hnz
  have hu := Try.underlying29
  have hsz : (Try.prog.info? 3).map (·.size) = some 1 := by kernel_rfl
  by_cases h0 : ys.length = 0
  · have hy0 : ys = [] := List.eq_nil_of_length_eq_zero h0
    refine wpList_copy_nothing hgd d s _ _ ho 3 hu hsz A AS zs.length cd ys.length cs hd hs (by rw [h0]; simp) ?_
    have hz0 : zs = [] := List.eq_nil_of_length_eq_zero (by rw [← hl]; exact h0)
    have := h w (by rw [hy0]; rw [hz0] at hz; exact hz) (Within.refl _ _ _)
    rw [h0] at this
    exact this
  · rcases hz.2 with ⟨_, _, e⟩ | ⟨g, rfl, g1, g2, hr⟩
    · exact absurd (by rw [hl, e]; rfl) h0
    · obtain ⟨b, off, rfl, _, _, hc⟩ := hy.2 (by omega)
      rcases hr.2 with ⟨e0, _⟩ | ⟨g', cap', cur, e1, hg1, hheap, n1, n2, n3, n4⟩
      · cases e0
      · cases e1
        have hcl : (intCells ys).length = ys.length := intCells_len ys
        refine wpList_copy_own hgd d s _ _ ho 3 hu hsz g 0 zs.length cd ⟨b, off, none⟩ ys.length cs hd hs cur _ hheap (intCells ys) (by rw [hcl, hl]; simp) ?_ (by rw [hcl]; omega) (intCells_one ys) ?_
        · intro j v hj
          have hjl : j < ys.length := by rw [← hcl]; exact (List.getElem?_eq_some_iff.1 hj).1
          have e := (hc j hjl).trans (intCells_get ys j hjl).symm
          rw [hj] at e
          have ha : (⟨b, off, none⟩ : Addr).add j = ⟨b, off + j, none⟩ := by unfold Addr.add; split <;> simp_all
          rw [ha]
          exact e
        · rw [hcl]
          have hset := setRow_heap w g _ ((cur.toList.take 0 ++ (intCells ys ++ cur.toList.drop (0 + ys.length))).toArray) _ _ hheap
          refine h _ ⟨?_, .inr ⟨g, rfl, g1, g2, ⟨by rw [hcl, Nat.mul_one], .inr ⟨g, cd, _, by rw [hl], hg1, hset, by omega, n2, ?_, ?_⟩⟩⟩⟩ ⟨rfl, rfl, rfl, ?_, fun k _ hd => setRow_other w g k _ (by omega)⟩
          · simpa [World.setRow] using hz.1
          · simp [hcl]; omega
          · simp [← hcl]
          · simp [World.setRow]
theorem Box.at {W W' : World} {b : Nat} {q : Int} {v : Value} (h : Box W b q v) {f t : Nat × Nat} (hw : Within2 f t W W') (h1 : b < f.1 ∨ f.2 ≤ b) (h2 : b < t.1 ∨ t.2 ≤ b) : Box W' b q v := by
  have hb := hw.block b h.1 h1 h2
  exact ⟨Nat.lt_of_lt_of_le h.1 hw.size, (World.cell?_of_block (a := ⟨b, 0, none⟩) hb).trans h.2.1, (World.cell?_of_block (a := ⟨b, 1, none⟩) hb).trans h.2.2⟩
/-- What gathering answers, and what it makes of the state. -/
def GathP (w : World) (f t z : Nat × Nat) (AF : Option Addr) (cF : Nat) (AT : Option Addr) (cT : Nat) (AZ : Option Addr) (cZ : Nat) (E : List (Int × Int)) (F T Z : List Int) (a b want : Int) (e : Ending) (w' : World) : Prop :=
  Within2 f t w w' ∧ ((e = .returned (.bool false) ∧ gathR E a b want (F, T) = none ∧ OwnF w' f t z AF cF AT cT AZ cZ F T Z) ∨ ∃ s', e = .returned (.bool true) ∧ gathR E a b want (F, T) = some s' ∧ OwnF w' f t z AF cF AT cT AZ cZ s'.1 s'.2 Z)
/-- Where gathering stands: the state, the graph's box, the copies. -/
structure GatI (w wr : World) (pb : Nat) (f t z : Nat × Nat) (mF nF mT nT : Nat) (p : Int) (A : Option Addr) (cap : Nat) (l : List (Int × Int)) (AF : Option Addr) (cF : Nat) (AT : Option Addr) (cT : Nat) (AZ : Option Addr) (cZ : Nat) (BF BT : Option Addr) (F0 T0 F T Z : List Int) : Prop where
  st : Cel3 wr pb 31 (.slice AF F0.length cF) (.slice AT T0.length cT) (.slice AZ Z.length cZ)
  own : OwnF wr f t z AF cF AT cT AZ cZ F T Z
  box : Box wr w.heap.size p (.slice A l.length cap)
  bars : BarsIn wr 0 w.heap.size A l
  cf : IntsIn wr mF nF BF F0
  ct : IntsIn wr mT nT BT T0
  wit : Within2 f t w wr
  low : pb < w.heap.size ∧ (f.2 ≤ w.heap.size ∧ t.2 ≤ w.heap.size) ∧ w.heap.size ≤ mF ∧ w.heap.size ≤ mT ∧ w.heap.size + 1 ≤ wr.heap.size
  outf : pb < f.1 ∨ f.2 ≤ pb
  outt : pb < t.1 ∨ t.2 ≤ pb
  bar : 0 < l.length → ∀ g off, A = some ⟨g, off, none⟩ → (g < f.1 ∨ f.2 ≤ g) ∧ (g < t.1 ∨ t.2 ≤ g)
/-- The state was written, and nothing else. -/
theorem GatI.next {w wr w' : World} {pb : Nat} {f t z : Nat × Nat} {mF nF mT nT : Nat} {p : Int} {A : Option Addr} {cap : Nat} {l : List (Int × Int)} {AF : Option Addr} {cF : Nat} {AT : Option Addr} {cT : Nat} {AZ : Option Addr} {cZ : Nat} {BF BT : Option Addr} {F0 T0 F T F' T' Z : List Int}
    (h : GatI w wr pb f t z mF nF mT nT p A cap l AF cF AT cT AZ cZ BF BT F0 T0 F T Z) (hw : Within2 f t wr w') (ho : OwnF w' f t z AF cF AT cT AZ cZ F' T' Z) : GatI w w' pb f t z mF nF mT nT p A cap l AF cF AT cT AZ cZ BF BT F0 T0 F' T' Z := by
  obtain ⟨l1, l2, l3, l4, l5⟩ := h.low
  refine ⟨h.st.at hw h.outf h.outt, ho, h.box.at hw (by omega) (by omega), ⟨Nat.le_trans h.bars.1 hw.size, fun hl => ?_⟩, h.cf.at hw (by omega) (by omega), h.ct.at hw (by omega) (by omega), h.wit.trans hw, ⟨l1, l2, l3, l4, Nat.le_trans l5 hw.size⟩, h.outf, h.outt, h.bar⟩
  obtain ⟨b, off, e, h1, h2, hc⟩ := h.bars.2 hl
  refine ⟨b, off, e, h1, h2, fun k hk => ?_⟩
  obtain ⟨q1, q2⟩ := h.bar hl b off e
  have hb := hw.block b (Nat.lt_of_lt_of_le h2 h.bars.1) q1 q2
  have e1 : ∀ o, w'.cell? ⟨b, o, none⟩ = wr.cell? ⟨b, o, none⟩ := fun o => World.cell?_of_block (a := ⟨b, o, none⟩) hb
  rw [e1, e1]
  exact hc k hk
theorem GatI.pull {w wr : World} {P pb : Nat} {f t z : Nat × Nat} {mF nF mT nT : Nat} {k0 : Int} {A : Option Addr} {cap : Nat} {l : List (Int × Int)} {AF : Option Addr} {cF : Nat} {AT : Option Addr} {cT : Nat} {AZ : Option Addr} {cZ : Nat} {BF BT : Option Addr} {F0 T0 F T Z : List Int} {a b : Int} {gT : Nat}
    (h : GatI w wr pb f t z mF nF mT nT (P : Int) A cap l AF cF AT cT AZ cZ BF BT F0 T0 F T Z) (hS0 : PebS P k0 (plE l Z) F0 T0) (hS : PebS P k0 (plE l Z) F T) (hP : 1 ≤ P ∧ P ≤ 8) (hk0 : k0 ≤ 3) (hn : l.length ≤ 24) (hz24 : Z.length ≤ 24)
    (hZ : ∀ i, i < Z.length → 0 ≤ Z.getD i 0 ∧ Z.getD i 0 < (l.length : Int)) (ha : 0 ≤ a ∧ a < (P : Int)) (hb : 0 ≤ b ∧ b < (P : Int)) (hgT : 0 < T0.length → AT = some ⟨gT, 0, none⟩) :
    Calls Try.prog 192 #[.pointer (some ⟨pb, 0, none⟩), .agg #[.int .i64 (P : Int), .slice A l.length cap], .int .i64 a, .int .i64 b] wr (PullP wr f t z AF cF AT cT AZ cZ (plE l Z) F T Z a b) := by
  have e1 : F.length = F0.length := by rw [hS.flen, hS0.flen]
  have e2 : T.length = T0.length := by rw [hS.ends.len, hS0.ends.len]
  have hst := h.st
  rw [← e1, ← e2] at hst
  rw [← e2] at hgT
  exact pull_c P k0 l A cap pb f t z AF AT AZ cF cT cZ F T Z a b gT wr hS hP hk0 hn hz24 hZ ha hb h.bars.at hst h.own hgT h.outf h.outt
theorem GatI.pull_no {w wr : World} {P pb : Nat} {f t z : Nat × Nat} {mF nF mT nT : Nat} {k0 : Int} {A : Option Addr} {cap : Nat} {l : List (Int × Int)} {AF : Option Addr} {cF : Nat} {AT : Option Addr} {cT : Nat} {AZ : Option Addr} {cZ : Nat} {BF BT : Option Addr} {F0 T0 F T Z : List Int} {a b : Int} {gT : Nat}
    (h : GatI w wr pb f t z mF nF mT nT (P : Int) A cap l AF cF AT cT AZ cZ BF BT F0 T0 F T Z) (hS0 : PebS P k0 (plE l Z) F0 T0) (hS : PebS P k0 (plE l Z) F T) (hP : 1 ≤ P ∧ P ≤ 8) (hk0 : k0 ≤ 3) (hn : l.length ≤ 24) (hz24 : Z.length ≤ 24)
    (hZ : ∀ i, i < Z.length → 0 ≤ Z.getD i 0 ∧ Z.getD i 0 < (l.length : Int)) (ha : 0 ≤ a ∧ a < (P : Int)) (hb : 0 ≤ b ∧ b < (P : Int)) (hgT : 0 < T0.length → AT = some ⟨gT, 0, none⟩) (hf : findM (plE l Z) a b (F, T) = none) :
    Calls Try.prog 192 #[.pointer (some ⟨pb, 0, none⟩), .agg #[.int .i64 (P : Int), .slice A l.length cap], .int .i64 a, .int .i64 b] wr (fun e w' => e = .returned (.bool false) ∧ GatI w w' pb f t z mF nF mT nT (P : Int) A cap l AF cF AT cT AZ cZ BF BT F0 T0 F T Z) := by
  refine (h.pull hS0 hS hP hk0 hn hz24 hZ ha hb hgT).mono ?_
  rintro e w' ⟨hw, ⟨rfl, _, ho⟩ | ⟨s', _, hs, _⟩⟩
  · exact ⟨rfl, h.next hw ho⟩
  · rw [hf] at hs; cases hs
theorem GatI.pull_yes {w wr : World} {P pb : Nat} {f t z : Nat × Nat} {mF nF mT nT : Nat} {k0 : Int} {A : Option Addr} {cap : Nat} {l : List (Int × Int)} {AF : Option Addr} {cF : Nat} {AT : Option Addr} {cT : Nat} {AZ : Option Addr} {cZ : Nat} {BF BT : Option Addr} {F0 T0 F T Z : List Int} {a b : Int} {gT : Nat} {s : List Int × List Int}
    (h : GatI w wr pb f t z mF nF mT nT (P : Int) A cap l AF cF AT cT AZ cZ BF BT F0 T0 F T Z) (hS0 : PebS P k0 (plE l Z) F0 T0) (hS : PebS P k0 (plE l Z) F T) (hP : 1 ≤ P ∧ P ≤ 8) (hk0 : k0 ≤ 3) (hn : l.length ≤ 24) (hz24 : Z.length ≤ 24)
    (hZ : ∀ i, i < Z.length → 0 ≤ Z.getD i 0 ∧ Z.getD i 0 < (l.length : Int)) (ha : 0 ≤ a ∧ a < (P : Int)) (hb : 0 ≤ b ∧ b < (P : Int)) (hgT : 0 < T0.length → AT = some ⟨gT, 0, none⟩) (hf : findM (plE l Z) a b (F, T) = some s) :
    Calls Try.prog 192 #[.pointer (some ⟨pb, 0, none⟩), .agg #[.int .i64 (P : Int), .slice A l.length cap], .int .i64 a, .int .i64 b] wr (fun e w' => e = .returned (.bool true) ∧ GatI w w' pb f t z mF nF mT nT (P : Int) A cap l AF cF AT cT AZ cZ BF BT F0 T0 s.1 s.2 Z) := by
  refine (h.pull hS0 hS hP hk0 hn hz24 hZ ha hb hgT).mono ?_
  rintro e w' ⟨hw, ⟨rfl, hs, ho⟩ | ⟨s', rfl, hs, ho⟩⟩
  · rw [hf] at hs; cases hs
  · rw [hf] at hs
    cases hs
    exact ⟨rfl, h.next hw ho⟩
end Go.Proofs.Ytdkpmaahinbhlaa
/- What (*Pebbles).gather does. No condition. -/
namespace Go.Proofs.Ytdkpmaahinbhlaa
open Go.RowKit

set_option maxHeartbeats 8000000 in
set_option maxRecDepth 100000 in
theorem gather_c (P : Nat) (k0 : Int) (l : List (Int × Int)) (A : Option Addr) (cap pb : Nat) (f t z : Nat × Nat) (AF AT AZ : Option Addr) (cF cT cZ : Nat) (F T Z : List Int) (a b : Nat) (want : Int) (w : World) (hS : PebS P k0 (plE l Z) F T) (hP : 1 ≤ P ∧ P ≤ 8) (hk0 : k0 ≤ 3) (hn : l.length ≤ 24) (hz24 : Z.length ≤ 24)
    (hZ : ∀ i, i < Z.length → 0 ≤ Z.getD i 0 ∧ Z.getD i 0 < (l.length : Int)) (ha : a < P) (hb : b < P) (hab : a ≠ b) (hl : BarsAt w w.heap.size A l) (hst : Cel3 w pb 31 (.slice AF F.length cF) (.slice AT T.length cT) (.slice AZ Z.length cZ)) (ho : OwnF w f t z AF cF AT cT AZ cZ F T Z) (hpf : pb < f.1 ∨ f.2 ≤ pb) (hpt : pb < t.1 ∨ t.2 ≤ pb) (hbar : 0 < l.length → ∀ g off, A = some ⟨g, off, none⟩ → (g < f.1 ∨ f.2 ≤ g) ∧ (g < t.1 ∨ t.2 ≤ g)) :
    Calls Try.prog 124 #[.pointer (some ⟨pb, 0, none⟩), .agg #[.int .i64 (P : Int), .slice A l.length cap], .int .i64 (a : Int), .int .i64 (b : Int), .int .i64 want] w (GathP w f t z AF cF AT cT AZ cZ (plE l Z) F T Z a b want) := by
  have hFl := hS.flen
  have hTl : T.length = Z.length := by rw [hS.ends.len, plE_len]
  obtain ⟨gF, rfl, _, _⟩ := ho.fst (by omega)
  have hhi := ho.hi
  obtain ⟨gT, hgT⟩ : ∃ gT, 0 < T.length → AT = some ⟨gT, 0, none⟩ := by
    by_cases h : 0 < T.length
    · obtain ⟨_, gT, _, e, _⟩ := ho.open_ (by omega) h
      exact ⟨gT, fun _ => e⟩
    · exact ⟨0, fun k => absurd k h⟩
  have HGT := Lib.hid hgT
  have HS := Lib.hid hS
  have HZ := Lib.hid hZ
  have HBAR := Lib.hid hbar
  have b1 := new_below w (.cells #[.int .i64 (P : Int), .slice A l.length cap] 26)
  have hbx := box_new w (P : Int) (.slice A l.length cap) 26
  have HBX := Lib.hid hbx
  have HBI := Lib.hid ((bars_in hl).within (within_of b1) (.inr (Nat.zero_le _)))
  have HW1 := Lib.hid b1
  have HST := Lib.hid (hst.within (within_of b1) (.inr (Nat.zero_le _)))
  have HO := Lib.hid (ho.below b1)
  have hs1 : (w.alloc (.cells #[.int .i64 (P : Int), .slice A l.length cap] 26)).heap.size = w.heap.size + 1 := by simp
  have hplt := hst.lt
  have HFL := Lib.hid hFl
  have HTL := Lib.hid hTl
  have hF1 : F.length ≤ 1048576 := by omega
  have hT1 : T.length ≤ 1048576 := by omega
  clear hS hZ hgT hst ho hl hbar b1 hbx hFl hTl
  go_enter Try.func124, Try.ntmps124
  go_wp2_with fail
  generalize (w.alloc (.cells #[.int .i64 (P : Int), .slice A l.length cap] 26)) = w1 at *
  have hdr : Below w1.heap.size w1 w1.drew := (Below.refl _ _).drew
  have HST3 := Lib.hid (HST.out.kept hdr)
  have HO3 := Lib.hid (HO.out.below hdr)
  have HW3 := Lib.hid (below_on HW1.out hdr HW1.out.size)
  have HBX3 := Lib.hid (HBX.out.kept hdr)
  have HBI3 := Lib.hid (HBI.out.within (within_of hdr) (.inr (Nat.zero_le _)))
  have hz0 : w1.drew.heap.size = w1.heap.size := rfl
  have kk1 : (fun W' => W'.cell? ⟨pb, 0, none⟩ = some (.slice (some ⟨gF, 0, none⟩) F.length cF) ∧ W'.cell? ⟨pb, 1, none⟩ = some (.slice AT T.length cT)) w1 := ⟨HST.out.cells.1, HST.out.cells.2.1⟩
  clear hdr
  go_region_held3 (fun W' => W'.cell? ⟨pb, 0, none⟩ = some (.slice (some ⟨gF, 0, none⟩) F.length cF) ∧ W'.cell? ⟨pb, 1, none⟩ = some (.slice AT T.length cT))
    (first | exact kk1 | exact ⟨HST4.out.cells.1, HST4.out.cells.2.1⟩ | exact ⟨HST5.out.cells.1, HST5.out.cells.2.1⟩ | fail)
    (first
      | (go_at_call_of 146 (some (⟨gF, 0, none⟩ : Addr)); refine (slCloneI F (some ⟨gF, 0, none⟩) cF 0 _ _ HO3.out.reads.f hF1).mono ?_; rintro e w4 ⟨BF, bF, rfl, hc, hb4⟩; have HW4 := Lib.hid (below_on HW3.out hb4 HW3.out.size); have HST4 := Lib.hid (HST3.out.kept hb4); have HO4 := Lib.hid (HO3.out.below hb4); have HBX4 := Lib.hid (HBX3.out.kept hb4); have HBI4 := Lib.hid (HBI3.out.within (within_of hb4) (.inr (Nat.zero_le _))); have HCF4 := Lib.hid hc; have hz4 := hb4.size; clear hc hb4)
      | (go_at_call_of 146 AT; refine (slCloneI T AT cT 0 _ _ HO4.out.reads.t hT1).mono ?_; rintro e w5 ⟨BT, bT, rfl, hc, hb5⟩; have HW5 := Lib.hid (below_on HW4.out hb5 HW4.out.size); have HST5 := Lib.hid (HST4.out.kept hb5); have HO5 := Lib.hid (HO4.out.below hb5); have HBX5 := Lib.hid (HBX4.out.kept hb5); have HBI5 := Lib.hid (HBI4.out.within (within_of hb5) (.inr (Nat.zero_le _))); have HCF5 := Lib.hid (HCF4.out.within (within_of hb5) (.inr (Nat.zero_le _))); have HCT5 := Lib.hid hc; have hz5 := hb5.size; clear hc hb5)
      | fail)
  go_wp2_with fail
  have HI := Lib.hid (show GatI w w5 pb f t z w1.drew.heap.size w4.heap.size w4.heap.size w5.heap.size (P : Int) A cap l (some ⟨gF, 0, none⟩) cF AT cT AZ cZ BF BT F T F T Z from
    ⟨HST5.out, HO5.out, HBX5.out, HBI5.out, HCF5.out.reads, HCT5.out.reads, Within2.of (within_of HW5.out) (.inl (Nat.le_refl 0)), ⟨hplt, ⟨hhi.1, hhi.2.1⟩, by omega, by omega, by omega⟩, hpf, hpt, HBAR.out⟩)
  go_loopw [] (fun wr => ∃ F' T' : List Int, PebS P k0 (plE l Z) F' T' ∧ gathR (plE l Z) a b want (F, T) = gathR (plE l Z) a b want (F', T') ∧ GatI w wr pb f t z w1.drew.heap.size w4.heap.size w4.heap.size w5.heap.size (P : Int) A cap l (some ⟨gF, 0, none⟩) cF AT cT AZ cZ BF BT F T F' T' Z) (fun wr => (want - (intOf ((wr.cell? ⟨gF, a, none⟩).getD (.bool false)) + intOf ((wr.cell? ⟨gF, b, none⟩).getD (.bool false)))).toNat)
  case atStart => exact ⟨F, T, HS.out, rfl, HI.out⟩
  case round =>
    obtain ⟨F', T', hS', hg, hin⟩ := hrel
    have HG := Lib.hid hg
    have HS' := Lib.hid hS'
    have hfl := hS'.flen
    obtain ⟨fb, fo, e, hfc⟩ := row_at hin.own.reads.f (by omega)
    cases e
    have ha1 := hfc a (by omega)
    have hb1 := hfc b (by omega)
    rw [Nat.zero_add] at ha1 hb1
    have hsa := hS'.small (v := (a : Int)) (by omega)
    have hsb := hS'.small (v := (b : Int)) (by omega)
    rw [Int.toNat_natCast] at hsa hsb
    have HDN := Lib.hid (fun h : ¬ F'.getD a 0 + F'.getD b 0 < want => gathR_done (E := plE l Z) (a := (a : Int)) (b := (b : Int)) (want := want) (s := (F', T')) (by simpa using h))
    obtain ⟨d1, hd1⟩ : ∃ d1, F'.getD a 0 = d1 := ⟨_, rfl⟩
    obtain ⟨d2, hd2⟩ : ∃ d2, F'.getD b 0 = d2 := ⟨_, rfl⟩
    rw [hd1] at ha1 hsa HDN
    rw [hd2] at hb1 hsb HDN
    have HD := Lib.hid (And.intro hd1 hd2)
    have haF : (a : Int) < (F.length : Int) := by have := HFL.out; omega
    have hbF : (b : Int) < (F.length : Int) := by have := HFL.out; omega
    have HIN := Lib.hid hin
    have hcc := hin.st.cells.1
    clear hg hS' hfl hfc hd1 hd2 hin
    by_cases c1 : d1 + d2 < want
    · have e1 : decide (d1 + d2 < want) = true := by simpa using c1
      go_wp2_with fail
      go_big_quiet (fail)
      have HQ := Lib.hid (HIN.out.next (Within2.of (within_of (below_drewN wr.heap.size wr nq)) (.inl (Nat.le_refl 0))) (HIN.out.own.below (below_drewN wr.heap.size wr nq)))
      have hC1 : F'.getD (a : Int).toNat 0 + F'.getD (b : Int).toNat 0 < want := by rw [Int.toNat_natCast, Int.toNat_natCast, HD.out.1, HD.out.2]; exact c1
      have HC1 := Lib.hid hC1
      obtain ⟨_, gx0, gx1⟩ := HIN.out.box
      obtain ⟨r1, hr1⟩ : ∃ r1, findM (plE l Z) (a : Int) (b : Int) (F', T') = r1 := ⟨_, rfl⟩
      cases r1 with
      | some s' =>
        have HF1 := Lib.hid hr1
        have HK := Lib.hid (show PebS P k0 (plE l Z) s'.1 s'.2 ∧ s'.1.getD a 0 + s'.1.getD b 0 = d1 + d2 + 1 from by
          obtain ⟨k1, k2, k3⟩ := findM_ok HS'.out (a := (a : Int)) (b := (b : Int)) (by omega) (by omega) (by omega) HF1.out
          rw [Int.toNat_natCast] at k2 k3
          refine ⟨k1, ?_⟩
          rw [k2, k3, HD.out.1, HD.out.2]; omega)
        clear hr1 hC1
        go_wp2_with (go_at_call 192; refine (HQ.out.pull_yes (a := (a : Int)) (b := (b : Int)) HS.out HS'.out hP hk0 hn hz24 HZ.out ⟨by omega, by omega⟩ ⟨by omega, by omega⟩ HGT.out HF1.out).mono ?_; rintro e w6 ⟨rfl, h6⟩; obtain ⟨_, gy6, gz6⟩ := h6.box; have H6 := Lib.hid h6; clear h6)
        go_roundw
        case rel => exact ⟨s'.1, s'.2, HK.out.1, HG.out.trans (gathR_one HC1.out HF1.out (by rw [Int.toNat_natCast, Int.toNat_natCast]; show s'.1.getD a 0 + s'.1.getD b 0 = F'.getD a 0 + F'.getD b 0 + 1; rw [HK.out.2, HD.out.1, HD.out.2])), H6.out⟩
        case measure =>
          have hlen : s'.1.length = P := HK.out.1.flen
          obtain ⟨fb, fo, e, hfc⟩ := row_at H6.out.own.reads.f (by omega)
          cases e
          have q1 := hfc a (by omega)
          have q2 := hfc b (by omega)
          rw [Nat.zero_add] at q1 q2
          have q3 := HK.out.2
          rw [q1, q2, ha1, hb1]
          simp only [Option.getD_some, intOf]
          omega

      | none =>
        have HF1 := Lib.hid hr1
        obtain ⟨r2, hr2⟩ : ∃ r2, findM (plE l Z) (b : Int) (a : Int) (F', T') = r2 := ⟨_, rfl⟩
        cases r2 with
        | some s' =>
          have HF2 := Lib.hid hr2
          have HK := Lib.hid (show PebS P k0 (plE l Z) s'.1 s'.2 ∧ s'.1.getD a 0 + s'.1.getD b 0 = d1 + d2 + 1 from by
            obtain ⟨k1, k2, k3⟩ := findM_ok HS'.out (a := (b : Int)) (b := (a : Int)) (by omega) (by omega) (by omega) HF2.out
            rw [Int.toNat_natCast] at k2 k3
            refine ⟨k1, ?_⟩
            rw [k2, k3, HD.out.1, HD.out.2]; omega)
          clear hr1 hr2 hC1
          go_wp2_with (first
            | (go_at_call 192; refine (H6.out.pull_yes (a := (b : Int)) (b := (a : Int)) HS.out HS'.out hP hk0 hn hz24 HZ.out ⟨by omega, by omega⟩ ⟨by omega, by omega⟩ HGT.out HF2.out).mono ?_; rintro e w7 ⟨rfl, h7⟩; obtain ⟨_, gy7, gz7⟩ := h7.box; have H7 := Lib.hid h7; clear h7)
            | (go_at_call 192; refine (HQ.out.pull_no (a := (a : Int)) (b := (b : Int)) HS.out HS'.out hP hk0 hn hz24 HZ.out ⟨by omega, by omega⟩ ⟨by omega, by omega⟩ HGT.out HF1.out).mono ?_; rintro e w6 ⟨rfl, h6⟩; obtain ⟨_, gy6, gz6⟩ := h6.box; have H6 := Lib.hid h6; clear h6))
          go_roundw
          case rel => exact ⟨s'.1, s'.2, HK.out.1, HG.out.trans (gathR_two HC1.out HF1.out HF2.out (by rw [Int.toNat_natCast, Int.toNat_natCast]; show s'.1.getD a 0 + s'.1.getD b 0 = F'.getD a 0 + F'.getD b 0 + 1; rw [HK.out.2, HD.out.1, HD.out.2])), H7.out⟩
          case measure =>
            have hlen : s'.1.length = P := HK.out.1.flen
            obtain ⟨fb, fo, e, hfc⟩ := row_at H7.out.own.reads.f (by omega)
            cases e
            have q1 := hfc a (by omega)
            have q2 := hfc b (by omega)
            rw [Nat.zero_add] at q1 q2
            have q3 := HK.out.2
            rw [q1, q2, ha1, hb1]
            simp only [Option.getD_some, intOf]
            omega

        | none =>
          have HF2 := Lib.hid hr2
          have HLF := Lib.hid (show F'.length = F.length by rw [HS'.out.flen, HFL.out])
          have HLT := Lib.hid (show T'.length = T.length by rw [HS'.out.ends.len, HS.out.ends.len])
          clear hr1 hr2 hC1
          go_wp2_with (first
            | (go_at_call 192; refine (H6.out.pull_no (a := (b : Int)) (b := (a : Int)) HS.out HS'.out hP hk0 hn hz24 HZ.out ⟨by omega, by omega⟩ ⟨by omega, by omega⟩ HGT.out HF2.out).mono ?_; rintro e w7 ⟨rfl, h7⟩; obtain ⟨of7, ot7, oz7, x1, x2, x3⟩ := h7.own; obtain ⟨v0, v1, _, _, _, _⟩ := h7.st.cells; have OF := Lib.hid of7; have OT := Lib.hid ot7; have OZ := Lib.hid oz7; clear of7 ot7 oz7; have H7 := Lib.hid h7; clear h7)
            | (go_at_call 192; refine (HQ.out.pull_no (a := (a : Int)) (b := (b : Int)) HS.out HS'.out hP hk0 hn hz24 HZ.out ⟨by omega, by omega⟩ ⟨by omega, by omega⟩ HGT.out HF1.out).mono ?_; rintro e w6 ⟨rfl, h6⟩; obtain ⟨_, gy6, gz6⟩ := h6.box; have H6 := Lib.hid h6; clear h6)
            | (with_reducible refine wpList_back rfl _ _ rfl AT BT T' T cT bT t.1 t.2 _ _ T.length rfl rfl (OT.out.within HW8.out (by unfold Dis at x1; omega)) (H7.out.ct.within HW8.out (by have := H7.out.low; omega)) HLT.out.symm HLT.out.symm ?_; intro w9 ot9 hw9; have OT9 := Lib.hid ot9; have HW9 := Lib.hid hw9; clear ot9 hw9)
            | (with_reducible refine wpList_back rfl _ _ rfl (some ⟨gF, 0, none⟩) BF F' F cF bF f.1 f.2 _ _ F.length rfl rfl OF.out H7.out.cf HLF.out.symm HLF.out.symm ?_; intro w8 of8 hw8; have OF8 := Lib.hid of8; have HW8 := Lib.hid hw8; have HST8 := Lib.hid (H7.out.st.within hw8 H7.out.outf); obtain ⟨u0, u1, _, _, _, _⟩ := HST8.out.cells; clear of8 hw8))
          go_ret
          refine ⟨(H7.out.wit.trans (Within2.of HW8.out (by omega))).trans (Within2.of HW9.out (by omega)), .inl ⟨rfl, by rw [HG.out]; exact gathR_no HC1.out HF1.out HF2.out, ?_⟩⟩
          unfold Dis at x1 x2 x3
          have k8 := HW8.out.size
          have k9 := HW9.out.size
          exact ⟨OF8.out.within HW9.out (by omega), OT9.out, (OZ.out.within HW8.out (by omega)).within HW9.out (by omega), x1, x2, x3⟩
    · have e1 : decide (d1 + d2 < want) = false := by simpa using c1
      go_wp2_with fail
      go_big_quiet (fail)
      go_wp2_with fail
      go_ret
      have HQ := Lib.hid (HIN.out.next (Within2.of (within_of (below_drewN wr.heap.size wr nq)) (.inl (Nat.le_refl 0))) (HIN.out.own.below (below_drewN wr.heap.size wr nq)))
      exact ⟨HQ.out.wit, .inr ⟨(F', T'), rfl, by rw [HG.out]; exact HDN.out c1, HQ.out.own⟩⟩
end Go.Proofs.Ytdkpmaahinbhlaa
