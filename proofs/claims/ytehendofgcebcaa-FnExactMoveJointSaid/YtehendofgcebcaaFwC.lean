/- A framework copied by the program: impl.Framework.clone. No condition. -/
import Derived.Test.YtehendofgcebcaaCopy
import Derived.Test.YtehendofgcebcaaPlq
import Derived.Test.YtehendofgcebcaaFw
import Derived.Deep.RegionHeld3
namespace Go.Proofs.Ytehendofgcebcaa
open Go.RowKit

theorem OwnIn.widen {W : World} {lo hi lo' hi' : Nat} {A : Option Addr} {cap : Nat} {l : List (Int × Int)} (h : OwnIn W lo hi A cap l) (h1 : lo' ≤ lo) (h2 : hi ≤ hi') (h3 : hi' ≤ W.heap.size) : OwnIn W lo' hi' A cap l :=
  ⟨h3, by
    rcases h.2 with h4 | ⟨g, e, h5, h6, ho⟩
    · exact .inl h4
    · exact .inr ⟨g, e, by omega, by omega, own_base ho h1⟩⟩

set_option maxHeartbeats 4000000 in
set_option maxRecDepth 100000 in
theorem fclone_c (p : Int) (l m : List (Int × Int)) (A : Option Addr) (ca : Nat) (B : Option Addr) (cb : Nat) (lo hi : Nat) (w : World) (hl : FwIn w lo hi A l B m) (hn : l.length + m.length ≤ 1048576) :
    Calls Try.prog 118 #[.agg #[.int .i64 p, .slice A l.length ca, .slice B m.length cb]] w (FwO w p l m) := by
  have HGC := Lib.hid fun (W : World) (h : BarsAt W W.heap.size A l) => clone_c p l A ca W h (by omega)
  have HPC := Lib.hid fun (W : World) (h : BarsAt W W.heap.size B m) => slCloneP m B cb W h (by omega)
  have hf := FbI.new (p := p) (ca := ca) (cb := cb) hl 63
  have hs1 : (w.alloc (.cells #[.int .i64 p, .slice A l.length ca, .slice B m.length cb] 63)).heap.size = w.heap.size + 1 := by simp
  clear hl
  go_enter Try.func118, Try.ntmps118
  go_wp2_with fail
  generalize (w.alloc (.cells #[.int .i64 p, .slice A l.length ca, .slice B m.length cb] 63)) = w1 at *
  have hr := cel3_new w1 (.int .i64 0) (.slice none 0 0) (.slice none 0 0) 63
  have hf2 := hf.below (new_below w1 (.cells #[.int .i64 0, .slice none 0 0, .slice none 0 0] 63))
  rw [hs1] at hr
  generalize (w1.alloc (.cells #[.int .i64 0, .slice none 0 0, .slice none 0 0] 63)) = w2 at *
  have HF2 := Lib.hid hf2
  have hdr : Below w2.heap.size w2 w2.drew := (Below.refl _ _).drew
  have HF3 := Lib.hid (hf2.below hdr)
  have HR3 := Lib.hid (hr.kept hdr)
  have hlt2 := hr.lt
  clear hf hf2 hr hdr
  obtain ⟨_, x0, x1, x2⟩ := HF2.out.x
  go_region_held3 (fun W' => W'.cell? ⟨w.heap.size, 0, none⟩ = some (.int .i64 p) ∧ W'.cell? ⟨w.heap.size, 1, none⟩ = some (.slice A l.length ca) ∧ W'.cell? ⟨w.heap.size, 2, none⟩ = some (.slice B m.length cb))
    (first | exact HF3.out.x.2 | exact HF4.out.x.2 | exact HF5.out.x.2 | exact (HF5.out.x.within (ret3 HR5.out _ _ _).2 (.inl (Nat.lt_succ_self _))).2 | fail)
    (first
      | (go_at_call 149; refine (HGC.out _ HF3.out.f.b.at).mono ?_; rintro e w4 ⟨A2, c2, rfl, ho, hb⟩; have HF4 := Lib.hid (HF3.out.below hb); have HR4 := Lib.hid (HR3.out.kept hb); have HG4 := Lib.hid ho; have HS4 := Lib.hid hb.size; clear ho hb)
      | (go_at_call 150; refine (HPC.out _ HF4.out.f.p.at).mono ?_; rintro e w5 ⟨B2, d2, rfl, ho, hb⟩; have HF5 := Lib.hid (HF4.out.below hb); have HR5 := Lib.hid (HR4.out.kept hb); have HG5 := Lib.hid (HG4.out.within (within_of hb) (.inr (Nat.zero_le _))); have HP5 := Lib.hid (own_pl' ho); have HS5 := Lib.hid hb.size; obtain ⟨o0, o1, o2, f0, f1, f2⟩ := HR5.out.cells; clear ho hb))
  go_wp2_with fail
  obtain ⟨hc, hw⟩ := ret3 HR5.out (.int .i64 p) (.slice A2 l.length c2) (.slice B2 m.length d2)
  have hB6 := within_on HF5.out.b hw HF5.out.b.size (.inl (by omega))
  have h4 := HS4.out
  have h5 := HS5.out
  have hw6 := hw.size
  have hg6 := HG5.out.within hw (.inr hlt2)
  have hp6 := HP5.out.within hw (.inr (by have : w2.drew.heap.size = w2.heap.size := rfl; omega))
  generalize ((w5.setCell ⟨w.heap.size + 1, 0, none⟩ (.int .i64 p)).setCell ⟨w.heap.size + 1, 1, none⟩ (.slice A2 l.length c2)).setCell ⟨w.heap.size + 1, 2, none⟩ (.slice B2 m.length d2) = w6 at *
  obtain ⟨c0, c1, c2', _, _, _⟩ := hc.cells
  refine bodyPost_ret (v := .agg #[.int .i64 p, .slice A2 l.length c2, .slice B2 m.length d2]) ?_ rfl ⟨A2, c2, B2, d2, rfl, ⟨(w2.drew.heap.size, w4.heap.size), (w4.heap.size, w5.heap.size), hg6, hp6, .inl (Nat.le_refl _), ⟨?_, ?_⟩, ⟨?_, ?_⟩, Nat.le_refl _⟩, ?_⟩
  · simp [results, Try.results118, go_sem, c0, c1, c2']
  · show w.heap.size ≤ w2.heap.size
    omega
  · show w4.heap.size ≤ w6.heap.size
    omega
  · show w.heap.size ≤ w4.heap.size
    have : w2.drew.heap.size = w2.heap.size := rfl
    omega
  · show w5.heap.size ≤ w6.heap.size
    omega
  · exact hB6
end Go.Proofs.Ytehendofgcebcaa
