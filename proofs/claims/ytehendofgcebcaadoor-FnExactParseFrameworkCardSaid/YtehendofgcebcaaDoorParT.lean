/- The library's tables that ParseGraph reads, out of a row's 'laid' and of a world's shape; strings.Cut and strings.Fields over them. The condition: the tables read as the program lays them. -/
import Derived.Test.YtehendofgcebcaaDoorParP
import Derived.Test.YtehendofgcebcaaDoorTab
import Derived.Test.YtehendofgcebcaaDoorShelf
import Derived.Lib.LaidU8
import Derived.Lib.LaidTab
import Derived.MakeChecks
namespace Go.Proofs.YtehendofgcebcaaDoor
open Go.RowKit

theorem gAsc : Tryd.prog.globalNamed "strings.asciiSpace" = some 0 := by kernel_rfl
/-- The tables that are read, and the variable that the shape gives. -/
def Tabs (w : World) : Prop := Tab w ∧ Lib.TabIs Tryd.prog w "strings.asciiSpace" .u8 Lib.asciiSpaceTab ∧ Lib.WhiteTab 1 w ∧ ∃ m : Int, w.cell? ⟨2, 0, none⟩ = some (.int .i64 m)
theorem Tabs.below {w w' : World} (h : Tabs w) (hb : Below w.heap.size w w') : Tabs w' := by
  obtain ⟨h1, h2, h3, m, h4⟩ := h
  exact ⟨h1.below hb, Lib.tabBelow_of_tabIs h2 w' hb, WhiteTab_below h3 hb, m, (hb.cell (World.block_lt_of_cell? _ _ h4)).trans h4⟩
theorem Tabs.cut {w : World} (h : Tabs w) : CutOk w := by
  intro W x c hb hx
  obtain ⟨_, _, _, m, h4⟩ := h.below hb
  refine (Tryd.strings_Cut x ⟨#[c]⟩ m W (by omega) h4).mono ?_
  rintro e w' ⟨rfl, n, rfl⟩
  exact ⟨rfl, below_drewN _ _ _⟩
theorem Tabs.fields {w : World} (h : Tabs w) : FieldsOk w := by
  intro W x hb hx
  obtain ⟨_, h2, h3, _⟩ := h.below hb
  refine (Tryd.strings_Fields_any x W (by omega) h2 h3).mono ?_
  rintro e w' ⟨g, rfl, hg, ho, hb'⟩
  refine ⟨g, rfl, hg, ?_, hb'⟩
  unfold OwnStrs strVals
  rw [List.length_map, List.map_map]
  exact ho
theorem asc_of_laid {W : World} {laid : List (String × DataW Unit)} (i : Nat) (h : laidMetH Tryd.prog laid W) (hp : (laid.all fun x => x.2.handleName?.isNone) = true) (hm : laid[i]? = some ("strings.asciiSpace", Lib.tabData .u8 Lib.asciiSpaceTab)) : Lib.TabIs Tryd.prog W "strings.asciiSpace" .u8 Lib.asciiSpaceTab := by
  rw [MakeChecks.laidMetH_plain _ _ _ hp] at h
  obtain ⟨ps, hl, _, _⟩ := h
  obtain ⟨_, g, t, cs, fuel, p, q, hg, ht, hv, hd, _, _⟩ := laid_mem hl (List.mem_of_getElem? hm)
  obtain rfl := Option.some.inj (gAsc.symm.trans hg)
  obtain rfl := Option.some.inj ((show (Tryd.prog.globals[0]?).map (·.type) = some 91 by kernel_rfl).symm.trans ht)
  unfold Lib.TabIs
  rw [hv, ← Lib.cells_of_tab Tryd.underlying91 Tryd.underlying5 (by kernel_rfl) (by kernel_rfl) hd]
theorem tabs_of_laid {W : World} {laid : List (String × DataW Unit)} (h : laidMetH Tryd.prog laid W) (hsh : W.ShapedOpen Tryd.prog) (hp : (laid.all fun x => x.2.handleName?.isNone) = true)
    (h2 : laid[2]? = some ("internal/strconv.uint64pow10", Lib.tabData .u64 Lib.pow10Tab)) (h3 : laid[3]? = some ("unicode.White_Space", Lib.whiteData)) (h4 : laid[4]? = some ("strings.asciiSpace", Lib.tabData .u8 Lib.asciiSpaceTab)) : Tabs W := by
  refine ⟨tab_of_laid 2 h hp h2, asc_of_laid 4 h hp h4, ?_, Tryd.laysM145.s1_3 W hsh⟩
  rw [MakeChecks.laidMetH_plain _ _ _ hp] at h
  exact whiteTab_of_reads Tryd.lays199 ⟨by kernel_rfl, by kernel_rfl, by kernel_rfl, by kernel_rfl, by kernel_rfl, by kernel_rfl, by kernel_rfl, by kernel_rfl⟩ (Lib.laidMet.reads h (List.mem_of_getElem? h3))
theorem implParseT (s : ByteArray) (w : World) (hs : s.size ≤ 1048576) (ht : Tabs w) : Calls Tryd.prog 33 #[.string s] w (ParseO w s) := implParse s w hs ht.1 ht.cut ht.fields
end Go.Proofs.YtehendofgcebcaaDoor
