/-
  What the row says of the library's table of powers of ten.
-/
import Derived.Test.YtaplbadcpbollaaGreatDoorTxA
namespace Go.Proofs.YtaplbadcpbollaaGreatDoor
open Go.RowKit Nt
set_option linter.unusedSimpArgs false
set_option linter.unusedVariables false
set_option maxRecDepth 20000

theorem gPow : Tryz.prog.globalNamed "internal/strconv.uint64pow10" = some 1 := by kernel_rfl
theorem gPowType : (Tryz.prog.globals[1]?).map (·.type) = some 143 := by kernel_rfl
theorem tab_of_vars {W : World} : ∀ (laid : List (String × DataW Unit)) (ps : List MemPlace), DataW.LaidVars Tryz.prog W laid ps → ("internal/strconv.uint64pow10", Lib.tabData .u64 Lib.pow10Tab) ∈ laid → Tab W
  | [], _, _, h => by cases h
  | (n, d) :: r, ps, h, hm => by
    obtain ⟨g, t, cs, fuel, p, q, hg, ht, hv, hd, hr, _⟩ := h
    rcases List.mem_cons.1 hm with e | e
    · cases e
      obtain rfl := Option.some.inj (gPow.symm.trans hg)
      obtain rfl := Option.some.inj (gPowType.symm.trans ht)
      unfold Tab Lib.TabIs
      rw [hv, ← Lib.cells_of_tab Tryz.underlying143 Tryz.underlying66 (by kernel_rfl) (by kernel_rfl) hd]
    · exact tab_of_vars r q hr e
theorem tab_of_laid {W : World} {laid : List (String × DataW Unit)} (h : laidMet Tryz.prog laid W) (hm : ("internal/strconv.uint64pow10", Lib.tabData .u64 Lib.pow10Tab) ∈ laid) : Tab W := by
  obtain ⟨ps, h1, _⟩ := h
  exact tab_of_vars laid ps h1 hm
end Go.Proofs.YtaplbadcpbollaaGreatDoor
