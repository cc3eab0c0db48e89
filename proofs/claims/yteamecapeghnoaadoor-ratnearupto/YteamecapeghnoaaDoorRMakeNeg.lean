/-
  The document's Make, of a denominator below 0.
-/
import Derived.Test.YteamecapeghnoaaDoorRMake
import Derived.Test.YteamecapeghnoaaDoorSetF
namespace Go.Proofs.YteamecapeghnoaaDoor
open Go.RowKit Nt
set_option linter.unusedSimpArgs false
set_option linter.unusedVariables false
set_option maxRecDepth 20000

theorem rboxFar1 {w : World} {b b' n c m d : Nat} {s t : Bool} {p q : Option Addr} {v0 v1 : Value} (h : RBox w b s p n c t q m d) (hb : b ≠ b') : RBox ((w.setCell ⟨b', 0, none⟩ v0).setCell ⟨b', 1, none⟩ v1) b s p n c t q m d := by
  show _ = _
  rw [Below.heap_setCell _ _ _ _ (by simpa using hb), Below.heap_setCell _ _ _ _ (by simpa using hb)]
  exact h

end Go.Proofs.YteamecapeghnoaaDoor
