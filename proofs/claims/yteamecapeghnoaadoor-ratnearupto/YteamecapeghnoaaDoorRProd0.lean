/-
  Make of a numerator and a denominator by their names, of either sign; the denominators' product.
-/
import Derived.Test.YteamecapeghnoaaDoorSetG
import Derived.Test.YteamecapeghnoaaDoorRMakeNeg
namespace Go.Proofs.YteamecapeghnoaaDoor
open Go.RowKit Nt
set_option linter.unusedSimpArgs false
set_option linter.unusedVariables false
set_option maxRecDepth 20000

/-- The numerator, once the denominator's sign is taken away. -/
def sw (t : Bool) (P : Int) : Int := if t then -P else P

theorem den_nm {b : Bool} {L : Nat} {D : List Nat} {t : Bool} {y x : Nat} (h : Nm b L D (sg false y * sg t x)) (h0 : y * x ≠ 0) : b = t ∧ D = digs (y * x) := by
  have e : sg false y * sg t x = sg t (y * x) := by cases t <;> simp [sg, Int.mul_neg]
  rw [e] at h
  refine ⟨?_, by rw [h.dgs, sg_abs]⟩
  rw [h.sgn]
  generalize y * x = z at h0
  unfold ng sg
  cases t with
  | false => simp
  | true => simp; omega
theorem den_nm0 {b : Bool} {L : Nat} {D : List Nat} {t : Bool} {y x : Nat} (h : Nm b L D (sg false y * sg t x)) (h0 : x = 0) : val D = 0 := by
  have e : sg false y * sg t x = 0 := by subst h0; cases t <;> simp [sg]
  rw [h.dgs, val_digs, e]; rfl

end Go.Proofs.YteamecapeghnoaaDoor
