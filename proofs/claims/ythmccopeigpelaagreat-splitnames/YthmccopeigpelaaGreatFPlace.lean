/-
 Floats by their places: each float that is no NaN has a place, a whole number; both noughts have one; floats stand to each other as their places do.
-/
import Derived.Laws.FloatArith
namespace Go.Proofs.YthmccopeigpelaaGreat
open Go
set_option linter.unusedSimpArgs false
set_option linter.unusedVariables false
set_option maxRecDepth 20000

/-- The magnitude at a place from nought on, in units of the least float. -/
def mg (r : Nat) : Nat := if r < 4503599627370496 then r else (4503599627370496 + r % 4503599627370496) * 2 ^ (r / 4503599627370496 - 1)
theorem mg_step (r : Nat) : mg r < mg (r + 1) := by
 unfold mg
 by_cases h : r + 1 < 4503599627370496
 ·rw [if_pos h, if_pos (by omega)]; omega
 ·rw [if_neg h]
  by_cases h0 : r < 4503599627370496
  ·obtain rfl : r = 4503599627370495 := by omega
   rw [if_pos h0]; decide
  ·rw [if_neg h0]
   obtain ⟨q, f, hq, hf⟩ : ∃ q f, r = 4503599627370496 * q + f ∧ f < 4503599627370496 := ⟨r / 4503599627370496, r % 4503599627370496, (Nat.div_add_mod _ _).symm, Nat.mod_lt _ (by decide)⟩
   have e1 : r / 4503599627370496 = q := by omega
   have e2 : r % 4503599627370496 = f := by omega
   rw [e1, e2]
   obtain ⟨m, rfl⟩ : ∃ m, q = m + 1 := ⟨q - 1, by omega⟩
   have hp : 0 < 2 ^ m := Nat.two_pow_pos m
   by_cases hl : f + 1 = 4503599627370496
   ·have e3 : (r + 1) / 4503599627370496 = m + 2 := by omega
    have e4 : (r + 1) % 4503599627370496 = 0 := by omega
    rw [e3, e4, show m + 2 - 1 = m + 1 from rfl, Nat.add_sub_cancel, Nat.pow_succ]
    generalize 2 ^ m = P at *
    have : f = 4503599627370495 := by omega
    subst this
    omega
   ·have e3 : (r + 1) / 4503599627370496 = m + 1 := by omega
    have e4 : (r + 1) % 4503599627370496 = f + 1 := by omega
    rw [e3, e4]
    exact Nat.mul_lt_mul_of_pos_right (by omega) hp
theorem mg_mono {r s : Nat} (h : r < s) : mg r < mg s := by
 induction s with
 | zero => omega
 | succ s ih =>
  rcases Nat.lt_or_ge r s with h1 | h1
  ·exact Nat.lt_trans (ih h1) (mg_step s)
  ·obtain rfl : r = s := by omega
   exact mg_step r
end Go.Proofs.YthmccopeigpelaaGreat
