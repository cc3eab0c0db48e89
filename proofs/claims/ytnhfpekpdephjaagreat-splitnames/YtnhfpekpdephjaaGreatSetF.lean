import Derived.Test.YtnhfpekpdephjaaGreatSetL
import Derived.Test.YtnhfpekpdephjaaGreatSetQ
/-
 Lists of numbers in the logic of statements: their length, their elements.
-/
namespace Go.Proofs.YtnhfpekpdephjaaGreat
open Go Go.RowKit Nt
set_option linter.unusedSimpArgs false
set_option linter.unusedVariables false
set_option maxRecDepth 20000

section
variable {ops : Array Oper} {l : List Kd} {bx : Bxs} {sl : List (Tmp × Pr)} {i : Nat} {o : Oper} {Q : Exit → Act → World → Prop} {a0 : Act} {n0 : Nat} {w0 : World}
end
/-- What an element is worth, and the sum of the first k. -/
def El.z (e : El) : Int := sg e.s (val e.xs)
def tot (es : List El) : Nat → Int
 | 0 => 0
 | k + 1 => tot es k + (match es[k]? with | some e => e.z | none => 0)
theorem tot_succ {es : List El} {k : Nat} {e : El} (h : es[k]? = some e) : tot es (k + 1) = tot es k + sg e.s (val e.xs) := by
 show tot es k + (match es[k]? with | some e => e.z | none => 0) = _
 rw [h]
 rfl
end Go.Proofs.YtnhfpekpdephjaaGreat

/-
 Lists of numbers that grow by append.
-/
namespace Go.Proofs.YtnhfpekpdephjaaGreat
open Go Go.RowKit Nt
set_option linter.unusedSimpArgs false
set_option linter.unusedVariables false
set_option maxRecDepth 20000

/-- The cells of numbers that lie side by side. -/
def cellsL (fs : List El) : List Value := fs.flatMap fun f => [.bool f.s, .slice f.p f.n f.c]
/-- These cells hold numbers with the signs and the limbs of es. -/
def CL (es : List El) : List Value → World → Prop := fun ys w => ∃ fs : List El, ys = cellsL fs ∧ fs.length = es.length ∧ ∀ (i : Nat) (f e : El), fs[i]? = some f → es[i]? = some e → f.s = e.s ∧ f.n = e.n ∧ f.xs = e.xs ∧ Sl w f.p f.n f.c f.xs
end Go.Proofs.YtnhfpekpdephjaaGreat
