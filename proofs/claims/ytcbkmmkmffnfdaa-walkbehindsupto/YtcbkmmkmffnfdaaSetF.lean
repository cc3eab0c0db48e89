import Derived.Test.YtcbkmmkmffnfdaaSetL
import Derived.Test.YtcbkmmkmffnfdaaSetQ
/-
 Lists of numbers in the logic of statements: their length, their elements.
-/
namespace Go.Proofs.Ytcbkmmkmffnfdaa
open Go Go.RowKit Nt
set_option linter.unusedSimpArgs false
set_option linter.unusedVariables false

/-- A list that came in. -/
def Lx (p : Option Addr) (n c : Nat) (es : List El) : Pr := fun v w => v = .slice p n c ∧ Ls w p n c es
section
variable {ops : Array Oper} {l : List Kd} {bx : Bxs} {sl : List (Tmp × Pr)} {i : Nat} {o : Oper} {Q : Exit → Act → World → Prop} {a0 : Act} {n0 : Nat} {w0 : World}
end
/-- What an element is worth, and the sum of the first k. -/
def El.z (e : El) : Int := sg e.s (val e.xs)
def tot (es : List El) : Nat → Int
 | 0 => 0
 | k + 1 => tot es k + (match es[k]? with | some e => e.z | none => 0)
theorem tot_succ {es : List El} {k : Nat} {e : El} (h : es[k]? = some e) : tot es (k + 1) = tot es k + sg e.s (val e.xs) := by
 show tot es k + (match es[k]? with | some e => e.z | none => 0) = _
 rw [h]
 rfl
end Go.Proofs.Ytcbkmmkmffnfdaa

/-
 Lists of numbers that grow by append.
-/
namespace Go.Proofs.Ytcbkmmkmffnfdaa
open Go Go.RowKit Nt
set_option linter.unusedSimpArgs false
set_option linter.unusedVariables false

end Go.Proofs.Ytcbkmmkmffnfdaa
