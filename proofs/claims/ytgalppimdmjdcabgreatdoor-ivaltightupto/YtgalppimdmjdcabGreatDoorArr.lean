/-
  Lists by what is said of their elements: read, made, written in place, handed on; functions as values.
-/
import Derived.Test.YtgalppimdmjdcabGreatDoorSetY
namespace Go.Proofs.YtgalppimdmjdcabGreatDoor
open Go Go.RowKit Nt
set_option linter.unusedSimpArgs false
set_option linter.unusedVariables false
set_option maxRecDepth 20000

/-- It holds, whatever is made beside it. -/
abbrev Hs (w : World) (φ : Pr) (v : Value) : Prop := Has (fun _ => False) w φ v
theorem Has.hs {B : Nat → Prop} {w : World} {φ : Pr} {v : Value} (h : Has B w φ v) : Hs w φ v := fun w' e => h w' (e.mono (fun _ h => h.elim))
theorem Hs.below {w w' : World} {φ : Pr} {v : Value} (h : Hs w φ v) (b : Below w.heap.size w w') : Hs w' φ v := h.go (Ev.of_below b) (fun _ _ h => h)

section
variable {ops : Array Oper} {l : List Kd} {bx : Bxs} {sl : List (Tmp × Pr)} {i : Nat} {o : Oper} {Q : Exit → Act → World → Prop} {a0 : Act} {n0 : Nat} {w0 : World}
end

section
variable {ops : Array Oper} {l : List Kd} {bx : Bxs} {sl : List (Tmp × Pr)} {i : Nat} {o : Oper} {Q : Exit → Act → World → Prop} {a0 : Act} {n0 : Nat} {w0 : World}
end

section
variable {ops : Array Oper} {l : List Kd} {bx : Bxs} {sl : List (Tmp × Pr)} {i : Nat} {o : Oper} {Q : Exit → Act → World → Prop} {a0 : Act} {n : Nat} {w0 : World}
end
end Go.Proofs.YtgalppimdmjdcabGreatDoor
