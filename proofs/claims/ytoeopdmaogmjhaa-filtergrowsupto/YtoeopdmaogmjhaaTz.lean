/-
 math/bits.TrailingZeros32 over its table; zint.noughts; calls that read the table.
-/
import Derived.Shelf.Spec.TrailingZeros
import Derived.Lib.LaidTab
import Derived.Test.YtoeopdmaogmjhaaRsK
import Derived.Test.YtoeopdmaogmjhaaZSmall
namespace Go.Proofs.Ytoeopdmaogmjhaa
open Go Go.RowKit Nt
set_option linter.unusedSimpArgs false
set_option linter.unusedVariables false
set_option maxRecDepth 20000

theorem Sta.more {w0 W : World} {n : Nat} {bx : Bxs} {sl : List (Tmp × Pr)} {B : Nat → Prop} {a : Act} (S : Sta w0 n bx sl B a W) (t : Nat) {φ : Pr} (h : ∀ v, Has B W φ v) : Sta w0 n bx (sl ++ [(t, φ)]) B a W :=
 ⟨S.ent, S.bnd, S.siz, S.dfr, S.box, S.sep, fun x hx => by
  rcases List.mem_append.1 hx with h1 | h1
  ·exact S.slt x h1
  ·rw [List.mem_singleton.1 h1]; exact h _⟩
section
variable {ops : Array Oper} {l : List Kd} {bx : Bxs} {sl : List (Tmp × Pr)} {i : Nat} {o : Oper} {Q : Exit → Act → World → Prop} {a0 : Act} {n : Nat} {w0 : World}
end
end Go.Proofs.Ytoeopdmaogmjhaa
