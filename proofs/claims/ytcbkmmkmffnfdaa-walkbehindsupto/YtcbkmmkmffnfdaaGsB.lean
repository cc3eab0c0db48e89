import Derived.Test.YtcbkmmkmffnfdaaGsA
import Derived.Test.YtcbkmmkmffnfdaaSetV
import Derived.Test.YtcbkmmkmffnfdaaSetG
import Derived.Test.YtcbkmmkmffnfdaaVcA
import Derived.Test.YtcbkmmkmffnfdaaSetQ
import Derived.Test.YtcbkmmkmffnfdaaSetH
/-
 Layer 5 in the logic: the struct of the data, its rules; what the program reckons, as functions.
-/
namespace Go.Proofs.Ytcbkmmkmffnfdaa
open Go Go.RowKit Nt
set_option linter.unusedSimpArgs false
set_option linter.unusedVariables false

section
variable {ops : Array Oper} {l : List Kd} {bx : Bxs} {sl : List (Tmp × Pr)} {i : Nat} {o : Oper} {Q : Exit → Act → World → Prop} {a0 : Act} {n : Nat} {w0 : World}
end

theorem digs_sub_len {A B : Int} {k : Nat} (h1 : (digs A.natAbs).length ≤ k) (h2 : (digs B.natAbs).length ≤ k) : (digs (A - B).natAbs).length ≤ k + 1 :=
 Nat.le_trans (digs_length_mono (by omega : (A - B).natAbs ≤ A.natAbs + B.natAbs)) (digs_add_len h1 h2)
end Go.Proofs.Ytcbkmmkmffnfdaa

/-
 gso.takenOut.
-/
namespace Go.Proofs.Ytcbkmmkmffnfdaa
open Go Go.RowKit Nt
set_option linter.unusedSimpArgs false
set_option linter.unusedVariables false


end Go.Proofs.Ytcbkmmkmffnfdaa

/-
 gso.left.
-/
namespace Go.Proofs.Ytcbkmmkmffnfdaa
open Go Go.RowKit Nt
set_option linter.unusedSimpArgs false
set_option linter.unusedVariables false


def dotR (R B : List Int) : Int := sumZ (List.zipWith (· * ·) R B)
section
variable {ops : Array Oper} {l : List Kd} {bx : Bxs} {sl : List (Tmp × Pr)} {i : Nat} {o : Oper} {Q : Exit → Act → World → Prop} {a0 : Act} {n : Nat} {w0 : World} {vs : Nat → Value} {B : Nat → Prop} {a : Act} {w : World}
end
section
variable {ops : Array Oper} {l : List Kd} {bx : Bxs} {sl : List (Tmp × Pr)} {i : Nat} {o : Oper} {Q : Exit → Act → World → Prop} {a0 : Act} {n : Nat} {w0 : World}
end

end Go.Proofs.Ytcbkmmkmffnfdaa

/-
 gso.framed, where it is well.
-/
namespace Go.Proofs.Ytcbkmmkmffnfdaa
open Go Go.RowKit Nt
set_option linter.unusedSimpArgs false
set_option linter.unusedVariables false


end Go.Proofs.Ytcbkmmkmffnfdaa

/-
 gso.Wide.
-/
namespace Go.Proofs.Ytcbkmmkmffnfdaa
open Go Go.RowKit Nt
set_option linter.unusedSimpArgs false
set_option linter.unusedVariables false


theorem one_dl : (digs (1 : Int).natAbs).length ≤ 1 := digs_length_le (by decide)
section
variable {ops : Array Oper} {l : List Kd} {bx : Bxs} {sl : List (Tmp × Pr)} {i : Nat} {o : Oper} {Q : Exit → Act → World → Prop} {a0 : Act} {n : Nat} {w0 : World}
end
end Go.Proofs.Ytcbkmmkmffnfdaa
