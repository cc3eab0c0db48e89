import Derived.Test.YtoeopdmaogmjhaaRsK
import Derived.Test.YtoeopdmaogmjhaaSetR
/-
 More of the document's rationals and of the laws' questions, in the form that the logic of statements takes.
-/
namespace Go.Proofs.Ytoeopdmaogmjhaa
open Go Go.RowKit Nt
set_option linter.unusedSimpArgs false
set_option linter.unusedVariables false
set_option maxRecDepth 20000

end Go.Proofs.Ytoeopdmaogmjhaa

/-
 The document's product of rationals, and quotient by one above nought.
-/
namespace Go.Proofs.Ytoeopdmaogmjhaa
open Go Go.RowKit Nt
set_option linter.unusedSimpArgs false
set_option linter.unusedVariables false
set_option maxRecDepth 20000

theorem zv_dlR {A : Int} {k : Nat} {u : Value} {w : World} (h : Zv A k u w) : (digs A.natAbs).length ≤ k := by
 obtain ⟨s, p, n, c, xs, rfl, h1, rfl, h2⟩ := h
 exact Nat.le_trans (sg_dl h1) h2

end Go.Proofs.Ytoeopdmaogmjhaa
