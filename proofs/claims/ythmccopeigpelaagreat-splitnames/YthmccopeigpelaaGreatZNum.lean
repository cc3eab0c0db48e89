/-
 zint's calls upon numbers that have names: what comes back has a name too.
-/
import Derived.Test.YthmccopeigpelaaGreatSetM
import Derived.Test.YthmccopeigpelaaGreatSetX
import Derived.Test.YthmccopeigpelaaGreatSetK
namespace Go.Proofs.YthmccopeigpelaaGreat
open Go.RowKit Nt
set_option linter.unusedSimpArgs false
set_option linter.unusedVariables false
set_option maxRecDepth 20000

/-- Sign, length and limbs of a whole number in one form. -/
structure Nm (b : Bool) (L : Nat) (D : List Nat) (z : Int) : Prop where
 sgn : b = ng z
 dgs : D = digs z.natAbs
 len : D.length = L
theorem Nm.sg {b : Bool} {L : Nat} {D : List Nat} {z : Int} (h : Nm b L D z) : Go.Proofs.YthmccopeigpelaaGreat.sg b (val D) = z := by rw [h.sgn, h.dgs, val_digs, sg_sign]
theorem Nm.same {b b' : Bool} {L L' : Nat} {D D' : List Nat} {z z' : Int} (h : Nm b L D z) (h' : Nm b' L' D' z') (e : z = z') : b = b' ∧ D = D' := by
 subst e
 exact ⟨h.sgn.trans h'.sgn.symm, h.dgs.trans h'.dgs.symm⟩
theorem Nm.mk' (z : Int) : Nm (ng z) (digs z.natAbs).length (digs z.natAbs) z := ⟨rfl, rfl, rfl⟩

end Go.Proofs.YthmccopeigpelaaGreat
