/-
  zint's calls upon numbers that have names: what comes back has a name too.
-/
import Derived.Test.YtcngoobdknifdaaDoorZAdd
import Derived.Test.YtcngoobdknifdaaDoorZForm
import Derived.Test.YtcngoobdknifdaaDoorCalc
namespace Go.Proofs.YtcngoobdknifdaaDoor
open Go.RowKit Nt
set_option linter.unusedSimpArgs false
set_option linter.unusedVariables false

/-- Sign, length and limbs of a whole number in one form. -/
structure Nm (b : Bool) (L : Nat) (D : List Nat) (z : Int) : Prop where
  sgn : b = ng z
  dgs : D = digs z.natAbs
  len : D.length = L
theorem Nm.sg {b : Bool} {L : Nat} {D : List Nat} {z : Int} (h : Nm b L D z) : Go.Proofs.YtcngoobdknifdaaDoor.sg b (val D) = z := by rw [h.sgn, h.dgs, val_digs, sg_sign]
theorem Nm.same {b b' : Bool} {L L' : Nat} {D D' : List Nat} {z z' : Int} (h : Nm b L D z) (h' : Nm b' L' D' z') (e : z = z') : b = b' ∧ D = D' := by
  subst e
  exact ⟨h.sgn.trans h'.sgn.symm, h.dgs.trans h'.dgs.symm⟩
theorem Nm.mk' (z : Int) : Nm (ng z) (digs z.natAbs).length (digs z.natAbs) z := ⟨rfl, rfl, rfl⟩

theorem eq_g (w : World) (b b' : Bool) (p q : Option Addr) (n c m d : Nat) (xs ys : List Nat) (h : Sl w p n c xs) (h' : Sl w q m d ys) (e : b = b' ∧ xs = ys) :
    Calls Tryd.prog 7 #[.agg #[.bool b, .slice p n c], .agg #[.bool b', .slice q m d]] w fun e w' => e = .returned (.bool true) ∧ Below w.heap.size w w' := by
  obtain ⟨rfl, rfl⟩ := e
  exact eq_c w b p q n c m d xs h h'

end Go.Proofs.YtcngoobdknifdaaDoor
