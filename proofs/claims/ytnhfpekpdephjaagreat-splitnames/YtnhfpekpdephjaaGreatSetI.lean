import Derived.Test.YtnhfpekpdephjaaGreatSetM
import Derived.Test.YtnhfpekpdephjaaGreatSetX
import Derived.Test.YtnhfpekpdephjaaGreatSetK
import Derived.Test.YtnhfpekpdephjaaGreatSetE
import Derived.Test.YtnhfpekpdephjaaGreatSetB
/-
 zint's calls upon numbers that have names: what comes back has a name too.
-/
namespace Go.Proofs.YtnhfpekpdephjaaGreat
open Go.RowKit Nt
set_option linter.unusedSimpArgs false
set_option linter.unusedVariables false
set_option maxRecDepth 20000

/-- Sign, length and limbs of a whole number in one form. -/
structure Nm (b : Bool) (L : Nat) (D : List Nat) (z : Int) : Prop where
 sgn : b = ng z
 dgs : D = digs z.natAbs
 len : D.length = L
theorem Nm.sg {b : Bool} {L : Nat} {D : List Nat} {z : Int} (h : Nm b L D z) : Go.Proofs.YtnhfpekpdephjaaGreat.sg b (val D) = z := by rw [h.sgn, h.dgs, val_digs, sg_sign]
theorem Nm.same {b b' : Bool} {L L' : Nat} {D D' : List Nat} {z z' : Int} (h : Nm b L D z) (h' : Nm b' L' D' z') (e : z = z') : b = b' ∧ D = D' := by
 subst e
 exact ⟨h.sgn.trans h'.sgn.symm, h.dgs.trans h'.dgs.symm⟩
theorem Nm.mk' (z : Int) : Nm (ng z) (digs z.natAbs).length (digs z.natAbs) z := ⟨rfl, rfl, rfl⟩

end Go.Proofs.YtnhfpekpdephjaaGreat

/-
 Quotients: the floor of A / B and what is left; zint.Floor.
-/
namespace Go.Proofs.YtnhfpekpdephjaaGreat
open Go.RowKit Nt
set_option linter.unusedSimpArgs false
set_option linter.unusedVariables false
set_option maxRecDepth 20000

/-- What stays true on the way to two structs that are handed back. -/
structure Inv2 (w w' : World) (g2 g3 : Nat) : Prop where
 below : Below w.heap.size w w'
 box2 : ∃ b r n c, Box w' g2 b r n c
 box3 : ∃ b r n c, Box w' g3 b r n c
 fresh : w.heap.size ≤ g2
 next : g2 < g3
theorem Inv2.drew {w w' : World} {g2 g3 : Nat} (h : Inv2 w w' g2 g3) : Inv2 w w'.drew g2 g3 := ⟨h.below.drew, h.box2, h.box3, h.fresh, h.next⟩
theorem Inv2.call {w w' w'' : World} {g2 g3 : Nat} (h : Inv2 w w' g2 g3) (hb : Below w'.heap.size w' w'') : Inv2 w w'' g2 g3 := by
 obtain ⟨b, r, n, c, hx⟩ := h.box2
 obtain ⟨b', r', n', c', hx'⟩ := h.box3
 exact ⟨h.below.trans (hb.mono h.below.size), ⟨b, r, n, c, hx.below hb⟩, ⟨b', r', n', c', hx'.below hb⟩, h.fresh, h.next⟩
theorem Inv2.lt {w w' : World} {g2 g3 : Nat} (h : Inv2 w w' g2 g3) : g3 < w'.heap.size := by
 obtain ⟨b', r', n', c', hx'⟩ := h.box3
 exact hx'.lt
end Go.Proofs.YtnhfpekpdephjaaGreat

/-
 zint.Floor, whole.
-/
namespace Go.Proofs.YtnhfpekpdephjaaGreat
open Go.RowKit Nt
set_option linter.unusedSimpArgs false
set_option linter.unusedVariables false
set_option maxRecDepth 20000

end Go.Proofs.YtnhfpekpdephjaaGreat
