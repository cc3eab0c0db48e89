/-
  zint's calls upon numbers that have names: what comes back has a name too.
-/
import Derived.Test.YtdlhgmfahdbgmaaSetM
import Derived.Test.YtdlhgmfahdbgmaaSetX
import Derived.Test.YtdlhgmfahdbgmaaSetK
namespace Go.Proofs.Ytdlhgmfahdbgmaa
open Go.RowKit Nt
set_option linter.unusedSimpArgs false
set_option linter.unusedVariables false
set_option maxRecDepth 20000

/-- Sign, length and limbs of a whole number in one form. -/
structure Nm (b : Bool) (L : Nat) (D : List Nat) (z : Int) : Prop where
  sgn : b = ng z
  dgs : D = digs z.natAbs
  len : D.length = L
theorem Nm.sg {b : Bool} {L : Nat} {D : List Nat} {z : Int} (h : Nm b L D z) : Go.Proofs.Ytdlhgmfahdbgmaa.sg b (val D) = z := by rw [h.sgn, h.dgs, val_digs, sg_sign]
theorem Nm.same {b b' : Bool} {L L' : Nat} {D D' : List Nat} {z z' : Int} (h : Nm b L D z) (h' : Nm b' L' D' z') (e : z = z') : b = b' ∧ D = D' := by
  subst e
  exact ⟨h.sgn.trans h'.sgn.symm, h.dgs.trans h'.dgs.symm⟩
theorem Nm.mk' (z : Int) : Nm (ng z) (digs z.natAbs).length (digs z.natAbs) z := ⟨rfl, rfl, rfl⟩

theorem zmul_g (w : World) (s t : Bool) (p q : Option Addr) (n c m d : Nat) (xs ys : List Nat) (A B : Int) (eA : sg s (val xs) = A) (eB : sg t (val ys) = B) (h : Sl w p n c xs) (h' : Sl w q m d ys) (hs : n + m ≤ 70368744177664) :
    Calls Try.prog 23 #[.agg #[.bool s, .slice p n c], .agg #[.bool t, .slice q m d]] w fun e w' => ∃ b L D r cr, e = .returned (.agg #[.bool b, .slice r L cr]) ∧ Below w.heap.size w w' ∧ Hid (Sl w' r L cr D) ∧ Hid (Nm b L D (A * B)) ∧ L ≤ n + m := by
  refine (zmul_c w s t p q n c m d xs ys h h' hs).mono ?_
  rintro e w' ⟨r, cr, rfl, Z⟩
  subst eA eB
  refine ⟨_, _, _, r, cr, rfl, Z.below, Z.sl, Nm.mk' _, ?_⟩
  rw [Int.natAbs_mul, sg_abs, sg_abs]
  exact digs_mul_len h.dl h'.dl

end Go.Proofs.Ytdlhgmfahdbgmaa
