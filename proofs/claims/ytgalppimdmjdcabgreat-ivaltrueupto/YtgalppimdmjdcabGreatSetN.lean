import Derived.Test.YtgalppimdmjdcabGreatSetG
import Derived.Test.YtgalppimdmjdcabGreatSetW
/-
  Make of a numerator and a denominator by their names, of either sign; the denominators' product.
-/
namespace Go.Proofs.YtgalppimdmjdcabGreat
open Go.RowKit Nt
set_option linter.unusedSimpArgs false
set_option linter.unusedVariables false
set_option maxRecDepth 20000

/-- The numerator, once the denominator's sign is taken away. -/
def sw (t : Bool) (P : Int) : Int := if t then -P else P

theorem den_nm {b : Bool} {L : Nat} {D : List Nat} {t : Bool} {y x : Nat} (h : Nm b L D (sg false y * sg t x)) (h0 : y * x ≠ 0) : b = t ∧ D = digs (y * x) := by
  have e : sg false y * sg t x = sg t (y * x) := by cases t <;> simp [sg, Int.mul_neg]
  rw [e] at h
  refine ⟨?_, by rw [h.dgs, sg_abs]⟩
  rw [h.sgn]
  generalize y * x = z at h0
  unfold ng sg
  cases t with
  | false => simp
  | true => simp; omega
theorem rmake_any (W : World) (t b : Bool) (L : Nat) (D : List Nat) (r : Option Addr) (cr L' : Nat) (r' : Option Addr) (cr' : Nat) (P : Int) (Y : Nat) (hr : Sl W r L cr D) (hN : Nm b L D P) (hr' : Sl W r' L' cr' (digs Y)) (hY : Y ≠ 0) (hl : L ≤ 67108864) (hl' : L' ≤ 67108864) :
    Calls Tryz.prog 29 #[.agg #[.bool b, .slice r L cr], .agg #[.bool t, .slice r' L' cr']] W (Rt W (nR (sw t P) Y) (dR (sw t P) Y) 67108864 67108864) := by
  have key : Calls Tryz.prog 29 #[.agg #[.bool b, .slice r L cr], .agg #[.bool t, .slice r' L' cr']] W (Rt W (nR (sw t P) Y) (dR (sw t P) Y) L L') := by
    cases t with
    | false =>
      have := rmake_c W b r r' L cr L' cr' D (digs Y) hr hr' (by rw [val_digs]; exact hY) (by omega) (by omega)
      rw [val_digs, ← nR_sg, ← dR_sg b, hN.sg] at this
      exact this
    | true =>
      have := rmake_neg W b r r' L cr L' cr' D (digs Y) hr hr' (by rw [val_digs]; exact hY) (by omega) (by omega)
      rw [val_digs, ← nR_sg, ← dR_sg (!b), sg_not, hN.sg] at this
      exact this
  refine key.mono ?_
  rintro e w' ⟨b1, L1, D1, r1, k1, L2, r2, k2, z1, z2, z3, z4, z5, z6, z7, z8, z9⟩
  exact ⟨b1, L1, D1, r1, k1, L2, r2, k2, z1, z2, z3, z4, z5, by omega, by omega, z8, z9⟩
end Go.Proofs.YtgalppimdmjdcabGreat

/-
  rat.Make and rat.lowest of a numerator and a denominator by their names.
-/
namespace Go.Proofs.YtgalppimdmjdcabGreat
open Go.RowKit Nt
set_option linter.unusedSimpArgs false
set_option linter.unusedVariables false
set_option maxRecDepth 20000

end Go.Proofs.YtgalppimdmjdcabGreat

/-
  rat.Mul and rat.Div.
-/
namespace Go.Proofs.YtgalppimdmjdcabGreat
open Go.RowKit Nt
set_option linter.unusedSimpArgs false
set_option linter.unusedVariables false
set_option maxRecDepth 20000

end Go.Proofs.YtgalppimdmjdcabGreat
