import Derived.Test.YtnhfpekpdephjaaGreatRsC
/-
 The document's sums and differences of rationals that may be; their order.
-/
namespace Go.Proofs.YtnhfpekpdephjaaGreat
open Go.RowKit Nt
set_option linter.unusedSimpArgs false
set_option linter.unusedVariables false
set_option maxRecDepth 20000

/-- What stays true on the way to a rational that is handed back. -/
structure RInv (w w' : World) (g2 : Nat) : Prop where
 below : Below w.heap.size w w'
 box : ∃ s p n c t q m d, RBox w' g2 s p n c t q m d
 fresh : w.heap.size ≤ g2
theorem RInv.drew {w w' : World} {g2 : Nat} (h : RInv w w' g2) : RInv w w'.drew g2 := ⟨h.below.drew, h.box, h.fresh⟩
theorem RInv.call {w w' w'' : World} {g2 : Nat} (h : RInv w w' g2) (hb : Below w'.heap.size w' w'') : RInv w w'' g2 := by
 obtain ⟨s, p, n, c, t, q, m, d, hx⟩ := h.box
 exact ⟨h.below.trans (hb.mono h.below.size), ⟨s, p, n, c, t, q, m, d, hx.below hb⟩, h.fresh⟩
theorem RInv.lt {w w' : World} {g2 : Nat} (h : RInv w w' g2) : g2 < w'.heap.size := by
 obtain ⟨s, p, n, c, t, q, m, d, hx⟩ := h.box
 exact hx.lt
theorem RInv.set {w w' : World} {g2 : Nat} (h : RInv w w' g2) (s : Bool) (p : Option Addr) (n c : Nat) (t : Bool) (q : Option Addr) (m d : Nat) : RInv w ((((w'.setCell ⟨g2, 0, none⟩ (.bool s)).setCell ⟨g2, 1, none⟩ (.slice p n c)).setCell ⟨g2, 2, none⟩ (.bool t)).setCell ⟨g2, 3, none⟩ (.slice q m d)) g2 := by
 obtain ⟨s0, p0, n0, c0, t0, q0, m0, d0, hx⟩ := h.box
 exact ⟨below_set4 h.below h.fresh, ⟨_, _, _, _, _, _, _, _, hx.set s p n c t q m d⟩, h.fresh⟩

section
variable {w w1 w2 : World} {a1 a2 a3 a4 a5 a6 a7 a8 : Addr} {v1 v2 v3 v4 v5 v6 v7 v8 : Value} {g2 : Nat}
end

/-- The numerator of X by Y in lowest terms. -/
def nR (X : Int) (Y : Nat) : Int := sg (ng X) (X.natAbs / Nat.gcd X.natAbs Y)
/-- The denominator. -/
def dR (X : Int) (Y : Nat) : Nat := Y / Nat.gcd X.natAbs Y
theorem mul_sg (G : Nat) (s : Bool) (x : Nat) : (G : Int) * sg s x = sg s (G * x) := by cases s <;> simp [sg, Int.mul_neg]
theorem g_nR (X : Int) (Y : Nat) : (Nat.gcd X.natAbs Y : Int) * nR X Y = X := by
 unfold nR
 rw [mul_sg, Nat.mul_div_cancel' (Nat.gcd_dvd_left _ _), sg_sign]
theorem g_dR (X : Int) (Y : Nat) : Nat.gcd X.natAbs Y * dR X Y = Y := by
 unfold dR
 exact Nat.mul_div_cancel' (Nat.gcd_dvd_right _ _)
section
variable {w w1 w2 : World} {a1 a2 a3 a4 a5 a6 a7 a8 : Addr} {v1 v2 v3 v4 v5 v6 v7 v8 : Value} {g2 : Nat}
end

end Go.Proofs.YtnhfpekpdephjaaGreat

/-
 The document's negative of a rational that may be.
-/
namespace Go.Proofs.YtnhfpekpdephjaaGreat
open Go.RowKit Nt
set_option linter.unusedSimpArgs false
set_option linter.unusedVariables false
set_option maxRecDepth 20000

end Go.Proofs.YtnhfpekpdephjaaGreat

/-
 The document's sum of two rationals that may be; the difference; the order.
-/
namespace Go.Proofs.YtnhfpekpdephjaaGreat
open Go.RowKit Nt
set_option linter.unusedSimpArgs false
set_option linter.unusedVariables false
set_option maxRecDepth 20000

end Go.Proofs.YtnhfpekpdephjaaGreat

/-
 The document's difference of two rationals that may be, and their order.
-/
namespace Go.Proofs.YtnhfpekpdephjaaGreat
open Go.RowKit Nt
set_option linter.unusedSimpArgs false
set_option linter.unusedVariables false
set_option maxRecDepth 20000

end Go.Proofs.YtnhfpekpdephjaaGreat

/-
 rat.mayBe, of one and of two rationals.
-/
namespace Go.Proofs.YtnhfpekpdephjaaGreat
open Go.RowKit Nt
set_option linter.unusedSimpArgs false
set_option linter.unusedVariables false
set_option maxRecDepth 20000

end Go.Proofs.YtnhfpekpdephjaaGreat

/-
 rat.Cmp; may both be.
-/
namespace Go.Proofs.YtnhfpekpdephjaaGreat
open Go.RowKit Nt
set_option linter.unusedSimpArgs false
set_option linter.unusedVariables false
set_option maxRecDepth 20000

end Go.Proofs.YtnhfpekpdephjaaGreat
