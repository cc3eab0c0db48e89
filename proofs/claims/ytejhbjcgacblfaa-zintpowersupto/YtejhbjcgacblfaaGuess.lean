/-
  nat.guess: the digit, or one more: the mathematics.
-/
import Derived.Test.YtejhbjcgacblfaaWrites
namespace Go.Proofs.Ytejhbjcgacblfaa
open Go.RowKit Nt
set_option linter.unusedSimpArgs false
set_option linter.unusedVariables false

/-- The first guess is not below the digit. -/
theorem guess_first {U V T F K q : Nat} (hU : U < (T + 1) * K) (hV : F * K ≤ V) (hK : 0 < K) (hq : q * V ≤ U) (hF : 0 < F) : q ≤ T / F := by
  rw [Nat.le_div_iff_mul_le hF]
  apply Classical.byContradiction
  intro hc
  have h1 : (T + 1) * K ≤ q * F * K := Nat.mul_le_mul_right _ (by omega)
  have h2 : q * (F * K) ≤ q * V := Nat.mul_le_mul_left _ hV
  rw [← Nat.mul_assoc] at h2
  omega

/-- If three limbs say that it is too much, it is. -/
theorem guess_down {U V u3 v2 K d q : Nat} (hU : U < (u3 + 1) * K) (hV : v2 * K ≤ V) (hd : u3 < d * v2) (hq : q * V ≤ U) : q < d := by
  apply Classical.byContradiction
  intro hc
  have h1 : d * V ≤ q * V := Nat.mul_le_mul_right _ (by omega)
  have h2 : d * (v2 * K) ≤ d * V := Nat.mul_le_mul_left _ hV
  rw [← Nat.mul_assoc] at h2
  have h3 : (u3 + 1) * K ≤ d * v2 * K := Nat.mul_le_mul_right _ hd
  omega

/-- If three limbs don't say so, it is one too much at most. -/
theorem guess_end {U V u3 v2 K d q : Nat} (hU : u3 * K ≤ U) (hV : V < (v2 + 1) * K) (hd : d * v2 ≤ u3) (hdv : d ≤ v2) (hq : U < (q + 1) * V) : d ≤ q + 1 := by
  apply Classical.byContradiction
  intro hc
  obtain ⟨e, rfl⟩ : ∃ e, d = e + 1 := ⟨d - 1, by omega⟩
  have h1 : (q + 1) * V ≤ e * V := Nat.mul_le_mul_right _ (by omega)
  have h2 : e * V ≤ e * ((v2 + 1) * K) := Nat.mul_le_mul_left _ (by omega)
  have h3 : (e + 1) * v2 * K ≤ u3 * K := Nat.mul_le_mul_right _ hd
  have h4 : e * ((v2 + 1) * K) = (e * v2 + e) * K := by rw [← Nat.mul_assoc, Nat.mul_add, Nat.mul_one]
  have h5 : (e + 1) * v2 * K = (e * v2 + v2) * K := by rw [Nat.add_mul, Nat.one_mul]
  have h6 : (e * v2 + e) * K ≤ (e * v2 + v2) * K := Nat.mul_le_mul_right _ (by omega)
  omega
end Go.Proofs.Ytejhbjcgacblfaa
