/-
  nat.up, nat.down, nat.Shl, nat.Shr.
-/
import Derived.Test.YtnbmpldfbbidmaaBits
import Derived.Test.YtnbmpldfbbidmaaSetA
namespace Go.Proofs.Ytnbmpldfbbidmaa
open Go.RowKit Nt
set_option linter.unusedSimpArgs false
set_option linter.unusedVariables false

theorem or32 (t l P q : Nat) (hP : ∃ s, P = 2 ^ s) (ht : t < P) (hl : l = q * P) (hb : t + l < 4294967296) : bits .or .u32 (t : Int) (l : Int) = ((t + l : Nat) : Int) := by
  obtain ⟨s, rfl⟩ := hP
  subst hl
  rw [u32_or_nat t (q * 2 ^ s) (by omega) (by omega)]
  have : t ||| q * 2 ^ s = q * 2 ^ s + t := by rw [Nat.or_comm, ← Nat.shiftLeft_eq, Nat.shiftLeft_add_eq_or_of_lt ht]
  rw [this, Nat.add_comm]

/-- The low limb of x times 2^s is a multiple of 2^s. -/
theorem low_mul {x P s : Nat} (hP : 2 ^ s = P) (hs : s < 32) : ∃ q, x * P % 4294967296 = q * P ∧ q * P + P ≤ 4294967296 := by
  have e : (4294967296 : Nat) = P * 2 ^ (32 - s) := by rw [← hP, ← Nat.pow_add, show s + (32 - s) = 32 from by omega]
  refine ⟨x % 2 ^ (32 - s), ?_, ?_⟩
  · rw [e, Nat.mul_comm x P, Nat.mul_mod_mul_left, Nat.mul_comm]
  · have h1 : x % 2 ^ (32 - s) + 1 ≤ 2 ^ (32 - s) := Nat.mod_lt _ (Nat.two_pow_pos _)
    have h2 : P * (x % 2 ^ (32 - s) + 1) ≤ P * 2 ^ (32 - s) := Nat.mul_le_mul_left _ h1
    rw [← e, Nat.mul_add, Nat.mul_comm P] at h2
    omega

theorem up_step {K VY VA t P x l t' : Nat} (h : VY + K * t = VA * P) (hl : l + 4294967296 * t' = x * P) : VY + K * (t + l) + K * 4294967296 * t' = (VA + K * x) * P := by
  have h2 : K * (l + 4294967296 * t') = K * (x * P) := by rw [hl]
  rw [Nat.mul_add, ← Nat.mul_assoc, ← Nat.mul_assoc] at h2
  rw [Nat.mul_add, Nat.add_mul]
  omega

theorem up_end {VY VA P K S t e : Nat} (h : VY + K * t = VA * P) (he : S * P = e) : S * (VY + K * t) = VA * e := by
  rw [h, ← he, Nat.mul_comm VA P, ← Nat.mul_assoc, Nat.mul_comm]

end Go.Proofs.Ytnbmpldfbbidmaa
