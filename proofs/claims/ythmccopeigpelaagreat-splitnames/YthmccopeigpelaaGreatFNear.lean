/-
 Rounding: the float that is nearest lies beside the number; a number that is a float is told by itself.
-/
import Derived.Test.YthmccopeigpelaaGreatFPlace
namespace Go.Proofs.YthmccopeigpelaaGreat
open Go
set_option linter.unusedSimpArgs false
set_option linter.unusedVariables false
set_option maxRecDepth 20000

/-- Where the float lies that is nearest to V units of 2^-2148. -/
structure Nearest (V R : Nat) : Prop where
 pick : ∃ L K, R = min (L * 4503599627370496 + K) 9218868437227405312 ∧ K ≤ 9007199254740992 ∧ (L = 0 ∨ 4503599627370496 ≤ K) ∧ K * 2 ^ (L + 1074) < V + 2 ^ (L + 1074) ∧ V < K * 2 ^ (L + 1074) + 2 ^ (L + 1074) ∧ (V % 2 ^ (L + 1074) = 0 → K * 2 ^ (L + 1074) = V) ∧ (0 < L → 2 ^ (L + 1126) ≤ V) ∧ V < 2 ^ (L + 1127)
theorem mg_form {L K : Nat} (hK : K ≤ 9007199254740992) (hL : L = 0 ∨ 4503599627370496 ≤ K) : mg (L * 4503599627370496 + K) = K * 2 ^ L := by
 unfold mg
 by_cases h : L * 4503599627370496 + K < 4503599627370496
 ·rw [if_pos h]
  have : L = 0 := by omega
  subst this
  simp
 ·rw [if_neg h]
  by_cases h1 : K < 4503599627370496
  ·omega
  ·by_cases h2 : K = 9007199254740992
   ·subst h2
    rw [show (L * 4503599627370496 + 9007199254740992) % 4503599627370496 = 0 from by omega, show (L * 4503599627370496 + 9007199254740992) / 4503599627370496 - 1 = L + 1 from by omega, Nat.pow_succ]
    omega
   ·rw [show (L * 4503599627370496 + K) % 4503599627370496 = K - 4503599627370496 from by omega, show (L * 4503599627370496 + K) / 4503599627370496 - 1 = L from by omega]
    rw [show 4503599627370496 + (K - 4503599627370496) = K from by omega]
/-- So many units of 2^-2148 make the least float. -/
def pw2 (n : Nat) : Nat := 2 ^ n
theorem pw2_pos (n : Nat) : 0 < pw2 n := Nat.two_pow_pos n
theorem pow_pw2 (L n : Nat) : 2 ^ L * pw2 n = 2 ^ (L + n) := (Nat.pow_add 2 L n).symm
def uF : Nat := pw2 1074
theorem uF_pos : 0 < uF := pw2_pos 1074
theorem pow_uF (L : Nat) : 2 ^ L * uF = 2 ^ (L + 1074) := pow_pw2 L 1074
/-- The number lies between the floats beside the one that is told. -/
theorem Nearest.up {V R : Nat} (h : Nearest V R) (hR : R < 9218868437227405312) : V ≤ mg (R + 1) * uF := by
 obtain ⟨L, K, e, h1, h2, h3, h4, h5, h6, h7⟩ := h.pick
 have e : R = L * 4503599627370496 + K := by omega
 have hm : (K + 1) * 2 ^ L ≤ mg (R + 1) := by
  by_cases hk : K = 9007199254740992
  ·have := mg_step R
   rw [e, mg_form h1 h2] at this
   subst hk
   have e3 : mg (R + 1) = 4503599627370497 * 2 ^ (L + 1) := by
    rw [show R + 1 = (L + 1) * 4503599627370496 + 4503599627370497 from by omega]
    exact mg_form (by decide) (Or.inr (by decide))
   rw [e3, Nat.pow_succ]
   have := Nat.two_pow_pos L
   omega
  ·rw [show R + 1 = L * 4503599627370496 + (K + 1) from by omega, mg_form (by omega) (by omega)]
   exact Nat.le_refl _
 have : V < (K + 1) * 2 ^ L * uF := by
  rw [Nat.mul_assoc, pow_uF, Nat.add_mul, Nat.one_mul]
  exact h4
 exact Nat.le_trans (Nat.le_of_lt this) (Nat.mul_le_mul_right _ hm)
theorem mg_split (r : Nat) : ∃ L K, r = L * 4503599627370496 + K ∧ K < 9007199254740992 ∧ (L = 0 ∨ 4503599627370496 ≤ K) := by
 by_cases h : r < 9007199254740992
 ·exact ⟨0, r, by omega, h, Or.inl rfl⟩
 ·exact ⟨r / 4503599627370496 - 1, r % 4503599627370496 + 4503599627370496, by omega, by omega, Or.inr (by omega)⟩
/-- A number that is a float. -/
theorem Nearest.exact {V R r : Nat} (h : Nearest V R) (hr : r < 9218868437227405312) (hV : V = mg r * uF) : R = r := by
 obtain ⟨L, K, e, h1, h2, h3, h4, h5, h6, h7⟩ := h.pick
 obtain ⟨L', K', e', k1, k2⟩ := mg_split r
 have hV' : V = K' * 2 ^ (L' + 1074) := by rw [hV, e', mg_form (by omega) k2, Nat.mul_assoc, pow_uF]
 have hLL : L ≤ L' := by
  apply Classical.byContradiction
  intro hc
  have h6 := h6 (by omega)
  rw [hV'] at h6
  have : K' * 2 ^ (L' + 1074) < 2 ^ 53 * 2 ^ (L' + 1074) := Nat.mul_lt_mul_of_pos_right (by omega) (Nat.two_pow_pos _)
  rw [← Nat.pow_add] at this
  have := Nat.pow_le_pow_right (n := 2) (by decide) (show 53 + (L' + 1074) ≤ L + 1126 by omega)
  omega
 have hmod : V % 2 ^ (L + 1074) = 0 := by
  rw [hV', show L' + 1074 = (L' - L) + (L + 1074) from by omega, Nat.pow_add, ← Nat.mul_assoc]
  exact Nat.mul_mod_left _ _
 have hKV := h5 hmod
 have : mg (L * 4503599627370496 + K) = mg r := by
  have h8 : mg (L * 4503599627370496 + K) * uF = mg r * uF := by rw [mg_form h1 h2, Nat.mul_assoc, pow_uF, hKV, hV]
  exact Nat.eq_of_mul_eq_mul_right uF_pos h8
 have : L * 4503599627370496 + K = r := by
  rcases Nat.lt_trichotomy (L * 4503599627370496 + K) r with h | h | h
  ·have := mg_mono h; omega
  ·exact h
  ·have := mg_mono h; omega
 omega
end Go.Proofs.YthmccopeigpelaaGreat
