/-
  Plain mathematics, no Go: what ZintRests asks.
-/
import Derived.Test.YtblmlhhicpomkaaDoorSetN
namespace Go.Proofs.YtblmlhhicpomkaaDoor
open Go Go.RowKit Nt
set_option linter.unusedVariables false

theorem near_off {A B : Int} (hB : B ≠ 0) : 2 * (((nr A B * B - A).natAbs : Nat) : Int) ≤ ((B.natAbs : Nat) : Int) := by
  have h2 : (2 * B) ≠ 0 := by omega
  have rb := rm_bounds (A := 2 * A + B) h2
  have e : fl (2 * A + B) (2 * B) = nr A B := rfl
  rw [e] at rb
  have e3 : nr A B * (2 * B) = 2 * (nr A B * B) := by rw [Int.mul_left_comm]
  rw [e3] at rb
  generalize nr A B * B = z at *
  generalize rm (2 * A + B) (2 * B) = r at *
  rcases Int.lt_trichotomy B 0 with h | h | h
  · have := rb.2.2 (by omega); omega
  · exact absurd h hB
  · have := rb.2.1 (by omega); omega
theorem rm_dvd {A g : Int} (hg : g ≠ 0) (h : g ∣ A) : rm A g = 0 := by
  obtain ⟨k, rfl⟩ := h
  exact (fl_unique (q := k) (r := 0) hg (by rw [Int.mul_comm]; omega) (fun h => by omega) (fun h => by omega)).2
theorem bez_sum {A B : Int} (hB : B ≠ 0) (h : rm ((gz A B : Int) - bzX A B * A) B = 0) : bzX A B * A + fl ((gz A B : Int) - bzX A B * A) B * B = (gz A B : Int) := by
  have rb := (rm_bounds (A := (gz A B : Int) - bzX A B * A) hB).1
  rw [h] at rb
  omega
theorem rm_sign {A B : Int} (hB : B ≠ 0) (h : rm A B ≠ 0) : (rm A B).sign = B.sign := by
  have rb := rm_bounds (A := A) hB
  rcases Int.lt_trichotomy B 0 with k | k | k
  · have := rb.2.2 k
    rw [Int.sign_eq_neg_one_of_neg k, Int.sign_eq_neg_one_of_neg (by omega)]
  · exact absurd k hB
  · have := rb.2.1 k
    rw [Int.sign_eq_one_of_pos k, Int.sign_eq_one_of_pos (by omega)]
theorem rm_small {A B : Int} (hB : B ≠ 0) : (((rm A B).natAbs : Nat) : Int) - ((B.natAbs : Nat) : Int) < 0 := by
  have rb := rm_bounds (A := A) hB
  rcases Int.lt_trichotomy B 0 with k | k | k
  · have := rb.2.2 k; omega
  · exact absurd k hB
  · have := rb.2.1 k; omega
theorem gz_dvd (A B : Int) : (gz A B : Int) ∣ A ∧ (gz A B : Int) ∣ B := ⟨Int.ofNat_dvd_left.2 (Nat.gcd_dvd_left _ _), Int.ofNat_dvd_left.2 (Nat.gcd_dvd_right _ _)⟩
theorem sgn_le_of {A : Int} (h : A ≤ 0) : A.sign ≤ 0 := by
  rcases Int.lt_trichotomy A 0 with k | k | k
  · rw [Int.sign_eq_neg_one_of_neg k]; omega
  · rw [k]; decide
  · omega
theorem sgn_ge_of {A : Int} (h : 0 ≤ A) : 0 ≤ A.sign := by
  rcases Int.lt_trichotomy A 0 with k | k | k
  · omega
  · rw [k]; decide
  · rw [Int.sign_eq_one_of_pos k]; omega
theorem sgn_gt_of {A : Int} (h : 0 < A) : 0 < A.sign := by rw [Int.sign_eq_one_of_pos h]; omega
theorem bez_any {A B : Int} (hB : B ≠ 0) : BzP A B (bzX A B) := by
  have rb := rm_bounds (A := A) (B := (B.natAbs : Int)) (by omega)
  have h1 := rb.2.1 (by omega)
  exact bz_all (D := B.natAbs) (R := (rm A (B.natAbs : Int)).natAbs) hB rfl (by rw [Int.natAbs_of_nonneg h1.1]; exact rb.1)
end Go.Proofs.YtblmlhhicpomkaaDoor
