/-
  Signs and scaling; how long the nearest whole number is.
-/
import Derived.Test.YteamecapeghnoaaGreatDoorSetS
namespace Go.Proofs.YteamecapeghnoaaGreatDoor
open Go Go.RowKit Nt
set_option linter.unusedSimpArgs false
set_option linter.unusedVariables false
set_option maxRecDepth 20000

theorem sc_le {n P : Int} {D d : Nat} (hD : D ≠ 0) (h : n * (D : Int) = P * (d : Int)) (c e : Int) (hc : c * P ≤ e * (D : Int)) : c * n ≤ e * (d : Int) := by
  refine Int.not_lt.1 (fun hlt => ?_)
  have h1 : 0 < (c * n - e * (d : Int)) * (D : Int) := Int.mul_pos (by omega) (by omega)
  have h2 : 0 ≤ (e * (D : Int) - c * P) * (d : Int) := Int.mul_nonneg (by omega) (by omega)
  have h3 : (c * n - e * (d : Int)) * (D : Int) + (e * (D : Int) - c * P) * (d : Int) = 0 := by grind
  generalize (c * n - e * (d : Int)) * (D : Int) = x at *
  generalize (e * (D : Int) - c * P) * (d : Int) = y at *
  omega
theorem sc_lt {n P : Int} {D d : Nat} (hD : D ≠ 0) (hd : d ≠ 0) (h : n * (D : Int) = P * (d : Int)) (c e : Int) (hc : c * P < e * (D : Int)) : c * n < e * (d : Int) := by
  refine Int.not_le.1 (fun hle => ?_)
  have h1 : 0 ≤ (c * n - e * (d : Int)) * (D : Int) := Int.mul_nonneg (by omega) (by omega)
  have h2 : 0 < (e * (D : Int) - c * P) * (d : Int) := Int.mul_pos (by omega) (by omega)
  have h3 : (c * n - e * (d : Int)) * (D : Int) + (e * (D : Int) - c * P) * (d : Int) = 0 := by grind
  generalize (c * n - e * (d : Int)) * (D : Int) = x at *
  generalize (e * (D : Int) - c * P) * (d : Int) = y at *
  omega
theorem sign_le {x : Int} (h : x ≤ 0) : x.sign ≤ 0 := by
  rcases Int.lt_or_eq_of_le h with h | h
  · rw [Int.sign_eq_neg_one_of_neg h]; decide
  · rw [h]; decide
theorem sign_ge {x : Int} (h : 0 ≤ x) : 0 ≤ x.sign := by
  rcases Int.lt_or_eq_of_le h with h | h
  · rw [Int.sign_eq_one_of_pos h]; decide
  · rw [← h]; decide
theorem sign_gt {x : Int} (h : 0 < x) : 0 < x.sign := by rw [Int.sign_eq_one_of_pos h]; decide
theorem sign_lt {x : Int} (h : x < 0) : x.sign < 0 := by rw [Int.sign_eq_neg_one_of_neg h]; decide
theorem near_len {A : Int} {D : Nat} (iD : (D : Int) ≠ 0) (lA : (digs A.natAbs).length ≤ 1048576) : (digs (nr A (D : Int)).natAbs).length ≤ 1048577 := by
  have hn : (nr A (D : Int)).natAbs ≤ A.natAbs + 2 := by
    have hh := fl_abs (A := A) iD
    rcases Nat.lt_or_ge (2 * (rm A (D : Int)).natAbs) (D : Int).natAbs with hc | hc
    · rw [← near_down iD hc]; omega
    · rw [← near_up iD hc]; omega
  refine Nat.le_trans (digs_length_mono hn) ?_
  have h2 : (digs 2).length ≤ 1048576 := Nat.le_trans (digs_length_le (k := 1) (by decide)) (by decide)
  exact digs_add_len lA h2
end Go.Proofs.YteamecapeghnoaaGreatDoor
