/-
 Plain mathematics, no Go: Newton's step on the highest bits of a number, for the root.
-/
import Derived.Test.YtoeopdmaogmjhaaSetA
namespace Go.Proofs.Ytoeopdmaogmjhaa.Nt

theorem amgm (x y : Nat) : 4 * (x * y) ≤ (x + y) * (x + y) := by
 rcases Nat.le_total x y with h | h
 ·obtain ⟨d, rfl⟩ := Nat.exists_eq_add_of_le h
  have : (x + (x + d)) * (x + (x + d)) = 4 * (x * (x + d)) + d * d := by grind
  omega
 ·obtain ⟨d, rfl⟩ := Nat.exists_eq_add_of_le h
  have : (y + d + y) * (y + d + y) = 4 * ((y + d) * y) + d * d := by grind
  omega

/-- Newton's step is not below the root. -/
theorem newton_up {x t m r : Nat} (hr : 2 * r = x + 2 * t) (ht : m < 2 * x * (t + 1)) : m < (r + 1) * (r + 1) := by
 have h := amgm x (2 * (t + 1))
 have e1 : x + 2 * (t + 1) = 2 * (r + 1) := by omega
 have e2 : 2 * (r + 1) * (2 * (r + 1)) = 4 * ((r + 1) * (r + 1)) := by grind
 have e3 : 4 * (x * (2 * (t + 1))) = 4 * (2 * x * (t + 1)) := by grind
 rw [e1, e2, e3] at h
 omega

theorem newton_sq {x D m r t : Int} (h1 : (x - D) * (x - D) < m) (h2 : m < (x + D) * (x + D)) (hD : D * D ≤ 2 * x) (ht : 2 * x * t ≤ m) (hr : 2 * r + 2 = x + 2 * t) (hx : 0 ≤ x) (hr0 : 0 ≤ r) : r * r < m := by
 apply Classical.byContradiction
 intro hc
 have hc' : m ≤ r * r := by omega
 have key : (x * x + m - D * D) * (x * x + m - D * D) - 4 * (x * x) * m = (m - (x - D) * (x - D)) * (m - (x + D) * (x + D)) := by grind
 have neg : (m - (x - D) * (x - D)) * (m - (x + D) * (x + D)) < 0 := Int.mul_neg_of_pos_of_neg (by omega) (by omega)
 have e1 : x * (2 * r) = x * x + 2 * x * t - 2 * x := by
  have : 2 * r = x + 2 * t - 2 := by omega
  rw [this]
  grind
 have le : x * (2 * r) ≤ x * x + m - D * D := by rw [e1]; omega
 have n0 : 0 ≤ x * (2 * r) := Int.mul_nonneg hx (by omega)
 have sq : x * (2 * r) * (x * (2 * r)) ≤ (x * x + m - D * D) * (x * x + m - D * D) := Int.mul_le_mul le le n0 (by omega)
 have e2 : x * (2 * r) * (x * (2 * r)) = 4 * (x * x) * (r * r) := by grind
 have xx : 0 ≤ 4 * (x * x) := Int.mul_nonneg (by omega) (Int.mul_nonneg hx hx)
 have mr : 4 * (x * x) * m ≤ 4 * (x * x) * (r * r) := Int.mul_le_mul_of_nonneg_left hc' xx
 omega

/-- What the loop keeps: the root of the highest bits, one more or one less at most. -/
def Rt1 (m r : Nat) : Prop := 1 ≤ r ∧ (r - 1) * (r - 1) < m ∧ m < (r + 1) * (r + 1)

theorem newton_step {m A D k : Nat} (hk : D = 2 * k) (h : Rt1 (m / (D * D)) A) (hkA : k ≤ A) (hk0 : 1 ≤ k) : Rt1 m (A * k + m / (2 * D * A)) := by
 obtain ⟨hA, h1, h2⟩ := h
 have hD0 : 0 < D := by omega
 have hDD : 0 < D * D := Nat.mul_pos hD0 hD0
 have hj := Nat.div_add_mod m (D * D)
 have hjr := Nat.mod_lt m hDD
 generalize m / (D * D) = j at *
 generalize m % (D * D) = jr at *
 have hxp : 0 < 2 * D * A := Nat.mul_pos (by omega) (by omega)
 have ht := Nat.div_add_mod m (2 * D * A)
 have htr := Nat.mod_lt m hxp
 generalize m / (2 * D * A) = t at *
 generalize m % (2 * D * A) = tr at *
 have hp : 1 ≤ A * k := Nat.mul_pos (by omega) (by omega)
 have e0 : 2 * (A * k) = A * D := by rw [hk]; grind
 have ex : 2 * D * A = 2 * (A * D) := by grind
 rw [ex] at ht htr
 refine ⟨by omega, ?_, ?_⟩
 ·have g1 : ((A - 1) * D) * ((A - 1) * D) < m := by
   have a1 : (A - 1) * (A - 1) * (D * D) < j * (D * D) := Nat.mul_lt_mul_of_pos_right h1 hDD
   have a2 : ((A - 1) * D) * ((A - 1) * D) = (A - 1) * (A - 1) * (D * D) := by grind
   rw [Nat.mul_comm] at hj
   omega
  have g2 : m < (A * D + D) * (A * D + D) := by
   have a1 : (j + 1) * (D * D) ≤ (A + 1) * (A + 1) * (D * D) := Nat.mul_le_mul_right _ h2
   have a2 : (A * D + D) * (A * D + D) = (A + 1) * (A + 1) * (D * D) := by grind
   rw [Nat.add_mul, Nat.mul_comm j] at a1
   omega
  have g3 : D * D ≤ 2 * (A * D) := by
   have : D * D ≤ 2 * A * D := Nat.mul_le_mul_right _ (by omega)
   have e : 2 * A * D = 2 * (A * D) := by grind
   omega
  have e1 : (A - 1) * D = A * D - D := by rw [Nat.sub_mul, Nat.one_mul]
  have hDx : D ≤ A * D := Nat.le_mul_of_pos_left _ (by omega)
  rw [e1] at g1
  generalize A * D = x at *
  obtain ⟨r, hr⟩ : ∃ r, A * k + t = r + 1 := ⟨A * k + t - 1, by omega⟩
  rw [hr, Nat.add_sub_cancel]
  have := newton_sq (x := x) (D := D) (m := m) (r := r) (t := t) (by
   have : ((x - D : Nat) : Int) = (x : Int) - (D : Int) := by omega
   rw [← this]
   exact_mod_cast g1) (by exact_mod_cast g2) (by exact_mod_cast g3) (by
    have : 2 * x * t ≤ m := by omega
    exact_mod_cast this) (by omega) (by omega) (by omega)
  exact_mod_cast this
 ·refine newton_up (x := A * D) (t := t) (by omega) ?_
  rw [Nat.mul_add, Nat.mul_one]
  omega

theorem pow_ge {A e : Nat} (h : 4 ^ e < (A + 1) * (A + 1)) : 2 ^ e ≤ A := by
 apply Classical.byContradiction
 intro hc
 have h1 : (A + 1) * (A + 1) ≤ 2 ^ e * 2 ^ e := Nat.mul_le_mul (by omega) (by omega)
 have h2 : (4 : Nat) ^ e = 2 ^ e * 2 ^ e := by rw [← Nat.mul_pow]
 omega

/-- One round of the loop: e bits were known, then d. -/
theorem root_round {n c e d A : Nat} (hd : d ≤ 2 * e + 1) (hed : e < d) (hdc : d ≤ c) (hn : 4 ^ c ≤ n) (h : Rt1 (n / 2 ^ (2 * (c - e))) A) :
  Rt1 (n / 2 ^ (2 * (c - d))) (A * 2 ^ (d - e - 1) + n / 2 ^ (2 * c - e - d + 1) / A) := by
 obtain ⟨m, hm⟩ : ∃ m, n / 2 ^ (2 * (c - d)) = m := ⟨_, rfl⟩
 obtain ⟨k, hk⟩ : ∃ k, d = e + k + 1 := ⟨d - e - 1, by omega⟩
 have e1 : n / 2 ^ (2 * (c - e)) = m / (2 * 2 ^ k * (2 * 2 ^ k)) := by
  rw [← hm, Nat.div_div_eq_div_mul]
  congr 1
  rw [show 2 * (c - e) = 2 * (c - d) + ((k + 1) + (k + 1)) from by omega, Nat.pow_add, Nat.pow_add 2 (k + 1), Nat.pow_succ, Nat.mul_comm (2 ^ k) 2]
 have e2 : n / 2 ^ (2 * c - e - d + 1) / A = m / (2 * (2 * 2 ^ k) * A) := by
  rw [← hm, Nat.div_div_eq_div_mul, Nat.div_div_eq_div_mul, ← Nat.mul_assoc]
  congr 2
  rw [show 2 * c - e - d + 1 = 2 * (c - d) + (k + 2) from by omega, Nat.pow_add, Nat.pow_add 2 k 2]
  congr 1
  omega
 have hA : 2 ^ k ≤ A := by
  have h4 : 4 ^ e ≤ n / 2 ^ (2 * (c - e)) := by
   rw [Nat.le_div_iff_mul_le (Nat.pow_pos (by omega)), Nat.pow_mul, ← Nat.pow_add, show e + (c - e) = c from by omega]
   exact hn
  exact Nat.le_trans (Nat.pow_le_pow_right (by omega) (by omega)) (pow_ge (Nat.lt_of_le_of_lt h4 h.2.2))
 rw [hm, e2, show d - e - 1 = k from by omega]
 rw [e1] at h
 exact newton_step rfl h hA (Nat.pow_pos (by omega))

theorem root_start {n c : Nat} (h1 : 4 ^ c ≤ n) (h2 : n < 4 ^ (c + 1)) : Rt1 (n / 2 ^ (2 * (c - 0))) 1 := by
 have e : (2 : Nat) ^ (2 * (c - 0)) = 4 ^ c := by rw [Nat.sub_zero, Nat.pow_mul]
 have p : (0 : Nat) < 4 ^ c := Nat.pow_pos (by omega)
 rw [e]
 refine ⟨by omega, ?_, ?_⟩
 ·exact Nat.div_pos h1 p
 ·show n / 4 ^ c < 4
  rw [Nat.div_lt_iff_lt_mul p, Nat.mul_comm]
  rw [Nat.pow_succ] at h2
  exact h2

/-- The floor of the square root, by its two bounds. -/
def IsRoot (n r : Nat) : Prop := r * r ≤ n ∧ n < (r + 1) * (r + 1)
theorem isRoot_unique {n r s : Nat} (h : IsRoot n r) (h' : IsRoot n s) : r = s := by
 rcases Nat.lt_trichotomy r s with hl | hl | hl
 ·have := Nat.mul_le_mul (show r + 1 ≤ s by omega) (show r + 1 ≤ s by omega)
  have := h.2; have := h'.1; omega
 ·exact hl
 ·have := Nat.mul_le_mul (show s + 1 ≤ r by omega) (show s + 1 ≤ r by omega)
  have := h.1; have := h'.2; omega
theorem root_end_down {n r : Nat} (h : Rt1 n r) (hc : n < r * r) : IsRoot n (r - 1) := by
 obtain ⟨h0, h1, h2⟩ := h
 refine ⟨by omega, ?_⟩
 rw [show r - 1 + 1 = r from by omega]
 exact hc
theorem root_end_same {n r : Nat} (h : Rt1 n r) (hc : ¬ n < r * r) : IsRoot n r := ⟨by omega, h.2.2⟩
end Go.Proofs.Ytoeopdmaogmjhaa.Nt
