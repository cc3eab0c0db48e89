/-
  Plain mathematics, no Go: many of Euclid's steps at once, by the highest bits (Lehmer): what euclid.Look's loop keeps.
-/
import Derived.Test.YtnmhmjbeeagnmaaDoorSetA
namespace Go.Proofs.YtnmhmjbeeagnmaaDoor.Nt

/-- One side of a place of the row: U1 X - V1 Y = x and v2 Y - u2 X = y. -/
structure Sd (X Y x y U1 V1 u2 v2 : Nat) : Prop where
  ex : U1 * X = x + V1 * Y
  ey : v2 * Y = y + u2 * X
/-- The next place, the sides exchanged. -/
theorem Sd.next {X Y x y U1 V1 u2 v2 : Nat} (h : Sd X Y x y U1 V1 u2 v2) : Sd Y X y (x % y) v2 u2 (V1 + x / y * v2) (U1 + x / y * u2) := by
  have hd : y * (x / y) + x % y = x := Nat.div_add_mod x y
  obtain ⟨q, hq⟩ : ∃ q, x / y = q := ⟨_, rfl⟩
  obtain ⟨r, hr⟩ : ∃ r, x % y = r := ⟨_, rfl⟩
  rw [hq, hr] at hd ⊢
  refine ⟨h.ey, ?_⟩
  have e1 := h.ex
  have e2 := h.ey
  have e3 : q * (v2 * Y) = q * (y + u2 * X) := by rw [e2]
  rw [Nat.add_mul, Nat.add_mul, Nat.mul_assoc, Nat.mul_assoc, e3, Nat.mul_add, e1, Nat.mul_comm q y]
  omega

/-- What the loop keeps, on the side whose turn it is: (X, Y) the highest bits of (a, b); the other side's turn: the same with the names exchanged. -/
structure Lk (X Y x y U1 V1 u2 v2 : Nat) : Prop where
  sd : Sd X Y x y U1 V1 u2 v2
  det : U1 * v2 = 1 + u2 * V1

theorem Lk.next {X Y x y U1 V1 u2 v2 : Nat} (h : Lk X Y x y U1 V1 u2 v2) : Lk Y X y (x % y) v2 u2 (V1 + x / y * v2) (U1 + x / y * u2) := by
  refine ⟨h.sd.next, ?_⟩
  have := h.det
  obtain ⟨q, hq⟩ : ∃ q, x / y = q := ⟨_, rfl⟩
  rw [hq, Nat.mul_add, Nat.add_mul, Nat.mul_comm v2 U1, this, Nat.mul_comm u2 V1]
  have e : v2 * (q * u2) = q * v2 * u2 := by rw [Nat.mul_comm q v2, Nat.mul_assoc]
  rw [e]
  omega

/-- Below 0 nothing falls, though bits are cut off: the next rest of the numbers themselves. -/
theorem rest_ok {X Y y u2 v2 K a0 b0 : Nat} (h : v2 * Y = y + u2 * X) (ha : a0 < K) (hu : u2 ≤ y) : u2 * (X * K + a0) ≤ v2 * (Y * K + b0) := by
  have h1 : u2 * a0 ≤ y * K := Nat.mul_le_mul hu (Nat.le_of_lt ha)
  rw [Nat.mul_add, Nat.mul_add, ← Nat.mul_assoc, ← Nat.mul_assoc, h, Nat.add_mul]
  omega
/-- The rests fall. -/
theorem rest_falls {X Y x y U1 V1 u2 v2 K a0 b0 : Nat} (h : Sd X Y x y U1 V1 u2 v2) (hb : b0 < K) (hxy : V1 + v2 + y ≤ x) : (V1 + v2) * (Y * K + b0) ≤ (U1 + u2) * (X * K + a0) := by
  have h1 : (V1 + v2) * b0 ≤ (x - y) * K := Nat.mul_le_mul (by omega) (Nat.le_of_lt hb)
  have e : (U1 + u2) * X = (x - y) + (V1 + v2) * Y := by
    rw [Nat.add_mul, Nat.add_mul, h.ex, h.ey]
    omega
  rw [Nat.mul_add, Nat.mul_add, ← Nat.mul_assoc, ← Nat.mul_assoc, e, Nat.add_mul (x - y) ((V1 + v2) * Y) K]
  omega

/-- The pair behind the loop: a' = V0 b - U0 a and b' = U1 a - V1 b, with the determinant 1: a and b are sums of them, the greatest divisor is the same. -/
theorem pair_back {a b a' b' U0 V0 U1 V1 : Nat} (ea : V0 * b = a' + U0 * a) (eb : U1 * a = b' + V1 * b) (det : U1 * V0 = 1 + U0 * V1) : a = V1 * a' + V0 * b' ∧ b = U1 * a' + U0 * b' := by
  have m1 : V0 * (U1 * a) = V0 * b' + V1 * (V0 * b) := by rw [eb, Nat.mul_add, ← Nat.mul_assoc V0 V1, Nat.mul_comm V0 V1, Nat.mul_assoc]
  have m2 : U1 * (V0 * b) = U1 * a' + U0 * (U1 * a) := by rw [ea, Nat.mul_add, ← Nat.mul_assoc U1 U0, Nat.mul_comm U1 U0, Nat.mul_assoc]
  have d1 : V0 * (U1 * a) = a + U0 * V1 * a := by rw [← Nat.mul_assoc, Nat.mul_comm V0 U1, det, Nat.add_mul, Nat.one_mul]
  have d2 : U1 * (V0 * b) = b + U0 * V1 * b := by rw [← Nat.mul_assoc, det, Nat.add_mul, Nat.one_mul]
  have k1 : V1 * (V0 * b) = V1 * a' + U0 * V1 * a := by rw [ea, Nat.mul_add, ← Nat.mul_assoc V1 U0, Nat.mul_comm V1 U0]
  have k2 : U0 * (U1 * a) = U0 * b' + U0 * V1 * b := by rw [eb, Nat.mul_add, ← Nat.mul_assoc U0 V1]
  constructor
  · rw [d1, k1] at m1
    omega
  · rw [d2, k2] at m2
    omega

theorem pair_gcd {a b a' b' U0 V0 U1 V1 : Nat} (ea : V0 * b = a' + U0 * a) (eb : U1 * a = b' + V1 * b) (det : U1 * V0 = 1 + U0 * V1) : Nat.gcd a' b' = Nat.gcd a b := by
  obtain ⟨e1, e2⟩ := pair_back ea eb det
  apply Nat.dvd_antisymm
  · refine Nat.dvd_gcd ?_ ?_
    · rw [e1]
      exact Nat.dvd_add (Nat.dvd_trans (Nat.gcd_dvd_left a' b') (Nat.dvd_mul_left _ _)) (Nat.dvd_trans (Nat.gcd_dvd_right a' b') (Nat.dvd_mul_left _ _))
    · rw [e2]
      exact Nat.dvd_add (Nat.dvd_trans (Nat.gcd_dvd_left a' b') (Nat.dvd_mul_left _ _)) (Nat.dvd_trans (Nat.gcd_dvd_right a' b') (Nat.dvd_mul_left _ _))
  · refine Nat.dvd_gcd ?_ ?_
    · have h1 : Nat.gcd a b ∣ a' + U0 * a := by rw [← ea]; exact Nat.dvd_trans (Nat.gcd_dvd_right a b) (Nat.dvd_mul_left _ _)
      exact (Nat.dvd_add_iff_left (Nat.dvd_trans (Nat.gcd_dvd_left a b) (Nat.dvd_mul_left _ _))).2 h1
    · have h1 : Nat.gcd a b ∣ b' + V1 * b := by rw [← eb]; exact Nat.dvd_trans (Nat.gcd_dvd_left a b) (Nat.dvd_mul_left _ _)
      exact (Nat.dvd_add_iff_left (Nat.dvd_trans (Nat.gcd_dvd_right a b) (Nat.dvd_mul_left _ _))).2 h1

/-- How great a cofactor may be: its square is not above X. -/
theorem cof_small {X Y x y U1 V1 u2 v2 : Nat} (h : Lk X Y x y U1 V1 u2 v2) (hx : V1 ≤ x) (hv : V1 ≤ v2) : V1 * V1 ≤ X := by
  have e : X = v2 * x + V1 * y := by
    have d := h.det
    have e1 := h.sd.ex
    have e2 := h.sd.ey
    have m1 : v2 * (U1 * X) = v2 * x + V1 * (v2 * Y) := by rw [e1, Nat.mul_add, ← Nat.mul_assoc v2 V1, Nat.mul_comm v2 V1, Nat.mul_assoc]
    have d1 : v2 * (U1 * X) = X + u2 * V1 * X := by rw [← Nat.mul_assoc, Nat.mul_comm v2 U1, d, Nat.add_mul, Nat.one_mul]
    have k1 : V1 * (v2 * Y) = V1 * y + u2 * V1 * X := by rw [e2, Nat.mul_add, ← Nat.mul_assoc V1 u2, Nat.mul_comm V1 u2]
    rw [d1, k1] at m1
    omega
  have := Nat.mul_le_mul hv hx
  rw [e]
  omega
end Go.Proofs.YtnmhmjbeeagnmaaDoor.Nt
