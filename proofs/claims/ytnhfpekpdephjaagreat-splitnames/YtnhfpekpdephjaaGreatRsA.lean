import Derived.Test.YtnhfpekpdephjaaGreatSetA
/-
 Plain mathematics, no Go: many of Euclid's steps at once, by the highest bits (Lehmer): what euclid.Look's loop keeps.
-/
namespace Go.Proofs.YtnhfpekpdephjaaGreat.Nt

/-- One side of a place of the row: U1 X - V1 Y = x and v2 Y - u2 X = y. -/
structure Sd (X Y x y U1 V1 u2 v2 : Nat) : Prop where
 ex : U1 * X = x + V1 * Y
 ey : v2 * Y = y + u2 * X
/-- The next place, the sides exchanged. -/
theorem Sd.next {X Y x y U1 V1 u2 v2 : Nat} (h : Sd X Y x y U1 V1 u2 v2) : Sd Y X y (x % y) v2 u2 (V1 + x / y * v2) (U1 + x / y * u2) := by
 have hd : y * (x / y) + x % y = x := Nat.div_add_mod x y
 obtain ⟨q, hq⟩ : ∃ q, x / y = q := ⟨_, rfl⟩
 obtain ⟨r, hr⟩ : ∃ r, x % y = r := ⟨_, rfl⟩
 rw [hq, hr] at hd ⊢
 refine ⟨h.ey, ?_⟩
 have e1 := h.ex
 have e2 := h.ey
 have e3 : q * (v2 * Y) = q * (y + u2 * X) := by rw [e2]
 rw [Nat.add_mul, Nat.add_mul, Nat.mul_assoc, Nat.mul_assoc, e3, Nat.mul_add, e1, Nat.mul_comm q y]
 omega

/-- What the loop keeps, on the side whose turn it is: (X, Y) the highest bits of (a, b); the other side's turn: the same with the names exchanged. -/
structure Lk (X Y x y U1 V1 u2 v2 : Nat) : Prop where
 sd : Sd X Y x y U1 V1 u2 v2
 det : U1 * v2 = 1 + u2 * V1

theorem Lk.next {X Y x y U1 V1 u2 v2 : Nat} (h : Lk X Y x y U1 V1 u2 v2) : Lk Y X y (x % y) v2 u2 (V1 + x / y * v2) (U1 + x / y * u2) := by
 refine ⟨h.sd.next, ?_⟩
 have := h.det
 obtain ⟨q, hq⟩ : ∃ q, x / y = q := ⟨_, rfl⟩
 rw [hq, Nat.mul_add, Nat.add_mul, Nat.mul_comm v2 U1, this, Nat.mul_comm u2 V1]
 have e : v2 * (q * u2) = q * v2 * u2 := by rw [Nat.mul_comm q v2, Nat.mul_assoc]
 rw [e]
 omega

/-- Below 0 nothing falls, though bits are cut off: the next rest of the numbers themselves. -/
theorem rest_ok {X Y y u2 v2 K a0 b0 : Nat} (h : v2 * Y = y + u2 * X) (ha : a0 < K) (hu : u2 ≤ y) : u2 * (X * K + a0) ≤ v2 * (Y * K + b0) := by
 have h1 : u2 * a0 ≤ y * K := Nat.mul_le_mul hu (Nat.le_of_lt ha)
 rw [Nat.mul_add, Nat.mul_add, ← Nat.mul_assoc, ← Nat.mul_assoc, h, Nat.add_mul]
 omega
/-- The pair behind the loop: a' = V0 b - U0 a and b' = U1 a - V1 b, with the determinant 1: a and b are sums of them, the greatest divisor is the same. -/
theorem pair_back {a b a' b' U0 V0 U1 V1 : Nat} (ea : V0 * b = a' + U0 * a) (eb : U1 * a = b' + V1 * b) (det : U1 * V0 = 1 + U0 * V1) : a = V1 * a' + V0 * b' ∧ b = U1 * a' + U0 * b' := by
 have m1 : V0 * (U1 * a) = V0 * b' + V1 * (V0 * b) := by rw [eb, Nat.mul_add, ← Nat.mul_assoc V0 V1, Nat.mul_comm V0 V1, Nat.mul_assoc]
 have m2 : U1 * (V0 * b) = U1 * a' + U0 * (U1 * a) := by rw [ea, Nat.mul_add, ← Nat.mul_assoc U1 U0, Nat.mul_comm U1 U0, Nat.mul_assoc]
 have d1 : V0 * (U1 * a) = a + U0 * V1 * a := by rw [← Nat.mul_assoc, Nat.mul_comm V0 U1, det, Nat.add_mul, Nat.one_mul]
 have d2 : U1 * (V0 * b) = b + U0 * V1 * b := by rw [← Nat.mul_assoc, det, Nat.add_mul, Nat.one_mul]
 have k1 : V1 * (V0 * b) = V1 * a' + U0 * V1 * a := by rw [ea, Nat.mul_add, ← Nat.mul_assoc V1 U0, Nat.mul_comm V1 U0]
 have k2 : U0 * (U1 * a) = U0 * b' + U0 * V1 * b := by rw [eb, Nat.mul_add, ← Nat.mul_assoc U0 V1]
 constructor
 ·rw [d1, k1] at m1
  omega
 ·rw [d2, k2] at m2
  omega

theorem pair_gcd {a b a' b' U0 V0 U1 V1 : Nat} (ea : V0 * b = a' + U0 * a) (eb : U1 * a = b' + V1 * b) (det : U1 * V0 = 1 + U0 * V1) : Nat.gcd a' b' = Nat.gcd a b := by
 obtain ⟨e1, e2⟩ := pair_back ea eb det
 apply Nat.dvd_antisymm
 ·refine Nat.dvd_gcd ?_ ?_
  ·rw [e1]
   exact Nat.dvd_add (Nat.dvd_trans (Nat.gcd_dvd_left a' b') (Nat.dvd_mul_left _ _)) (Nat.dvd_trans (Nat.gcd_dvd_right a' b') (Nat.dvd_mul_left _ _))
  ·rw [e2]
   exact Nat.dvd_add (Nat.dvd_trans (Nat.gcd_dvd_left a' b') (Nat.dvd_mul_left _ _)) (Nat.dvd_trans (Nat.gcd_dvd_right a' b') (Nat.dvd_mul_left _ _))
 ·refine Nat.dvd_gcd ?_ ?_
  ·have h1 : Nat.gcd a b ∣ a' + U0 * a := by rw [← ea]; exact Nat.dvd_trans (Nat.gcd_dvd_right a b) (Nat.dvd_mul_left _ _)
   exact (Nat.dvd_add_iff_left (Nat.dvd_trans (Nat.gcd_dvd_left a b) (Nat.dvd_mul_left _ _))).2 h1
  ·have h1 : Nat.gcd a b ∣ b' + V1 * b := by rw [← eb]; exact Nat.dvd_trans (Nat.gcd_dvd_left a b) (Nat.dvd_mul_left _ _)
   exact (Nat.dvd_add_iff_left (Nat.dvd_trans (Nat.gcd_dvd_right a b) (Nat.dvd_mul_left _ _))).2 h1

end Go.Proofs.YtnhfpekpdephjaaGreat.Nt

/-
 Plain mathematics, no Go: what euclid.Look's loop keeps, with the numbers themselves.
-/
namespace Go.Proofs.YtnhfpekpdephjaaGreat.Nt

theorem rest_falls' {X Y x y U1 V1 u2 v2 K a0 b0 : Nat} (h : Sd X Y x y U1 V1 u2 v2) (hb : b0 < K) (hxy : V1 + v2 + y ≤ x) (hp : 1 ≤ V1 + v2) : (V1 + v2) * (Y * K + b0) < (U1 + u2) * (X * K + a0) := by
 have h0 : (V1 + v2) * b0 < (V1 + v2) * K := Nat.mul_lt_mul_of_pos_left hb (by omega)
 have h1 : (V1 + v2) * K ≤ (x - y) * K := Nat.mul_le_mul_right K (by omega)
 have e : (U1 + u2) * X = (x - y) + (V1 + v2) * Y := by
  rw [Nat.add_mul, Nat.add_mul, h.ex, h.ey]
  omega
 rw [Nat.mul_add, Nat.mul_add, ← Nat.mul_assoc, ← Nat.mul_assoc, e, Nat.add_mul (x - y) ((V1 + v2) * Y) K]
 omega

/-- What the steps do to the numbers. -/
def Good (a b U0 V0 U1 V1 : Nat) (odd : Bool) : Prop :=
 ∃ a' b', (odd = true ∧ V0 * b = a' + U0 * a ∧ U1 * a = b' + V1 * b ∨ odd = false ∧ U0 * a = a' + V0 * b ∧ V1 * b = b' + U1 * a) ∧ b' < a' ∧ a' ≤ b ∧ Nat.gcd a' b' = Nat.gcd a b ∧ (odd = true ∧ U1 * V0 = 1 + U0 * V1 ∨ odd = false ∧ U0 * V1 = 1 + U1 * V0)

/-- From one place to the pair behind it. -/
theorem good_true {X Y x y U1 V1 u2 v2 K a0 b0 : Nat} (h : Lk X Y x y U1 V1 u2 v2) (ha : a0 < K) (hb : b0 < K) (hu : u2 ≤ v2) (hu1 : 1 ≤ u2) (hy : v2 ≤ y) (hxy : V1 + v2 + y ≤ x) : Good (X * K + a0) (Y * K + b0) U1 V1 u2 v2 false := by
 have r1 := rest_ok (b0 := b0) h.sd.ey ha (Nat.le_trans hu hy)
 have r2 := rest_falls' (a0 := a0) h.sd hb hxy (by omega)
 generalize X * K + a0 = a at *
 generalize Y * K + b0 = b at *
 rw [Nat.add_mul, Nat.add_mul] at r2
 have ea : U1 * a = (U1 * a - V1 * b) + V1 * b := by omega
 have eb : v2 * b = (v2 * b - u2 * a) + u2 * a := by omega
 have det : v2 * U1 = 1 + V1 * u2 := by rw [Nat.mul_comm, h.det, Nat.mul_comm u2]
 refine ⟨U1 * a - V1 * b, v2 * b - u2 * a, .inr ⟨rfl, ea, eb⟩, by omega, ?_, ?_⟩
 ·have := (pair_back ea eb det).1
  have h1 : 1 * (U1 * a - V1 * b) ≤ u2 * (U1 * a - V1 * b) := Nat.mul_le_mul_right _ hu1
  omega
 ·exact ⟨by rw [pair_gcd ea eb det, Nat.gcd_comm], .inr ⟨rfl, by rw [Nat.mul_comm U1, det, Nat.mul_comm V1]⟩⟩
theorem good_false {X Y x y U1 V1 u2 v2 K a0 b0 : Nat} (h : Lk Y X x y V1 U1 v2 u2) (ha : a0 < K) (hb : b0 < K) (hu : u2 ≤ v2) (hu' : U1 ≤ V1) (hu1 : 1 ≤ u2) (hy : v2 ≤ y) (hxy : V1 + v2 + y ≤ x) : Good (X * K + a0) (Y * K + b0) U1 V1 u2 v2 true := by
 have r1 := rest_ok (b0 := a0) h.sd.ey hb hy
 have r2 := rest_falls' (a0 := b0) h.sd ha (by omega) (by omega)
 generalize X * K + a0 = a at *
 generalize Y * K + b0 = b at *
 rw [Nat.add_mul, Nat.add_mul] at r2
 have ea : V1 * b = (V1 * b - U1 * a) + U1 * a := by omega
 have eb : u2 * a = (u2 * a - v2 * b) + v2 * b := by omega
 have det : u2 * V1 = 1 + U1 * v2 := by rw [Nat.mul_comm, h.det, Nat.mul_comm v2]
 refine ⟨V1 * b - U1 * a, u2 * a - v2 * b, .inl ⟨rfl, ea, eb⟩, by omega, ?_, ?_⟩
 ·have := (pair_back ea eb det).2
  have h1 : 1 * (V1 * b - U1 * a) ≤ u2 * (V1 * b - U1 * a) := Nat.mul_le_mul_right _ hu1
  omega
 ·exact ⟨by rw [pair_gcd ea eb det], .inl ⟨rfl, det⟩⟩

structure LI (X Y K a0 b0 x y U0 V0 U1 V1 u2 v2 : Nat) (odd : Bool) : Prop where
 side : odd = true ∧ Lk X Y x y U1 V1 u2 v2 ∨ odd = false ∧ Lk Y X x y V1 U1 v2 u2
 le : y ≤ x
 xX : x ≤ X
 uv : u2 ≤ v2
 pos : 1 ≤ v2
 vX : v2 ≤ X
 small : U0 < 4294967296 ∧ V0 < 4294967296 ∧ U1 < 4294967296 ∧ V1 < 4294967296
 phase : (V0 = 0 ∧ U0 = 0 ∧ U1 = 1 ∧ V1 = 0 ∧ u2 = 0 ∧ v2 = 1 ∧ odd = true) ∨ (V0 = 0 ∧ V1 = 1 ∧ U1 = 0 ∧ u2 = 1 ∧ odd = false) ∨ (1 ≤ V0 ∧ 1 ≤ U1 ∧ U1 ≤ V1 ∧ 1 ≤ u2 ∧ Good (X * K + a0) (Y * K + b0) U0 V0 U1 V1 odd)

/-- The highest bits by the place: X = v2 x + V1 y, on both sides. -/
theorem lk_high {X Y x y U1 V1 u2 v2 : Nat} (h : Lk X Y x y U1 V1 u2 v2) : X = v2 * x + V1 * y ∧ Y = u2 * x + U1 * y := by
 have e1 := h.sd.ex
 have e2 := h.sd.ey
 have d : v2 * U1 = 1 + V1 * u2 := by rw [Nat.mul_comm, h.det, Nat.mul_comm u2]
 have := pair_back (a := Y) (b := X) (a' := x) (b' := y) (U0 := V1) (V0 := U1) (U1 := v2) (V1 := u2) e1 e2 d
 exact ⟨this.2, this.1⟩

theorem LI.start {X Y K a0 b0 : Nat} (h : Y ≤ X) (hX : 1 ≤ X) : LI X Y K a0 b0 X Y 0 0 1 0 0 1 true :=
 ⟨.inl ⟨rfl, ⟨by omega, by omega⟩, by omega⟩, h, Nat.le_refl _, by omega, by omega, hX, ⟨by omega, by omega, by omega, by omega⟩, .inl ⟨rfl, rfl, rfl, rfl, rfl, rfl, rfl⟩⟩

theorem LI.high {X Y K a0 b0 x y U0 V0 U1 V1 u2 v2 : Nat} {odd : Bool} (h : LI X Y K a0 b0 x y U0 V0 U1 V1 u2 v2 odd) : X = v2 * x + V1 * y := by
 rcases h.side with ⟨_, k⟩ | ⟨_, k⟩
 ·exact (lk_high k).1
 ·exact (lk_high k).2

theorem LI.next {X Y K a0 b0 x y U0 V0 U1 V1 u2 v2 : Nat} {odd : Bool} (h : LI X Y K a0 b0 x y U0 V0 U1 V1 u2 v2 odd) (ha : a0 < K) (hb : b0 < K) (hX : X < 18446744073709551616) (hy : v2 ≤ y) (hxy : V1 + v2 + y ≤ x) :
  LI X Y K a0 b0 y (x % y) U1 V1 u2 v2 (U1 + x / y * u2) (V1 + x / y * v2) (!odd) := by
 have hp := h.pos
 have huv := h.uv
 have hle := h.le
 obtain ⟨q0, q1, q2, q3⟩ := h.small
 have hq : 1 ≤ x / y := (Nat.le_div_iff_mul_le (by omega)).2 (by omega)
 have hsq : v2 < 4294967296 := by
  have e := h.high
  have h1 : v2 * v2 ≤ v2 * x := Nat.mul_le_mul_left _ (by omega)
  apply Classical.byContradiction
  intro hc
  have h2 : 4294967296 * 4294967296 ≤ v2 * v2 := Nat.mul_le_mul (by omega) (by omega)
  omega
 have hmul : x / y * u2 ≤ x / y * v2 := Nat.mul_le_mul_left _ huv
 have hmul1 : 1 * v2 ≤ x / y * v2 := Nat.mul_le_mul_right _ hq
 have huv' : U1 + x / y * u2 ≤ V1 + x / y * v2 := by
  rcases h.phase with ⟨_, _, rfl, rfl, rfl, rfl, _⟩ | ⟨_, rfl, rfl, rfl, _⟩ | ⟨_, _, hc, _, _⟩
  ·omega
  ·omega
  ·omega
 have hside : (!odd) = true ∧ Lk X Y y (x % y) u2 v2 (U1 + x / y * u2) (V1 + x / y * v2) ∨ (!odd) = false ∧ Lk Y X y (x % y) v2 u2 (V1 + x / y * v2) (U1 + x / y * u2) := by
  rcases h.side with ⟨rfl, k⟩ | ⟨rfl, k⟩
  ·exact .inr ⟨rfl, k.next⟩
  ·exact .inl ⟨rfl, k.next⟩
 have hhigh : X = (V1 + x / y * v2) * y + v2 * (x % y) := by
  rcases hside with ⟨_, k⟩ | ⟨_, k⟩
  ·exact (lk_high k).1
  ·exact (lk_high k).2
 refine ⟨hside, Nat.le_of_lt (Nat.mod_lt _ (by omega)), by have := h.xX; omega, huv', by omega, ?_, ⟨q2, q3, by omega, hsq⟩, ?_⟩
 ·have h1 : (V1 + x / y * v2) * 1 ≤ (V1 + x / y * v2) * y := Nat.mul_le_mul_left _ (by omega)
  omega
 ·rcases h.phase with ⟨_, _, rfl, rfl, rfl, rfl, rfl⟩ | ⟨_, rfl, rfl, rfl, rfl⟩ | ⟨p1, p2, p3, p4, _⟩
  ·exact .inr (.inl ⟨rfl, rfl, rfl, by omega, rfl⟩)
  ·refine .inr (.inr ⟨by omega, by omega, huv, by omega, ?_⟩)
   rcases h.side with ⟨hh, k⟩ | ⟨_, k⟩
   ·cases hh
   ·exact good_false k ha hb huv (by omega) (by omega) hy hxy
  ·refine .inr (.inr ⟨by omega, by omega, huv, by omega, ?_⟩)
   rcases h.side with ⟨rfl, k⟩ | ⟨rfl, k⟩
   ·exact good_true k ha hb huv p4 hy hxy
   ·exact good_false k ha hb huv p3 p4 hy hxy
end Go.Proofs.YtnhfpekpdephjaaGreat.Nt
