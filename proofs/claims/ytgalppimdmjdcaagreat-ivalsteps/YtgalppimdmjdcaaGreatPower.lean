/-
  nat.power, nat.Pow.
-/
import Derived.Test.YtgalppimdmjdcaaGreatSetK
import Derived.Test.YtgalppimdmjdcaaGreatSetC
namespace Go.Proofs.YtgalppimdmjdcaaGreat
open Go.RowKit Nt
set_option linter.unusedSimpArgs false
set_option linter.unusedVariables false
set_option maxRecDepth 20000

theorem and_one_i64 (y : Nat) (hy : y < 9223372036854775808) : bits .and .i64 (y : Int) 1 = ((y % 2 : Nat) : Int) := by
  have h1 : BitVec.ofInt 64 (y : Int) = BitVec.ofNat 64 y := by simp
  have h2 : BitVec.ofInt 64 (1 : Int) = BitVec.ofNat 64 1 := by rfl
  have e : ((BitVec.ofInt IntKind.i64.bits (y : Int)) &&& (BitVec.ofInt IntKind.i64.bits (1 : Int))).toNat = y % 2 := by
    show ((BitVec.ofInt 64 (y : Int)) &&& (BitVec.ofInt 64 (1 : Int))).toNat = y % 2
    rw [h1, h2, BitVec.toNat_and, BitVec.toNat_ofNat, BitVec.toNat_ofNat, Nat.mod_eq_of_lt (show y < 2 ^ 64 by omega), Nat.mod_eq_of_lt (show 1 < 2 ^ 64 by omega), Nat.and_one_is_mod]
  unfold bits
  simp only []
  rw [e, IntKind.wrap_i64]
  omega

/-- How many limbs a power has. -/
theorem pow_len {v e b M K : Nat} (hv : v < 2 ^ b) (hb : b * e ≤ M) (hM : M < 32 * K) : (digs (v ^ e)).length ≤ K := by
  apply digs_length_le
  have h1 : v ^ e ≤ (2 ^ b) ^ e := Nat.pow_le_pow_left (by omega) e
  rw [← Nat.pow_mul] at h1
  have h2 : 2 ^ (b * e) ≤ 2 ^ M := Nat.pow_le_pow_right (by omega) hb
  have h3 : (4294967296 : Nat) ^ K = 2 ^ (32 * K) := by rw [Nat.pow_mul]
  rw [h3]
  exact Nat.lt_of_le_of_lt (Nat.le_trans h1 h2) (Nat.pow_lt_pow_right (by omega) hM)

/-- What Pow answers: its number and its error. -/
def powV (v : Nat) (z : Int) : Nat := if z < 0 then 0 else if z = 0 then 1 else if v ≤ 1 then v else if 1048576 < Go.bitLen v * z.toNat then 0 else v ^ z.toNat
def powE (v : Nat) (z : Int) : Int := if z < 0 then 1 else if z = 0 then 0 else if v ≤ 1 then 0 else if 1048576 < Go.bitLen v * z.toNat then 2 else 0

theorem bl_le_one {v : Nat} : Go.bitLen v ≤ 1 ↔ v ≤ 1 := by
  obtain ⟨s1, s2⟩ := bitLen_spec v
  constructor
  · intro h
    have : 2 ^ Go.bitLen v ≤ 2 ^ 1 := Nat.pow_le_pow_right (by omega) h
    omega
  · intro h
    apply Classical.byContradiction
    intro hc
    have h0 : v ≠ 0 := by intro e; subst e; simp [Go.bitLen] at hc
    have := s2 h0
    have h3 : 2 ^ 1 ≤ 2 ^ (Go.bitLen v - 1) := Nat.pow_le_pow_right (by omega) (by omega)
    omega
theorem bl_val_le {xs : List Nat} {n : Nat} (ho : Ok xs) (hn : xs.length ≤ n) : Go.bitLen (val xs) ≤ 32 * n := by
  apply Classical.byContradiction
  intro hc
  obtain ⟨s1, s2⟩ := bitLen_spec (val xs)
  have h0 : val xs ≠ 0 := by intro e; rw [e] at hc; simp [Go.bitLen] at hc
  have h1 := s2 h0
  have h2 := val_lt ho
  have h3 : 2 ^ (32 * n) ≤ 2 ^ (Go.bitLen (val xs) - 1) := Nat.pow_le_pow_right (by omega) (by omega)
  have h4 : (4294967296 : Nat) ^ xs.length ≤ 4294967296 ^ n := Nat.pow_le_pow_right (by omega) hn
  have h5 : (4294967296 : Nat) ^ n = 2 ^ (32 * n) := by rw [Nat.pow_mul]
  omega

theorem nil_ans (w : World) : Sl w none (digs 0).length 0 (digs 0) := Sl.none w

end Go.Proofs.YtgalppimdmjdcaaGreat
