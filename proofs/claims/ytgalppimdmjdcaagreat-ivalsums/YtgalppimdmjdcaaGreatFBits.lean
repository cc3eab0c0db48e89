/-
  The fields of a float: sign, exponent, fraction, and the bit operations that package math takes to them.
-/
import Derived.Test.YtgalppimdmjdcaaGreatFLeaf4
namespace Go.Proofs.YtgalppimdmjdcaaGreat
open Go.RowKit Nt
set_option linter.unusedSimpArgs false
set_option linter.unusedVariables false
set_option maxRecDepth 20000

theorem bits_u64 (op : BinOp) (r : Nat) (a b : Nat) (h : r < 18446744073709551616) (e : (match op with | .and => BitVec.ofInt 64 (a : Int) &&& BitVec.ofInt 64 (b : Int) | .or => BitVec.ofInt 64 (a : Int) ||| BitVec.ofInt 64 (b : Int) | .andNot => BitVec.ofInt 64 (a : Int) &&& ~~~ BitVec.ofInt 64 (b : Int) | _ => BitVec.ofInt 64 (a : Int)).toNat = r) (hop : op = .and ∨ op = .or ∨ op = .andNot) : bits op .u64 (a : Int) (b : Int) = (r : Int) := by
  rcases hop with rfl | rfl | rfl
  · show IntKind.u64.wrap (((BitVec.ofInt 64 (a : Int) &&& BitVec.ofInt 64 (b : Int)).toNat : Nat) : Int) = _
    rw [show (BitVec.ofInt 64 (a : Int) &&& BitVec.ofInt 64 (b : Int)).toNat = r from e, wrap_u64 h]
  · show IntKind.u64.wrap (((BitVec.ofInt 64 (a : Int) ||| BitVec.ofInt 64 (b : Int)).toNat : Nat) : Int) = _
    rw [show (BitVec.ofInt 64 (a : Int) ||| BitVec.ofInt 64 (b : Int)).toNat = r from e, wrap_u64 h]
  · show IntKind.u64.wrap (((BitVec.ofInt 64 (a : Int) &&& ~~~ BitVec.ofInt 64 (b : Int)).toNat : Nat) : Int) = _
    rw [show (BitVec.ofInt 64 (a : Int) &&& ~~~ BitVec.ofInt 64 (b : Int)).toNat = r from e, wrap_u64 h]
theorem and_2047 (n : Nat) : n &&& 2047 = n % 2048 := by rw [show (2047 : Nat) = 2 ^ 11 - 1 from rfl, Nat.and_two_pow_sub_one_eq_mod]
theorem div_mod_eq {a b m : Nat} (hm : 0 < m) (h1 : a / m = b / m) (h2 : a % m = b % m) : a = b := by
  rw [← Nat.div_add_mod a m, ← Nat.div_add_mod b m, h1, h2]
/-- A word without its exponent. -/
theorem and_mask (s E f : Nat) (hs : s < 2) (hE : E < 2048) (hf : f < 4503599627370496) : (s * 9223372036854775808 + E * 4503599627370496 + f) &&& 9227875636482146303 = s * 9223372036854775808 + f := by
  apply div_mod_eq (m := 4503599627370496) (by decide)
  · have := Nat.and_div_two_pow (a := s * 9223372036854775808 + E * 4503599627370496 + f) (b := 9227875636482146303) (n := 52)
    rw [show (2 : Nat) ^ 52 = 4503599627370496 from rfl] at this
    rw [this]
    rw [show (s * 9223372036854775808 + E * 4503599627370496 + f) / 4503599627370496 = s * 2048 + E from by omega, show (s * 9223372036854775808 + f) / 4503599627370496 = s * 2048 from by omega]
    show (s * 2048 + E) &&& 2048 = s * 2048
    apply div_mod_eq (m := 2048) (by decide)
    · have := Nat.and_div_two_pow (a := s * 2048 + E) (b := 2048) (n := 11)
      rw [show (2 : Nat) ^ 11 = 2048 from rfl] at this
      rw [this, show (s * 2048 + E) / 2048 = s from by omega, show s * 2048 / 2048 = s from by omega]
      rcases (by omega : s = 0 ∨ s = 1) with rfl | rfl <;> rfl
    · have := Nat.and_mod_two_pow (a := s * 2048 + E) (b := 2048) (n := 11)
      rw [show (2 : Nat) ^ 11 = 2048 from rfl] at this
      rw [this, Nat.mod_self, Nat.and_zero]
      omega
  · have := Nat.and_mod_two_pow (a := s * 9223372036854775808 + E * 4503599627370496 + f) (b := 9227875636482146303) (n := 52)
    rw [show (2 : Nat) ^ 52 = 4503599627370496 from rfl] at this
    rw [this, show (s * 9223372036854775808 + E * 4503599627370496 + f) % 4503599627370496 = f from by omega, show (s * 9223372036854775808 + f) % 4503599627370496 = f from by omega]
    show f &&& 4503599627370495 = f
    rw [show (4503599627370495 : Nat) = 2 ^ 52 - 1 from rfl, Nat.and_two_pow_sub_one_eq_mod]
    exact Nat.mod_eq_of_lt hf
/-- .. and with another one. -/
theorem or_exp (s k f : Nat) (hs : s < 2) (hk : k < 2048) (hf : f < 4503599627370496) : (s * 9223372036854775808 + f) ||| (k * 4503599627370496) = s * 9223372036854775808 + k * 4503599627370496 + f := by
  apply div_mod_eq (m := 4503599627370496) (by decide)
  · have := Nat.or_div_two_pow (a := s * 9223372036854775808 + f) (b := k * 4503599627370496) (n := 52)
    rw [show (2 : Nat) ^ 52 = 4503599627370496 from rfl] at this
    rw [this, show (s * 9223372036854775808 + k * 4503599627370496 + f) / 4503599627370496 = s * 2048 + k from by omega, show (s * 9223372036854775808 + f) / 4503599627370496 = s * 2048 from by omega, show k * 4503599627370496 / 4503599627370496 = k from by omega]
    apply div_mod_eq (m := 2048) (by decide)
    · have := Nat.or_div_two_pow (a := s * 2048) (b := k) (n := 11)
      rw [show (2 : Nat) ^ 11 = 2048 from rfl] at this
      rw [this, show s * 2048 / 2048 = s from by omega, show k / 2048 = 0 from by omega, Nat.or_zero]
      omega
    · have := Nat.or_mod_two_pow (a := s * 2048) (b := k) (n := 11)
      rw [show (2 : Nat) ^ 11 = 2048 from rfl] at this
      rw [this, show s * 2048 % 2048 = 0 from by omega, Nat.zero_or]
      omega
  · have := Nat.or_mod_two_pow (a := s * 9223372036854775808 + f) (b := k * 4503599627370496) (n := 52)
    rw [show (2 : Nat) ^ 52 = 4503599627370496 from rfl] at this
    rw [this, show (s * 9223372036854775808 + f) % 4503599627370496 = f from by omega, show k * 4503599627370496 % 4503599627370496 = 0 from by omega, Nat.or_zero]
    omega
theorem bits_mask (s E f : Nat) (hs : s < 2) (hE : E < 2048) (hf : f < 4503599627370496) : bits .andNot .u64 ((s * 9223372036854775808 + E * 4503599627370496 + f : Nat) : Int) 9218868437227405312 = ((s * 9223372036854775808 + f : Nat) : Int) := by
  refine bits_u64 .andNot _ _ 9218868437227405312 (by omega) ?_ (by simp)
  show (BitVec.ofInt 64 ((s * 9223372036854775808 + E * 4503599627370496 + f : Nat) : Int) &&& 9227875636482146303#64).toNat = _
  rw [ofInt_nat, BitVec.toNat_and, BitVec.toNat_ofNat, Nat.mod_eq_of_lt (by omega)]
  exact and_mask s E f hs hE hf
theorem bits_exp (s k f : Nat) (hs : s < 2) (hk : k < 2048) (hf : f < 4503599627370496) : bits .or .u64 ((s * 9223372036854775808 + f : Nat) : Int) ((k * 4503599627370496 : Nat) : Int) = ((s * 9223372036854775808 + k * 4503599627370496 + f : Nat) : Int) := by
  refine bits_u64 .or _ _ _ (by omega) ?_ (by simp)
  show (BitVec.ofInt 64 ((s * 9223372036854775808 + f : Nat) : Int) ||| BitVec.ofInt 64 ((k * 4503599627370496 : Nat) : Int)).toNat = _
  rw [ofInt_nat, ofInt_nat, BitVec.toNat_or, BitVec.toNat_ofNat, BitVec.toNat_ofNat, Nat.mod_eq_of_lt (by omega), Nat.mod_eq_of_lt (by omega)]
  exact or_exp s k f hs hk hf
theorem bits_2047 (n : Nat) (hn : n < 18446744073709551616) : bits .and .u64 (n : Int) 2047 = ((n % 2048 : Nat) : Int) := by
  refine bits_u64 .and _ _ 2047 (by omega) ?_ (by simp)
  show (BitVec.ofInt 64 (n : Int) &&& 2047#64).toNat = _
  rw [ofInt_nat, BitVec.toNat_and, BitVec.toNat_ofNat, Nat.mod_eq_of_lt (by omega)]
  exact and_2047 n
theorem bits_2047i (n : Nat) (hn : n < 9223372036854775808) : bits .and .i64 (n : Int) 2047 = ((n % 2048 : Nat) : Int) := by
  show IntKind.i64.wrap (((BitVec.ofInt 64 (n : Int) &&& 2047#64).toNat : Nat) : Int) = _
  rw [ofInt_nat, BitVec.toNat_and, BitVec.toNat_ofNat, Nat.mod_eq_of_lt (by omega)]
  rw [show n &&& (2047#64).toNat = n % 2048 from and_2047 n, IntKind.wrap_i64]
  omega
/-- A float by its fields. -/
def fw (s E f : Nat) : Nat := s * 9223372036854775808 + E * 4503599627370496 + f
theorem fw_of (b : Nat) (hb : b < 18446744073709551616) : ∃ s E f, b = fw s E f ∧ s < 2 ∧ E < 2048 ∧ f < 4503599627370496 := ⟨b / 9223372036854775808, b % 9223372036854775808 / 4503599627370496, b % 4503599627370496, by unfold fw; omega, by omega, by omega, by omega⟩
theorem plc_fw (s E f : Nat) (hs : s < 2) (hE : E < 2047) (hf : f < 4503599627370496) : plc (fw s E f) = some (if s = 1 then -((E * 4503599627370496 + f : Nat) : Int) else ((E * 4503599627370496 + f : Nat) : Int)) := by
  have e1 : fw s E f % 9223372036854775808 = E * 4503599627370496 + f := by unfold fw; omega
  have e2 : fw s E f / 9223372036854775808 % 2 = s := by unfold fw; omega
  unfold plc
  rw [e1, e2, if_pos (by omega)]
theorem fw_lt {s E f : Nat} (hs : s < 2) (hE : E < 2048) (hf : f < 4503599627370496) : fw s E f < 18446744073709551616 := by unfold fw; omega
end Go.Proofs.YtgalppimdmjdcaaGreat
