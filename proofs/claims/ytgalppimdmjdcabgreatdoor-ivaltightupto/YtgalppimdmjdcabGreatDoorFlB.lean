import Derived.Test.YtgalppimdmjdcabGreatDoorFlA
/-
  The fields of a float: sign, exponent, fraction, and the bit operations that package math takes to them.
-/
namespace Go.Proofs.YtgalppimdmjdcabGreatDoor
open Go.RowKit Nt
set_option linter.unusedSimpArgs false
set_option linter.unusedVariables false
set_option maxRecDepth 20000

theorem bits_u64 (op : BinOp) (r : Nat) (a b : Nat) (h : r < 18446744073709551616) (e : (match op with | .and => BitVec.ofInt 64 (a : Int) &&& BitVec.ofInt 64 (b : Int) | .or => BitVec.ofInt 64 (a : Int) ||| BitVec.ofInt 64 (b : Int) | .andNot => BitVec.ofInt 64 (a : Int) &&& ~~~ BitVec.ofInt 64 (b : Int) | _ => BitVec.ofInt 64 (a : Int)).toNat = r) (hop : op = .and ∨ op = .or ∨ op = .andNot) : bits op .u64 (a : Int) (b : Int) = (r : Int) := by
  rcases hop with rfl | rfl | rfl
  · show IntKind.u64.wrap (((BitVec.ofInt 64 (a : Int) &&& BitVec.ofInt 64 (b : Int)).toNat : Nat) : Int) = _
    rw [show (BitVec.ofInt 64 (a : Int) &&& BitVec.ofInt 64 (b : Int)).toNat = r from e, wrap_u64 h]
  · show IntKind.u64.wrap (((BitVec.ofInt 64 (a : Int) ||| BitVec.ofInt 64 (b : Int)).toNat : Nat) : Int) = _
    rw [show (BitVec.ofInt 64 (a : Int) ||| BitVec.ofInt 64 (b : Int)).toNat = r from e, wrap_u64 h]
  · show IntKind.u64.wrap (((BitVec.ofInt 64 (a : Int) &&& ~~~ BitVec.ofInt 64 (b : Int)).toNat : Nat) : Int) = _
    rw [show (BitVec.ofInt 64 (a : Int) &&& ~~~ BitVec.ofInt 64 (b : Int)).toNat = r from e, wrap_u64 h]
theorem and_2047 (n : Nat) : n &&& 2047 = n % 2048 := by rw [show (2047 : Nat) = 2 ^ 11 - 1 from rfl, Nat.and_two_pow_sub_one_eq_mod]
theorem div_mod_eq {a b m : Nat} (hm : 0 < m) (h1 : a / m = b / m) (h2 : a % m = b % m) : a = b := by
  rw [← Nat.div_add_mod a m, ← Nat.div_add_mod b m, h1, h2]
/-- A word without its exponent. -/
theorem and_mask (s E f : Nat) (hs : s < 2) (hE : E < 2048) (hf : f < 4503599627370496) : (s * 9223372036854775808 + E * 4503599627370496 + f) &&& 9227875636482146303 = s * 9223372036854775808 + f := by
  apply div_mod_eq (m := 4503599627370496) (by decide)
  · have := Nat.and_div_two_pow (a := s * 9223372036854775808 + E * 4503599627370496 + f) (b := 9227875636482146303) (n := 52)
    rw [show (2 : Nat) ^ 52 = 4503599627370496 from rfl] at this
    rw [this]
    rw [show (s * 9223372036854775808 + E * 4503599627370496 + f) / 4503599627370496 = s * 2048 + E from by omega, show (s * 9223372036854775808 + f) / 4503599627370496 = s * 2048 from by omega]
    show (s * 2048 + E) &&& 2048 = s * 2048
    apply div_mod_eq (m := 2048) (by decide)
    · have := Nat.and_div_two_pow (a := s * 2048 + E) (b := 2048) (n := 11)
      rw [show (2 : Nat) ^ 11 = 2048 from rfl] at this
      rw [this, show (s * 2048 + E) / 2048 = s from by omega, show s * 2048 / 2048 = s from by omega]
      rcases (by omega : s = 0 ∨ s = 1) with rfl | rfl <;> rfl
    · have := Nat.and_mod_two_pow (a := s * 2048 + E) (b := 2048) (n := 11)
      rw [show (2 : Nat) ^ 11 = 2048 from rfl] at this
      rw [this, Nat.mod_self, Nat.and_zero]
      omega
  · have := Nat.and_mod_two_pow (a := s * 9223372036854775808 + E * 4503599627370496 + f) (b := 9227875636482146303) (n := 52)
    rw [show (2 : Nat) ^ 52 = 4503599627370496 from rfl] at this
    rw [this, show (s * 9223372036854775808 + E * 4503599627370496 + f) % 4503599627370496 = f from by omega, show (s * 9223372036854775808 + f) % 4503599627370496 = f from by omega]
    show f &&& 4503599627370495 = f
    rw [show (4503599627370495 : Nat) = 2 ^ 52 - 1 from rfl, Nat.and_two_pow_sub_one_eq_mod]
    exact Nat.mod_eq_of_lt hf
/-- .. and with another one. -/
theorem or_exp (s k f : Nat) (hs : s < 2) (hk : k < 2048) (hf : f < 4503599627370496) : (s * 9223372036854775808 + f) ||| (k * 4503599627370496) = s * 9223372036854775808 + k * 4503599627370496 + f := by
  apply div_mod_eq (m := 4503599627370496) (by decide)
  · have := Nat.or_div_two_pow (a := s * 9223372036854775808 + f) (b := k * 4503599627370496) (n := 52)
    rw [show (2 : Nat) ^ 52 = 4503599627370496 from rfl] at this
    rw [this, show (s * 9223372036854775808 + k * 4503599627370496 + f) / 4503599627370496 = s * 2048 + k from by omega, show (s * 9223372036854775808 + f) / 4503599627370496 = s * 2048 from by omega, show k * 4503599627370496 / 4503599627370496 = k from by omega]
    apply div_mod_eq (m := 2048) (by decide)
    · have := Nat.or_div_two_pow (a := s * 2048) (b := k) (n := 11)
      rw [show (2 : Nat) ^ 11 = 2048 from rfl] at this
      rw [this, show s * 2048 / 2048 = s from by omega, show k / 2048 = 0 from by omega, Nat.or_zero]
      omega
    · have := Nat.or_mod_two_pow (a := s * 2048) (b := k) (n := 11)
      rw [show (2 : Nat) ^ 11 = 2048 from rfl] at this
      rw [this, show s * 2048 % 2048 = 0 from by omega, Nat.zero_or]
      omega
  · have := Nat.or_mod_two_pow (a := s * 9223372036854775808 + f) (b := k * 4503599627370496) (n := 52)
    rw [show (2 : Nat) ^ 52 = 4503599627370496 from rfl] at this
    rw [this, show (s * 9223372036854775808 + f) % 4503599627370496 = f from by omega, show k * 4503599627370496 % 4503599627370496 = 0 from by omega, Nat.or_zero]
    omega
theorem bits_mask (s E f : Nat) (hs : s < 2) (hE : E < 2048) (hf : f < 4503599627370496) : bits .andNot .u64 ((s * 9223372036854775808 + E * 4503599627370496 + f : Nat) : Int) 9218868437227405312 = ((s * 9223372036854775808 + f : Nat) : Int) := by
  refine bits_u64 .andNot _ _ 9218868437227405312 (by omega) ?_ (by simp)
  show (BitVec.ofInt 64 ((s * 9223372036854775808 + E * 4503599627370496 + f : Nat) : Int) &&& 9227875636482146303#64).toNat = _
  rw [ofInt_nat, BitVec.toNat_and, BitVec.toNat_ofNat, Nat.mod_eq_of_lt (by omega)]
  exact and_mask s E f hs hE hf
theorem bits_exp (s k f : Nat) (hs : s < 2) (hk : k < 2048) (hf : f < 4503599627370496) : bits .or .u64 ((s * 9223372036854775808 + f : Nat) : Int) ((k * 4503599627370496 : Nat) : Int) = ((s * 9223372036854775808 + k * 4503599627370496 + f : Nat) : Int) := by
  refine bits_u64 .or _ _ _ (by omega) ?_ (by simp)
  show (BitVec.ofInt 64 ((s * 9223372036854775808 + f : Nat) : Int) ||| BitVec.ofInt 64 ((k * 4503599627370496 : Nat) : Int)).toNat = _
  rw [ofInt_nat, ofInt_nat, BitVec.toNat_or, BitVec.toNat_ofNat, BitVec.toNat_ofNat, Nat.mod_eq_of_lt (by omega), Nat.mod_eq_of_lt (by omega)]
  exact or_exp s k f hs hk hf
theorem bits_2047 (n : Nat) (hn : n < 18446744073709551616) : bits .and .u64 (n : Int) 2047 = ((n % 2048 : Nat) : Int) := by
  refine bits_u64 .and _ _ 2047 (by omega) ?_ (by simp)
  show (BitVec.ofInt 64 (n : Int) &&& 2047#64).toNat = _
  rw [ofInt_nat, BitVec.toNat_and, BitVec.toNat_ofNat, Nat.mod_eq_of_lt (by omega)]
  exact and_2047 n
theorem bits_2047i (n : Nat) (hn : n < 9223372036854775808) : bits .and .i64 (n : Int) 2047 = ((n % 2048 : Nat) : Int) := by
  show IntKind.i64.wrap (((BitVec.ofInt 64 (n : Int) &&& 2047#64).toNat : Nat) : Int) = _
  rw [ofInt_nat, BitVec.toNat_and, BitVec.toNat_ofNat, Nat.mod_eq_of_lt (by omega)]
  rw [show n &&& (2047#64).toNat = n % 2048 from and_2047 n, IntKind.wrap_i64]
  omega
/-- A float by its fields. -/
def fw (s E f : Nat) : Nat := s * 9223372036854775808 + E * 4503599627370496 + f
theorem fw_of (b : Nat) (hb : b < 18446744073709551616) : ∃ s E f, b = fw s E f ∧ s < 2 ∧ E < 2048 ∧ f < 4503599627370496 := ⟨b / 9223372036854775808, b % 9223372036854775808 / 4503599627370496, b % 4503599627370496, by unfold fw; omega, by omega, by omega, by omega⟩
theorem plc_fw (s E f : Nat) (hs : s < 2) (hE : E < 2047) (hf : f < 4503599627370496) : plc (fw s E f) = some (if s = 1 then -((E * 4503599627370496 + f : Nat) : Int) else ((E * 4503599627370496 + f : Nat) : Int)) := by
  have e1 : fw s E f % 9223372036854775808 = E * 4503599627370496 + f := by unfold fw; omega
  have e2 : fw s E f / 9223372036854775808 % 2 = s := by unfold fw; omega
  unfold plc
  rw [e1, e2, if_pos (by omega)]
theorem fw_lt {s E f : Nat} (hs : s < 2) (hE : E < 2048) (hf : f < 4503599627370496) : fw s E f < 18446744073709551616 := by unfold fw; omega
end Go.Proofs.YtgalppimdmjdcabGreatDoor

/-
  Rounding: the float that is nearest lies beside the number; a number that is a float is told by itself.
-/
namespace Go.Proofs.YtgalppimdmjdcabGreatDoor
open Go
set_option linter.unusedSimpArgs false
set_option linter.unusedVariables false
set_option maxRecDepth 20000

theorem cut_even (neg : Bool) (n d : Nat) : Ieee.Toward.even.cut neg n d * 2 ^ d < n + 2 ^ d ∧ n < Ieee.Toward.even.cut neg n d * 2 ^ d + 2 ^ d ∧ (n % 2 ^ d = 0 → Ieee.Toward.even.cut neg n d * 2 ^ d = n) := by
  obtain ⟨k, hk⟩ : ∃ k, Ieee.Toward.even.cut neg n d = k := ⟨_, rfl⟩
  rw [hk]
  unfold Ieee.Toward.cut at hk
  simp only [Nat.shiftLeft_eq, Nat.one_mul] at hk
  have hlog : n < 2 ^ (n.log2 + 1) := Nat.lt_log2_self
  by_cases hd : d ≤ n.log2 + 2
  · rw [Nat.min_eq_left hd] at hk
    have hG : 0 < 2 ^ d := Nat.two_pow_pos d
    generalize 2 ^ d = G at hk hG ⊢
    have hdm := Nat.div_add_mod n G
    have hr := Nat.mod_lt n hG
    generalize n % G = r at hk hdm hr ⊢
    generalize n / G = l at hk hdm
    rw [Nat.mul_comm] at hdm
    cases hb : (decide (G < 2 * r) || G == 2 * r && l % 2 == 1) with
    | false =>
      rw [hb] at hk
      have : l = k := by simpa using hk
      subst this
      refine ⟨by omega, by omega, fun h => by omega⟩
    | true =>
      rw [hb] at hk
      have hk : l + 1 = k := by simpa using hk
      have hr0 : 0 < r := by
        simp at hb
        rcases hb with h | ⟨h, _⟩ <;> omega
      subst hk
      rw [Nat.add_mul, Nat.one_mul]
      refine ⟨by omega, by omega, fun h => by omega⟩
  · rw [Nat.min_eq_right (by omega)] at hk
    have h4 : 2 ^ (n.log2 + 2) = 2 * 2 ^ (n.log2 + 1) := by rw [show n.log2 + 2 = (n.log2 + 1) + 1 from rfl, Nat.pow_succ, Nat.mul_comm]
    have hlt : n < 2 ^ (n.log2 + 2) := by omega
    rw [Nat.mod_eq_of_lt hlt, Nat.div_eq_of_lt hlt] at hk
    have hb : (decide (2 ^ (n.log2 + 2) < 2 * n) || 2 ^ (n.log2 + 2) == 2 * n && 0 % 2 == 1) = false := by simp; omega
    rw [hb] at hk
    have : 0 = k := by simpa using hk
    subst this
    have hle : 2 ^ (n.log2 + 1) ≤ 2 ^ d := Nat.pow_le_pow_right (by decide) (by omega)
    refine ⟨by omega, by omega, fun h => ?_⟩
    rw [Nat.mod_eq_of_lt (by omega)] at h
    omega

/-- Where the float lies that is nearest to V units of 2^-2148. -/
structure Nearest (V R : Nat) : Prop where
  pick : ∃ L K, R = min (L * 4503599627370496 + K) 9218868437227405312 ∧ K ≤ 9007199254740992 ∧ (L = 0 ∨ 4503599627370496 ≤ K) ∧ K * 2 ^ (L + 1074) < V + 2 ^ (L + 1074) ∧ V < K * 2 ^ (L + 1074) + 2 ^ (L + 1074) ∧ (V % 2 ^ (L + 1074) = 0 → K * 2 ^ (L + 1074) = V) ∧ (0 < L → 2 ^ (L + 1126) ≤ V) ∧ V < 2 ^ (L + 1127)
theorem word_f64 (neg : Bool) (r : Nat) : Ieee.double.word neg r = if neg then 9223372036854775808 + r else r := rfl
theorem nearest_f64 (neg : Bool) (mag : Nat) (place : Int) (hm : mag ≠ 0) (hp : -2148 ≤ place) : ∃ R, Ieee.double.nearest neg mag place = (if neg then 9223372036854775808 + R else R) ∧ Nearest (mag * 2 ^ (place + 2148).toNat) R := by
  unfold Ieee.Format.nearest
  rw [if_neg hm]
  have hl1 : 2 ^ mag.log2 ≤ mag := Nat.log2_self_le hm
  have hl2 : mag < 2 ^ (mag.log2 + 1) := Nat.lt_log2_self
  show ∃ R, Ieee.double.word neg (min ((max (place + mag.log2 - (52 : Nat)) (-1074) - (-1074)).toNat * 4503599627370496 + Ieee.Toward.even.cut neg (mag <<< (place - max (place + mag.log2 - (52 : Nat)) (-1074)).toNat) (max (place + mag.log2 - (52 : Nat)) (-1074) - place).toNat) 9218868437227405312) = _ ∧ _
  generalize mag.log2 = l at hl1 hl2
  obtain ⟨last, elast⟩ : ∃ last, max (place + (l : Int) - (52 : Nat)) (-1074) = last := ⟨_, rfl⟩
  rw [elast]
  obtain ⟨L, eL⟩ : ∃ L : Nat, last = (L : Int) - 1074 := ⟨(last + 1074).toNat, by omega⟩
  rw [show (last - -1074).toNat = L from by omega]
  refine ⟨_, word_f64 _ _, ⟨⟨L, _, rfl, ?_⟩⟩⟩
  obtain ⟨c1, c2, c3⟩ := cut_even neg (mag <<< (place - last).toNat) (last - place).toNat
  generalize Ieee.Toward.even.cut neg (mag <<< (place - last).toNat) (last - place).toNat = K at c1 c2 c3
  rw [Nat.shiftLeft_eq] at c1 c2 c3
  obtain ⟨V, eV⟩ : ∃ V, mag * 2 ^ (place + 2148).toNat = V := ⟨_, rfl⟩
  rw [eV]
  have key : K * 2 ^ (L + 1074) < V + 2 ^ (L + 1074) ∧ V < K * 2 ^ (L + 1074) + 2 ^ (L + 1074) ∧ (V % 2 ^ (L + 1074) = 0 → K * 2 ^ (L + 1074) = V) := by
    by_cases h : last ≤ place
    · rw [show (last - place).toNat = 0 from by omega] at c1 c2 c3
      simp only [Nat.pow_zero, Nat.mul_one] at c1 c2 c3
      have hK : K = mag * 2 ^ (place - last).toNat := by omega
      have e : K * 2 ^ (L + 1074) = V := by
        rw [hK, ← eV, Nat.mul_assoc, ← Nat.pow_add]
        congr 2
        omega
      rw [e]
      have := Nat.two_pow_pos (L + 1074)
      exact ⟨by omega, by omega, fun _ => rfl⟩
    · rw [show (place - last).toNat = 0 from by omega, Nat.pow_zero, Nat.mul_one] at c1 c2 c3
      have e : 2 ^ (L + 1074) = 2 ^ (last - place).toNat * 2 ^ (place + 2148).toNat := by
        rw [← Nat.pow_add]
        congr 1
        omega
      rw [e, ← eV]
      have hQ := Nat.two_pow_pos (place + 2148).toNat
      generalize 2 ^ (place + 2148).toNat = Q at hQ ⊢
      generalize 2 ^ (last - place).toNat = D at c1 c2 c3 ⊢
      rw [← Nat.mul_assoc, ← Nat.add_mul, ← Nat.add_mul]
      refine ⟨Nat.mul_lt_mul_of_pos_right c1 hQ, Nat.mul_lt_mul_of_pos_right c2 hQ, fun hz => ?_⟩
      rw [Nat.mul_mod_mul_right] at hz
      have : mag % D = 0 := by
        rcases Nat.mul_eq_zero.1 hz with h | h
        · exact h
        · omega
      rw [c3 this]
  have b1 : V < 2 ^ (L + 1127) := by
    rw [← eV]
    have h1 : mag * 2 ^ (place + 2148).toNat < 2 ^ (l + 1) * 2 ^ (place + 2148).toNat := Nat.mul_lt_mul_of_pos_right hl2 (Nat.two_pow_pos _)
    rw [← Nat.pow_add] at h1
    exact Nat.lt_of_lt_of_le h1 (Nat.pow_le_pow_right (by decide) (by omega))
  have b2 : 0 < L → 2 ^ (L + 1126) ≤ V := fun hL => by
    rw [← eV]
    have h1 : 2 ^ l * 2 ^ (place + 2148).toNat ≤ mag * 2 ^ (place + 2148).toNat := Nat.mul_le_mul_right _ hl1
    rw [← Nat.pow_add] at h1
    exact Nat.le_trans (Nat.pow_le_pow_right (by decide) (by omega)) h1
  have hM := Nat.two_pow_pos (L + 1074)
  have e1 : 2 ^ (L + 1127) = 9007199254740992 * 2 ^ (L + 1074) := by rw [show L + 1127 = 53 + (L + 1074) from by omega, Nat.pow_add]
  have e2 : 2 ^ (L + 1126) = 4503599627370496 * 2 ^ (L + 1074) := by rw [show L + 1126 = 52 + (L + 1074) from by omega, Nat.pow_add]
  obtain ⟨k1, k2, k3⟩ := key
  refine ⟨?_, ?_, k1, k2, k3, b2, b1⟩
  · rw [e1] at b1
    generalize 2 ^ (L + 1074) = M at *
    have : K * M < 9007199254740993 * M := by omega
    have := Nat.lt_of_mul_lt_mul_right this
    omega
  · by_cases hL : L = 0
    · exact Or.inl hL
    · right
      have b2 := b2 (by omega)
      rw [e2] at b2
      generalize 2 ^ (L + 1074) = M at *
      have : 4503599627370496 * M < (K + 1) * M := by rw [Nat.add_mul, Nat.one_mul]; omega
      have := Nat.lt_of_mul_lt_mul_right this
      omega
theorem mg_form {L K : Nat} (hK : K ≤ 9007199254740992) (hL : L = 0 ∨ 4503599627370496 ≤ K) : mg (L * 4503599627370496 + K) = K * 2 ^ L := by
  unfold mg
  by_cases h : L * 4503599627370496 + K < 4503599627370496
  · rw [if_pos h]
    have : L = 0 := by omega
    subst this
    simp
  · rw [if_neg h]
    by_cases h1 : K < 4503599627370496
    · omega
    · by_cases h2 : K = 9007199254740992
      · subst h2
        rw [show (L * 4503599627370496 + 9007199254740992) % 4503599627370496 = 0 from by omega, show (L * 4503599627370496 + 9007199254740992) / 4503599627370496 - 1 = L + 1 from by omega, Nat.pow_succ]
        omega
      · rw [show (L * 4503599627370496 + K) % 4503599627370496 = K - 4503599627370496 from by omega, show (L * 4503599627370496 + K) / 4503599627370496 - 1 = L from by omega]
        rw [show 4503599627370496 + (K - 4503599627370496) = K from by omega]
theorem mg_le {r s : Nat} (h : r ≤ s) : mg r ≤ mg s := by
  rcases Nat.lt_or_eq_of_le h with h | rfl
  · exact Nat.le_of_lt (mg_mono h)
  · exact Nat.le_refl _
/-- So many units of 2^-2148 make the least float. -/
def pw2 (n : Nat) : Nat := 2 ^ n
theorem pw2_pos (n : Nat) : 0 < pw2 n := Nat.two_pow_pos n
theorem pow_pw2 (L n : Nat) : 2 ^ L * pw2 n = 2 ^ (L + n) := (Nat.pow_add 2 L n).symm
def uF : Nat := pw2 1074
theorem uF_pos : 0 < uF := pw2_pos 1074
theorem pow_uF (L : Nat) : 2 ^ L * uF = 2 ^ (L + 1074) := pow_pw2 L 1074
/-- The number lies between the floats beside the one that is told. -/
theorem Nearest.up {V R : Nat} (h : Nearest V R) (hR : R < 9218868437227405312) : V ≤ mg (R + 1) * uF := by
  obtain ⟨L, K, e, h1, h2, h3, h4, h5, h6, h7⟩ := h.pick
  have e : R = L * 4503599627370496 + K := by omega
  have hm : (K + 1) * 2 ^ L ≤ mg (R + 1) := by
    by_cases hk : K = 9007199254740992
    · have := mg_step R
      rw [e, mg_form h1 h2] at this
      subst hk
      have e3 : mg (R + 1) = 4503599627370497 * 2 ^ (L + 1) := by
        rw [show R + 1 = (L + 1) * 4503599627370496 + 4503599627370497 from by omega]
        exact mg_form (by decide) (Or.inr (by decide))
      rw [e3, Nat.pow_succ]
      have := Nat.two_pow_pos L
      omega
    · rw [show R + 1 = L * 4503599627370496 + (K + 1) from by omega, mg_form (by omega) (by omega)]
      exact Nat.le_refl _
  have : V < (K + 1) * 2 ^ L * uF := by
    rw [Nat.mul_assoc, pow_uF, Nat.add_mul, Nat.one_mul]
    exact h4
  exact Nat.le_trans (Nat.le_of_lt this) (Nat.mul_le_mul_right _ hm)
theorem Nearest.down {V R : Nat} (h : Nearest V R) (hR : 0 < R) : mg (R - 1) * uF ≤ V := by
  obtain ⟨L, K, e, h1, h2, h3, h4, h5, h6, h7⟩ := h.pick
  have hle : R - 1 ≤ L * 4503599627370496 + K - 1 := by omega
  refine Nat.le_trans (Nat.mul_le_mul_right _ (mg_le hle)) ?_
  by_cases hk : L ≠ 0 ∧ K = 4503599627370496
  · obtain ⟨hL, rfl⟩ := hk
    refine Nat.le_trans (Nat.mul_le_mul_right _ (mg_le (Nat.sub_le _ 1))) ?_
    rw [mg_form h1 h2, Nat.mul_assoc, pow_uF]
    have := h6 (by omega)
    rw [show L + 1126 = 52 + (L + 1074) from by omega, Nat.pow_add] at this
    exact this
  · have hK0 : 0 < K := by omega
    rw [show L * 4503599627370496 + K - 1 = L * 4503599627370496 + (K - 1) from by omega, mg_form (by omega) (by omega), Nat.mul_assoc, pow_uF]
    obtain ⟨k, rfl⟩ : ∃ k, K = k + 1 := ⟨K - 1, by omega⟩
    rw [Nat.add_sub_cancel]
    rw [Nat.add_mul, Nat.one_mul] at h3
    omega
theorem mg_split (r : Nat) : ∃ L K, r = L * 4503599627370496 + K ∧ K < 9007199254740992 ∧ (L = 0 ∨ 4503599627370496 ≤ K) := by
  by_cases h : r < 9007199254740992
  · exact ⟨0, r, by omega, h, Or.inl rfl⟩
  · exact ⟨r / 4503599627370496 - 1, r % 4503599627370496 + 4503599627370496, by omega, by omega, Or.inr (by omega)⟩
/-- A number that is a float. -/
theorem Nearest.exact {V R r : Nat} (h : Nearest V R) (hr : r < 9218868437227405312) (hV : V = mg r * uF) : R = r := by
  obtain ⟨L, K, e, h1, h2, h3, h4, h5, h6, h7⟩ := h.pick
  obtain ⟨L', K', e', k1, k2⟩ := mg_split r
  have hV' : V = K' * 2 ^ (L' + 1074) := by rw [hV, e', mg_form (by omega) k2, Nat.mul_assoc, pow_uF]
  have hLL : L ≤ L' := by
    apply Classical.byContradiction
    intro hc
    have h6 := h6 (by omega)
    rw [hV'] at h6
    have : K' * 2 ^ (L' + 1074) < 2 ^ 53 * 2 ^ (L' + 1074) := Nat.mul_lt_mul_of_pos_right (by omega) (Nat.two_pow_pos _)
    rw [← Nat.pow_add] at this
    have := Nat.pow_le_pow_right (n := 2) (by decide) (show 53 + (L' + 1074) ≤ L + 1126 by omega)
    omega
  have hmod : V % 2 ^ (L + 1074) = 0 := by
    rw [hV', show L' + 1074 = (L' - L) + (L + 1074) from by omega, Nat.pow_add, ← Nat.mul_assoc]
    exact Nat.mul_mod_left _ _
  have hKV := h5 hmod
  have : mg (L * 4503599627370496 + K) = mg r := by
    have h8 : mg (L * 4503599627370496 + K) * uF = mg r * uF := by rw [mg_form h1 h2, Nat.mul_assoc, pow_uF, hKV, hV]
    exact Nat.eq_of_mul_eq_mul_right uF_pos h8
  have : L * 4503599627370496 + K = r := by
    rcases Nat.lt_trichotomy (L * 4503599627370496 + K) r with h | h | h
    · have := mg_mono h; omega
    · exact h
    · have := mg_mono h; omega
  omega
end Go.Proofs.YtgalppimdmjdcabGreatDoor

/-
  math.normalize, Frexp and Ldexp, as ival.Exact calls them.
-/
namespace Go.Proofs.YtgalppimdmjdcabGreatDoor
open Go.RowKit Nt
set_option linter.unusedSimpArgs false
set_option linter.unusedVariables false
set_option maxRecDepth 20000

theorem plc_min : plc 4503599627370496 = some 4503599627370496 := rfl
theorem normalize_n (b : Nat) (hb : b < 18446744073709551616) (p : Int) (hp : plc b = some p) (h : 4503599627370496 ≤ p.natAbs) : Pur 61 #[.float .f64 b] (.tuple #[.float .f64 b, .int .i64 0]) := by
  intro w
  have A := abs_p b hb
  have e4 : (FloatKind.f64.format.order (b % 9223372036854775808) 4503599627370496 == some Ordering.lt) = false := by
    rw [fo_plc, plc_abs b hb p hp, plc_min]
    simp only [ordP]
    rw [cmp_lt, decide_eq_false (by omega)]
  clear hp h
  go_enter Tryz.func61, Tryz.ntmps61
  go_wp2_with (go_at_call 33; refine (A _).mono ?_; rintro e w' ⟨rfl, rfl⟩)
  refine bodyPost_ret (by simp [results, Tryz.results61, go_sem]; try rfl) rfl ?_
  exact ⟨rfl, rfl⟩
/-- The bit operations of one float, as they come up. -/
theorem fields (s E f k : Nat) (hs : s < 2) (hE : E < 2047) (hf : f < 4503599627370496) (hk : k < 2048) : ∃ M : Nat, bits .and .u64 (((fw s E f : Nat) : Int) / 4503599627370496) 2047 = (E : Int) ∧ bits .andNot .u64 ((fw s E f : Nat) : Int) 9218868437227405312 = (M : Int) ∧ bits .or .u64 ((M : Nat) : Int) ((k * 4503599627370496 : Nat) : Int) = ((fw s k f : Nat) : Int) := by
  refine ⟨s * 9223372036854775808 + f, ?_, bits_mask s E f hs (by omega) hf, bits_exp s k f hs hk hf⟩
  have e1 : ((fw s E f : Nat) : Int) / 4503599627370496 = ((s * 2048 + E : Nat) : Int) := by unfold fw; omega
  rw [e1, bits_2047 _ (by omega)]
  omega
theorem frexp_n (s E f : Nat) (hs : s < 2) (hE : E < 2047) (hE1 : 1 ≤ E) (hf : f < 4503599627370496) : Pur 36 #[.float .f64 (fw s E f)] (.tuple #[.float .f64 (fw s 1022 f), .int .i64 ((E : Int) - 1022)]) := by
  intro w
  have hb := fw_lt hs (show E < 2048 by omega) hf
  have hp := plc_fw s E f hs hE hf
  obtain ⟨p, hp', hp1, hp2⟩ : ∃ p : Int, plc (fw s E f) = some p ∧ 4503599627370496 ≤ p.natAbs ∧ p.natAbs < 9218868437227405312 := ⟨_, hp, by split <;> omega, by split <;> omega⟩
  have N1 := normalize_n _ hb p hp' hp1
  have N2 := isnan_f hp'
  have N3 := isinf_a _ hb p hp'
  rw [decide_eq_false (by omega)] at N3
  have e0 : (FloatKind.f64.format.order (fw s E f) 0 == some Ordering.eq) = false := by
    rw [fo_plc, hp', show plc 0 = some 0 from rfl]
    simp only [ordP]
    rw [cmp_eq, decide_eq_false (by omega)]
  have F1 := fun n W => run_frombits n W
  have F2 := fun W => run_bits (fw s E f) W
  obtain ⟨M, m1, m2, m3⟩ := fields s E f 1022 hs hE hf (by decide)
  rw [show ((1022 * 4503599627370496 : Nat) : Int) = 4602678819172646912 from rfl] at m3
  clear hp hp' hp1 hp2
  generalize hB : fw s E f = B at *
  generalize fw s 1022 f = R at *
  go_enter Tryz.func36, Tryz.ntmps36
  go_wp2_with (first | (go_at_call 13; refine (N2 _).mono ?_; rintro e w' ⟨rfl, rfl⟩) | (go_at_call 14; refine (N3 _).mono ?_; rintro e w' ⟨rfl, rfl⟩) | (go_at_call 61; refine (N1 _).mono ?_; rintro e w' ⟨rfl, rfl⟩))
  refine bodyPost_ret (by simp [results, Tryz.results36, go_sem]; try rfl) rfl ?_
  exact ⟨by rw [show (E : Int) - 1023 + 1 = (E : Int) - 1022 from by omega], rfl⟩
theorem pw2_add (a b : Nat) : pw2 a * pw2 b = pw2 (a + b) := (Nat.pow_add 2 a b).symm
theorem mg_form2 {L K : Nat} (hK : K ≤ 9007199254740992) (hL : L = 0 ∨ 4503599627370496 ≤ K) : mg (L * 4503599627370496 + K) = K * pw2 L := mg_form hK hL
/-- A product that is a float. -/
theorem mul_exact {x y : Nat} {s t : Bool} {m n i j : Nat} (hx : Ieee.double.read x = .number s m (-1074 + (i : Int))) (hy : Ieee.double.read y = .number t n (-1074 + (j : Int))) (r : Nat) (hr : r < 9218868437227405312) (hn : m * n ≠ 0) (hV : m * n * pw2 (i + j) = mg r * uF) : floatBits .mul .f64 x y = some (if (s ^^ t) then 9223372036854775808 + r else r) := by
  show ((Ieee.double.read x).product (Ieee.double.read y)).map Ieee.double.write = _
  rw [hx, hy]
  show some (Ieee.double.nearest (s ^^ t) (m * n) (-1074 + (i : Int) + (-1074 + (j : Int)))) = _
  obtain ⟨R, h1, h2⟩ := nearest_f64 (s ^^ t) (m * n) (-1074 + (i : Int) + (-1074 + (j : Int))) hn (by omega)
  rw [h1]
  rw [show (-1074 + (i : Int) + (-1074 + (j : Int)) + 2148).toNat = i + j from by omega] at h2
  rw [h2.exact hr hV]
theorem read_fw (s E f : Nat) (hs : s < 2) (hE : E < 2047) (hE1 : 1 ≤ E) (hf : f < 4503599627370496) : Ieee.double.read (fw s E f) = .number (s == 1) (4503599627370496 + f) (-1074 + ((E - 1 : Nat) : Int)) := by
  rw [read_f64]
  have e1 : fw s E f % 9223372036854775808 = E * 4503599627370496 + f := by unfold fw; omega
  have e2 : fw s E f / 9223372036854775808 % 2 = s := by unfold fw; omega
  rw [e1, e2, if_neg (by omega), if_pos (by omega), show (E * 4503599627370496 + f) % 4503599627370496 = f from by omega, show (E * 4503599627370496 + f) / 4503599627370496 - 1 = E - 1 from by omega]
theorem read_fw0 (s f : Nat) (hs : s < 2) (hf : f < 4503599627370496) : Ieee.double.read (fw s 0 f) = .number (s == 1) f (-1074 + ((0 : Nat) : Int)) := by
  rw [read_f64]
  have e1 : fw s 0 f % 9223372036854775808 = f := by unfold fw; omega
  have e2 : fw s 0 f / 9223372036854775808 % 2 = s := by unfold fw; omega
  rw [e1, e2, if_pos (by omega)]
  rfl
theorem word_fw (s E f : Nat) (hs : s < 2) : (if (s == 1) then 9223372036854775808 + (E * 4503599627370496 + f) else E * 4503599627370496 + f) = fw s E f := by
  unfold fw
  rcases (by omega : s = 0 ∨ s = 1) with rfl | rfl
  · rw [if_neg (by decide)]; omega
  · rw [if_pos (by decide)]; omega
theorem mul_one (s f : Nat) (hs : s < 2) (hf : f < 4503599627370496) : floatBits .mul .f64 4607182418800017408 (fw s 1075 f) = some (fw s 1075 f) := by
  have h1 : Ieee.double.read 4607182418800017408 = .number false 4503599627370496 (-1074 + ((1022 : Nat) : Int)) := rfl
  have h2 := read_fw s 1075 f hs (by decide) (by decide) hf
  rw [show (1075 - 1 : Nat) = 1074 from rfl] at h2
  have hm : mg (1075 * 4503599627370496 + f) = (4503599627370496 + f) * pw2 1074 := by
    rw [show 1075 * 4503599627370496 + f = 1074 * 4503599627370496 + (4503599627370496 + f) from by omega]
    exact mg_form2 (by omega) (Or.inr (by omega))
  have := mul_exact h1 h2 (1075 * 4503599627370496 + f) (by omega) (by
    have : 0 < 4503599627370496 * (4503599627370496 + f) := Nat.mul_pos (by decide) (by omega)
    omega) (by
    rw [hm, show (4503599627370496 : Nat) = pw2 52 from rfl, uF]
    rw [Nat.mul_comm (pw2 52) (pw2 52 + f), Nat.mul_assoc, Nat.mul_assoc, pw2_add, pw2_add])
  rw [this, Bool.false_xor, word_fw s 1075 f hs]
theorem mul_52 (s f : Nat) (hs : s < 2) (hf : f < 4503599627370496) (hf0 : 0 < f) : ∃ L k, L < 52 ∧ k < 4503599627370496 ∧ f * 2 ^ (52 - L) = 4503599627370496 + k ∧ floatBits .mul .f64 (fw s 0 f) 4841369599423283200 = some (fw s (L + 1) k) := by
  have hl1 : 2 ^ f.log2 ≤ f := Nat.log2_self_le (by omega)
  have hl2 : f < 2 ^ (f.log2 + 1) := Nat.lt_log2_self
  have hL : f.log2 < 52 := by
    apply Classical.byContradiction
    intro hc
    have := Nat.pow_le_pow_right (n := 2) (by decide) (show 52 ≤ f.log2 by omega)
    have : (2 : Nat) ^ 52 = 4503599627370496 := rfl
    omega
  generalize f.log2 = L at hl1 hl2 hL
  have hk1 : 4503599627370496 ≤ f * 2 ^ (52 - L) := by
    have h := Nat.mul_le_mul_right (2 ^ (52 - L)) hl1
    rw [← Nat.pow_add, show L + (52 - L) = 52 from by omega] at h
    exact h
  have hk2 : f * 2 ^ (52 - L) < 9007199254740992 := by
    have h := Nat.mul_lt_mul_of_pos_right hl2 (Nat.two_pow_pos (52 - L))
    rw [← Nat.pow_add, show L + 1 + (52 - L) = 53 from by omega] at h
    exact h
  obtain ⟨k, hk⟩ : ∃ k, f * 2 ^ (52 - L) = 4503599627370496 + k := ⟨f * 2 ^ (52 - L) - 4503599627370496, by omega⟩
  refine ⟨L, k, hL, by omega, hk, ?_⟩
  have h1 := read_fw0 s f hs hf
  have h2 : Ieee.double.read 4841369599423283200 = .number false 4503599627370496 (-1074 + ((1074 : Nat) : Int)) := rfl
  have hm : mg ((L + 1) * 4503599627370496 + k) = f * 4503599627370496 := by
    rw [show (L + 1) * 4503599627370496 + k = L * 4503599627370496 + (4503599627370496 + k) from by omega, mg_form (by omega) (Or.inr (by omega)), ← hk, Nat.mul_assoc, ← Nat.pow_add, show 52 - L + L = 52 from by omega]
  have := mul_exact h1 h2 ((L + 1) * 4503599627370496 + k) (by omega) (by
    have : 0 < f * 4503599627370496 := Nat.mul_pos hf0 (by decide)
    omega) (by rw [hm, Nat.zero_add, uF])
  rw [this, Bool.xor_false, word_fw s (L + 1) k hs]
end Go.Proofs.YtgalppimdmjdcabGreatDoor

/-
  Frexp of every finite float, Ldexp of what it hands back by 53.
-/
namespace Go.Proofs.YtgalppimdmjdcabGreatDoor
open Go.RowKit Nt
set_option linter.unusedSimpArgs false
set_option linter.unusedVariables false
set_option maxRecDepth 20000

theorem normalize_s (s f : Nat) (hs : s < 2) (hf : f < 4503599627370496) (hf0 : 0 < f) (r : Nat) (hr : floatBits .mul .f64 (fw s 0 f) 4841369599423283200 = some r) : Pur 61 #[.float .f64 (fw s 0 f)] (.tuple #[.float .f64 r, .int .i64 (-52)]) := by
  intro w
  have hb := fw_lt hs (show 0 < 2048 by decide) hf
  have hp := plc_fw s 0 f hs (by decide) hf
  have A := abs_p _ hb
  have e4 : (FloatKind.f64.format.order (fw s 0 f % 9223372036854775808) 4503599627370496 == some Ordering.lt) = true := by
    rw [fo_plc, plc_abs _ hb _ hp, plc_min]
    simp only [ordP]
    rw [cmp_lt, decide_eq_true]
    split <;> omega
  have M := fun T W => run_float_arith (P := Tryz.prog) W .mul T .f64 _ _ _ hr
  clear hp hr
  generalize fw s 0 f = b at *
  go_enter Tryz.func61, Tryz.ntmps61
  go_wp2_with (go_at_call 33; refine (A _).mono ?_; rintro e w' ⟨rfl, rfl⟩)
  refine bodyPost_ret (by simp [results, Tryz.results61, go_sem]; try rfl) rfl ?_
  exact ⟨rfl, rfl⟩
theorem frexp_s (s f : Nat) (hs : s < 2) (hf : f < 4503599627370496) (hf0 : 0 < f) (L k : Nat) (hL : L < 52) (hk : k < 4503599627370496) (hr : floatBits .mul .f64 (fw s 0 f) 4841369599423283200 = some (fw s (L + 1) k)) : Pur 36 #[.float .f64 (fw s 0 f)] (.tuple #[.float .f64 (fw s 1022 k), .int .i64 ((L : Int) - 1073)]) := by
  intro w
  have hb := fw_lt hs (show 0 < 2048 by decide) hf
  have hp := plc_fw s 0 f hs (by decide) hf
  obtain ⟨p, hp', hp1, hp2⟩ : ∃ p : Int, plc (fw s 0 f) = some p ∧ 0 < p.natAbs ∧ p.natAbs < 4503599627370496 := ⟨_, hp, by split <;> omega, by split <;> omega⟩
  have N1 := normalize_s s f hs hf hf0 _ hr
  have N2 := isnan_f hp'
  have N3 := isinf_a _ hb p hp'
  rw [decide_eq_false (by omega)] at N3
  have e0 : (FloatKind.f64.format.order (fw s 0 f) 0 == some Ordering.eq) = false := by
    rw [fo_plc, hp', show plc 0 = some 0 from rfl]
    simp only [ordP]
    rw [cmp_eq, decide_eq_false (by omega)]
  have F1 := fun n W => run_frombits n W
  have F2 := fun W => run_bits (fw s (L + 1) k) W
  obtain ⟨M, m1, m2, m3⟩ := fields s (L + 1) k 1022 hs (by omega) hk (by decide)
  rw [show ((1022 * 4503599627370496 : Nat) : Int) = 4602678819172646912 from rfl] at m3
  rw [show ((L + 1 : Nat) : Int) = (L : Int) + 1 from by omega] at m1
  clear hp hp' hp1 hp2 hr
  generalize fw s 0 f = A at *
  generalize fw s (L + 1) k = B at *
  generalize fw s 1022 k = R at *
  go_enter Tryz.func36, Tryz.ntmps36
  go_wp2_with (first | (go_at_call 13; refine (N2 _).mono ?_; rintro e w' ⟨rfl, rfl⟩) | (go_at_call 14; refine (N3 _).mono ?_; rintro e w' ⟨rfl, rfl⟩) | (go_at_call 61; refine (N1 _).mono ?_; rintro e w' ⟨rfl, rfl⟩))
  refine bodyPost_ret (by simp [results, Tryz.results36, go_sem]; try rfl) rfl ?_
  exact ⟨by rw [show (-52 : Int) + ((L : Int) + 1 - 1023 + 1) = (L : Int) - 1073 from by omega], rfl⟩
theorem frexp_0 (s : Nat) (hs : s < 2) : Pur 36 #[.float .f64 (fw s 0 0)] (.tuple #[.float .f64 (fw s 0 0), .int .i64 0]) := by
  intro w
  have e0 : (FloatKind.f64.format.order (fw s 0 0) 0 == some Ordering.eq) = true := by
    rcases (by omega : s = 0 ∨ s = 1) with rfl | rfl <;> decide
  generalize fw s 0 0 = A at *
  go_enter Tryz.func36, Tryz.ntmps36
  go_wp2
  refine bodyPost_ret (by simp [results, Tryz.results36, go_sem]; try rfl) rfl ?_
  exact ⟨rfl, rfl⟩
theorem Frexp_p {x : Nat} {v : Value} (h : Pur 36 #[.float .f64 x] v) {y : Nat} {n : Int} (hv : v = .tuple #[.float .f64 y, .int .i64 n]) : Pur 17 #[.float .f64 x] (.tuple #[.float .f64 y, .int .i64 n]) := by
  intro w
  subst hv
  go_enter Tryz.func17, Tryz.ntmps17
  go_wp2_with (go_at_call 36; refine (h _).mono ?_; rintro e w' ⟨rfl, rfl⟩)
  refine bodyPost_ret (by simp [results, Tryz.results17, go_sem]; try rfl) rfl ?_
  exact ⟨rfl, rfl⟩
theorem ldexp_n (s f : Nat) (hs : s < 2) (hf : f < 4503599627370496) : Pur 38 #[.float .f64 (fw s 1022 f), .int .i64 53] (.float .f64 (fw s 1075 f)) := by
  intro w
  have hb := fw_lt hs (show 1022 < 2048 by decide) hf
  have hp := plc_fw s 1022 f hs (by decide) hf
  obtain ⟨p, hp', hp1, hp2⟩ : ∃ p : Int, plc (fw s 1022 f) = some p ∧ 4503599627370496 ≤ p.natAbs ∧ p.natAbs < 9218868437227405312 := ⟨_, hp, by split <;> omega, by split <;> omega⟩
  have N1 := normalize_n _ hb p hp' hp1
  have N2 := isnan_f hp'
  have N3 := isinf_a _ hb p hp'
  rw [decide_eq_false (by omega)] at N3
  have e0 : (FloatKind.f64.format.order (fw s 1022 f) 0 == some Ordering.eq) = false := by
    rw [fo_plc, hp', show plc 0 = some 0 from rfl]
    simp only [ordP]
    rw [cmp_eq, decide_eq_false (by omega)]
  have F1 := fun n W => run_frombits n W
  have F2 := fun W => run_bits (fw s 1022 f) W
  obtain ⟨M, m1, m2, m3⟩ := fields s 1022 f 1075 hs (by decide) hf (by decide)
  rw [show ((1075 * 4503599627370496 : Nat) : Int) = 4841369599423283200 from rfl] at m3
  have m4 : bits .and .i64 (((fw s 1022 f : Nat) : Int) / 4503599627370496) 2047 = 1022 := by
    have e1 : ((fw s 1022 f : Nat) : Int) / 4503599627370496 = ((s * 2048 + 1022 : Nat) : Int) := by unfold fw; omega
    rw [e1, bits_2047i _ (by omega)]
    omega
  have m5 : wrap64 (((fw s 1022 f : Nat) : Int) / 4503599627370496) = ((fw s 1022 f : Nat) : Int) / 4503599627370496 := by unfold wrap64; omega
  have Mu := fun T W => run_float_arith (P := Tryz.prog) W .mul T .f64 _ _ _ (mul_one s f hs hf)
  clear hp hp' hp1 hp2 hb m1
  generalize fw s 1022 f = B at *
  generalize fw s 1075 f = R at *
  go_enter Tryz.func38, Tryz.ntmps38
  go_wp2_with (first | (go_at_call 13; refine (N2 _).mono ?_; rintro e w' ⟨rfl, rfl⟩) | (go_at_call 14; refine (N3 _).mono ?_; rintro e w' ⟨rfl, rfl⟩) | (go_at_call 61; refine (N1 _).mono ?_; rintro e w' ⟨rfl, rfl⟩))
  go_ret
  exact ⟨rfl, rfl⟩
theorem ldexp_0 (s : Nat) (hs : s < 2) : Pur 38 #[.float .f64 (fw s 0 0), .int .i64 53] (.float .f64 (fw s 0 0)) := by
  intro w
  have e0 : (FloatKind.f64.format.order (fw s 0 0) 0 == some Ordering.eq) = true := by
    rcases (by omega : s = 0 ∨ s = 1) with rfl | rfl <;> decide
  generalize fw s 0 0 = A at *
  go_enter Tryz.func38, Tryz.ntmps38
  go_wp2
  go_ret
  exact ⟨rfl, rfl⟩
theorem Ldexp_p {x y : Nat} (h : Pur 38 #[.float .f64 x, .int .i64 53] (.float .f64 y)) : Pur 18 #[.float .f64 x, .int .i64 53] (.float .f64 y) := by
  intro w
  go_enter Tryz.func18, Tryz.ntmps18
  go_wp2_with (go_at_call 38; refine (h _).mono ?_; rintro e w' ⟨rfl, rfl⟩)
  go_ret
  exact ⟨rfl, rfl⟩
theorem cut_0 (neg : Bool) (n : Nat) : Ieee.Toward.zero.cut neg n 0 = n := by
  unfold Ieee.Toward.cut
  rw [Nat.zero_min]
  simp [Nat.mod_one]
theorem int_0 (s : Bool) (m : Nat) : (Ieee.Datum.number s m 0).toInt .zero = some (if s then -(m : Int) else (m : Int)) := by
  unfold Ieee.Datum.toInt Ieee.Datum.integral
  simp only [Int.toNat_zero, Int.neg_zero, Nat.shiftLeft_zero, cut_0]
  unfold Ieee.signed
  rw [Nat.shiftLeft_zero]
theorem dec_n (s f : Nat) (hs : s < 2) (hf : f < 4503599627370496) : FloatKind.f64.decode (fw s 1075 f) = .number (s == 1) (4503599627370496 + f) 0 := read_fw s 1075 f hs (by decide) (by decide) hf
theorem toInt_of {s : Bool} {b m : Nat} (h : FloatKind.f64.decode b = .number s m 0) (hm : m < 9223372036854775808) : floatToIntVal .f64 b .i64 = some (if s then -(m : Int) else (m : Int)) := by
  unfold floatToIntVal
  rw [h, int_0]
  have hmin : IntKind.i64.min = -9223372036854775808 := rfl
  have hmax : IntKind.i64.max = 9223372036854775807 := rfl
  simp only
  rw [if_pos]
  rw [hmin, hmax]
  cases s
  · simp only [Bool.false_eq_true, if_false]; omega
  · simp only [if_true]; omega
theorem toInt_0 (s : Nat) (hs : s < 2) : floatToIntVal .f64 (fw s 0 0) .i64 = some 0 := by
  rcases (by omega : s = 0 ∨ s = 1) with rfl | rfl <;> rfl
end Go.Proofs.YtgalppimdmjdcabGreatDoor
