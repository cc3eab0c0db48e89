/-
  Rounding: the float that is nearest lies beside the number; a number that is a float is told by itself.
-/
import Derived.Test.YtgalppimdmjdcaaGreatFPlace
namespace Go.Proofs.YtgalppimdmjdcaaGreat
open Go
set_option linter.unusedSimpArgs false
set_option linter.unusedVariables false
set_option maxRecDepth 20000

theorem cut_even (neg : Bool) (n d : Nat) : Ieee.Toward.even.cut neg n d * 2 ^ d < n + 2 ^ d ∧ n < Ieee.Toward.even.cut neg n d * 2 ^ d + 2 ^ d ∧ (n % 2 ^ d = 0 → Ieee.Toward.even.cut neg n d * 2 ^ d = n) := by
  obtain ⟨k, hk⟩ : ∃ k, Ieee.Toward.even.cut neg n d = k := ⟨_, rfl⟩
  rw [hk]
  unfold Ieee.Toward.cut at hk
  simp only [Nat.shiftLeft_eq, Nat.one_mul] at hk
  have hlog : n < 2 ^ (n.log2 + 1) := Nat.lt_log2_self
  by_cases hd : d ≤ n.log2 + 2
  · rw [Nat.min_eq_left hd] at hk
    have hG : 0 < 2 ^ d := Nat.two_pow_pos d
    generalize 2 ^ d = G at hk hG ⊢
    have hdm := Nat.div_add_mod n G
    have hr := Nat.mod_lt n hG
    generalize n % G = r at hk hdm hr ⊢
    generalize n / G = l at hk hdm
    rw [Nat.mul_comm] at hdm
    cases hb : (decide (G < 2 * r) || G == 2 * r && l % 2 == 1) with
    | false =>
      rw [hb] at hk
      have : l = k := by simpa using hk
      subst this
      refine ⟨by omega, by omega, fun h => by omega⟩
    | true =>
      rw [hb] at hk
      have hk : l + 1 = k := by simpa using hk
      have hr0 : 0 < r := by
        simp at hb
        rcases hb with h | ⟨h, _⟩ <;> omega
      subst hk
      rw [Nat.add_mul, Nat.one_mul]
      refine ⟨by omega, by omega, fun h => by omega⟩
  · rw [Nat.min_eq_right (by omega)] at hk
    have h4 : 2 ^ (n.log2 + 2) = 2 * 2 ^ (n.log2 + 1) := by rw [show n.log2 + 2 = (n.log2 + 1) + 1 from rfl, Nat.pow_succ, Nat.mul_comm]
    have hlt : n < 2 ^ (n.log2 + 2) := by omega
    rw [Nat.mod_eq_of_lt hlt, Nat.div_eq_of_lt hlt] at hk
    have hb : (decide (2 ^ (n.log2 + 2) < 2 * n) || 2 ^ (n.log2 + 2) == 2 * n && 0 % 2 == 1) = false := by simp; omega
    rw [hb] at hk
    have : 0 = k := by simpa using hk
    subst this
    have hle : 2 ^ (n.log2 + 1) ≤ 2 ^ d := Nat.pow_le_pow_right (by decide) (by omega)
    refine ⟨by omega, by omega, fun h => ?_⟩
    rw [Nat.mod_eq_of_lt (by omega)] at h
    omega

/-- Where the float lies that is nearest to V units of 2^-2148. -/
structure Nearest (V R : Nat) : Prop where
  pick : ∃ L K, R = min (L * 4503599627370496 + K) 9218868437227405312 ∧ K ≤ 9007199254740992 ∧ (L = 0 ∨ 4503599627370496 ≤ K) ∧ K * 2 ^ (L + 1074) < V + 2 ^ (L + 1074) ∧ V < K * 2 ^ (L + 1074) + 2 ^ (L + 1074) ∧ (V % 2 ^ (L + 1074) = 0 → K * 2 ^ (L + 1074) = V) ∧ (0 < L → 2 ^ (L + 1126) ≤ V) ∧ V < 2 ^ (L + 1127)
theorem word_f64 (neg : Bool) (r : Nat) : Ieee.double.word neg r = if neg then 9223372036854775808 + r else r := rfl
theorem nearest_f64 (neg : Bool) (mag : Nat) (place : Int) (hm : mag ≠ 0) (hp : -2148 ≤ place) : ∃ R, Ieee.double.nearest neg mag place = (if neg then 9223372036854775808 + R else R) ∧ Nearest (mag * 2 ^ (place + 2148).toNat) R := by
  unfold Ieee.Format.nearest
  rw [if_neg hm]
  have hl1 : 2 ^ mag.log2 ≤ mag := Nat.log2_self_le hm
  have hl2 : mag < 2 ^ (mag.log2 + 1) := Nat.lt_log2_self
  show ∃ R, Ieee.double.word neg (min ((max (place + mag.log2 - (52 : Nat)) (-1074) - (-1074)).toNat * 4503599627370496 + Ieee.Toward.even.cut neg (mag <<< (place - max (place + mag.log2 - (52 : Nat)) (-1074)).toNat) (max (place + mag.log2 - (52 : Nat)) (-1074) - place).toNat) 9218868437227405312) = _ ∧ _
  generalize mag.log2 = l at hl1 hl2
  obtain ⟨last, elast⟩ : ∃ last, max (place + (l : Int) - (52 : Nat)) (-1074) = last := ⟨_, rfl⟩
  rw [elast]
  obtain ⟨L, eL⟩ : ∃ L : Nat, last = (L : Int) - 1074 := ⟨(last + 1074).toNat, by omega⟩
  rw [show (last - -1074).toNat = L from by omega]
  refine ⟨_, word_f64 _ _, ⟨⟨L, _, rfl, ?_⟩⟩⟩
  obtain ⟨c1, c2, c3⟩ := cut_even neg (mag <<< (place - last).toNat) (last - place).toNat
  generalize Ieee.Toward.even.cut neg (mag <<< (place - last).toNat) (last - place).toNat = K at c1 c2 c3
  rw [Nat.shiftLeft_eq] at c1 c2 c3
  obtain ⟨V, eV⟩ : ∃ V, mag * 2 ^ (place + 2148).toNat = V := ⟨_, rfl⟩
  rw [eV]
  have key : K * 2 ^ (L + 1074) < V + 2 ^ (L + 1074) ∧ V < K * 2 ^ (L + 1074) + 2 ^ (L + 1074) ∧ (V % 2 ^ (L + 1074) = 0 → K * 2 ^ (L + 1074) = V) := by
    by_cases h : last ≤ place
    · rw [show (last - place).toNat = 0 from by omega] at c1 c2 c3
      simp only [Nat.pow_zero, Nat.mul_one] at c1 c2 c3
      have hK : K = mag * 2 ^ (place - last).toNat := by omega
      have e : K * 2 ^ (L + 1074) = V := by
        rw [hK, ← eV, Nat.mul_assoc, ← Nat.pow_add]
        congr 2
        omega
      rw [e]
      have := Nat.two_pow_pos (L + 1074)
      exact ⟨by omega, by omega, fun _ => rfl⟩
    · rw [show (place - last).toNat = 0 from by omega, Nat.pow_zero, Nat.mul_one] at c1 c2 c3
      have e : 2 ^ (L + 1074) = 2 ^ (last - place).toNat * 2 ^ (place + 2148).toNat := by
        rw [← Nat.pow_add]
        congr 1
        omega
      rw [e, ← eV]
      have hQ := Nat.two_pow_pos (place + 2148).toNat
      generalize 2 ^ (place + 2148).toNat = Q at hQ ⊢
      generalize 2 ^ (last - place).toNat = D at c1 c2 c3 ⊢
      rw [← Nat.mul_assoc, ← Nat.add_mul, ← Nat.add_mul]
      refine ⟨Nat.mul_lt_mul_of_pos_right c1 hQ, Nat.mul_lt_mul_of_pos_right c2 hQ, fun hz => ?_⟩
      rw [Nat.mul_mod_mul_right] at hz
      have : mag % D = 0 := by
        rcases Nat.mul_eq_zero.1 hz with h | h
        · exact h
        · omega
      rw [c3 this]
  have b1 : V < 2 ^ (L + 1127) := by
    rw [← eV]
    have h1 : mag * 2 ^ (place + 2148).toNat < 2 ^ (l + 1) * 2 ^ (place + 2148).toNat := Nat.mul_lt_mul_of_pos_right hl2 (Nat.two_pow_pos _)
    rw [← Nat.pow_add] at h1
    exact Nat.lt_of_lt_of_le h1 (Nat.pow_le_pow_right (by decide) (by omega))
  have b2 : 0 < L → 2 ^ (L + 1126) ≤ V := fun hL => by
    rw [← eV]
    have h1 : 2 ^ l * 2 ^ (place + 2148).toNat ≤ mag * 2 ^ (place + 2148).toNat := Nat.mul_le_mul_right _ hl1
    rw [← Nat.pow_add] at h1
    exact Nat.le_trans (Nat.pow_le_pow_right (by decide) (by omega)) h1
  have hM := Nat.two_pow_pos (L + 1074)
  have e1 : 2 ^ (L + 1127) = 9007199254740992 * 2 ^ (L + 1074) := by rw [show L + 1127 = 53 + (L + 1074) from by omega, Nat.pow_add]
  have e2 : 2 ^ (L + 1126) = 4503599627370496 * 2 ^ (L + 1074) := by rw [show L + 1126 = 52 + (L + 1074) from by omega, Nat.pow_add]
  obtain ⟨k1, k2, k3⟩ := key
  refine ⟨?_, ?_, k1, k2, k3, b2, b1⟩
  · rw [e1] at b1
    generalize 2 ^ (L + 1074) = M at *
    have : K * M < 9007199254740993 * M := by omega
    have := Nat.lt_of_mul_lt_mul_right this
    omega
  · by_cases hL : L = 0
    · exact Or.inl hL
    · right
      have b2 := b2 (by omega)
      rw [e2] at b2
      generalize 2 ^ (L + 1074) = M at *
      have : 4503599627370496 * M < (K + 1) * M := by rw [Nat.add_mul, Nat.one_mul]; omega
      have := Nat.lt_of_mul_lt_mul_right this
      omega
theorem mg_form {L K : Nat} (hK : K ≤ 9007199254740992) (hL : L = 0 ∨ 4503599627370496 ≤ K) : mg (L * 4503599627370496 + K) = K * 2 ^ L := by
  unfold mg
  by_cases h : L * 4503599627370496 + K < 4503599627370496
  · rw [if_pos h]
    have : L = 0 := by omega
    subst this
    simp
  · rw [if_neg h]
    by_cases h1 : K < 4503599627370496
    · omega
    · by_cases h2 : K = 9007199254740992
      · subst h2
        rw [show (L * 4503599627370496 + 9007199254740992) % 4503599627370496 = 0 from by omega, show (L * 4503599627370496 + 9007199254740992) / 4503599627370496 - 1 = L + 1 from by omega, Nat.pow_succ]
        omega
      · rw [show (L * 4503599627370496 + K) % 4503599627370496 = K - 4503599627370496 from by omega, show (L * 4503599627370496 + K) / 4503599627370496 - 1 = L from by omega]
        rw [show 4503599627370496 + (K - 4503599627370496) = K from by omega]
theorem mg_le {r s : Nat} (h : r ≤ s) : mg r ≤ mg s := by
  rcases Nat.lt_or_eq_of_le h with h | rfl
  · exact Nat.le_of_lt (mg_mono h)
  · exact Nat.le_refl _
/-- So many units of 2^-2148 make the least float. -/
def pw2 (n : Nat) : Nat := 2 ^ n
theorem pw2_pos (n : Nat) : 0 < pw2 n := Nat.two_pow_pos n
theorem pow_pw2 (L n : Nat) : 2 ^ L * pw2 n = 2 ^ (L + n) := (Nat.pow_add 2 L n).symm
def uF : Nat := pw2 1074
theorem uF_pos : 0 < uF := pw2_pos 1074
theorem pow_uF (L : Nat) : 2 ^ L * uF = 2 ^ (L + 1074) := pow_pw2 L 1074
/-- The number lies between the floats beside the one that is told. -/
theorem Nearest.up {V R : Nat} (h : Nearest V R) (hR : R < 9218868437227405312) : V ≤ mg (R + 1) * uF := by
  obtain ⟨L, K, e, h1, h2, h3, h4, h5, h6, h7⟩ := h.pick
  have e : R = L * 4503599627370496 + K := by omega
  have hm : (K + 1) * 2 ^ L ≤ mg (R + 1) := by
    by_cases hk : K = 9007199254740992
    · have := mg_step R
      rw [e, mg_form h1 h2] at this
      subst hk
      have e3 : mg (R + 1) = 4503599627370497 * 2 ^ (L + 1) := by
        rw [show R + 1 = (L + 1) * 4503599627370496 + 4503599627370497 from by omega]
        exact mg_form (by decide) (Or.inr (by decide))
      rw [e3, Nat.pow_succ]
      have := Nat.two_pow_pos L
      omega
    · rw [show R + 1 = L * 4503599627370496 + (K + 1) from by omega, mg_form (by omega) (by omega)]
      exact Nat.le_refl _
  have : V < (K + 1) * 2 ^ L * uF := by
    rw [Nat.mul_assoc, pow_uF, Nat.add_mul, Nat.one_mul]
    exact h4
  exact Nat.le_trans (Nat.le_of_lt this) (Nat.mul_le_mul_right _ hm)
theorem Nearest.down {V R : Nat} (h : Nearest V R) (hR : 0 < R) : mg (R - 1) * uF ≤ V := by
  obtain ⟨L, K, e, h1, h2, h3, h4, h5, h6, h7⟩ := h.pick
  have hle : R - 1 ≤ L * 4503599627370496 + K - 1 := by omega
  refine Nat.le_trans (Nat.mul_le_mul_right _ (mg_le hle)) ?_
  by_cases hk : L ≠ 0 ∧ K = 4503599627370496
  · obtain ⟨hL, rfl⟩ := hk
    refine Nat.le_trans (Nat.mul_le_mul_right _ (mg_le (Nat.sub_le _ 1))) ?_
    rw [mg_form h1 h2, Nat.mul_assoc, pow_uF]
    have := h6 (by omega)
    rw [show L + 1126 = 52 + (L + 1074) from by omega, Nat.pow_add] at this
    exact this
  · have hK0 : 0 < K := by omega
    rw [show L * 4503599627370496 + K - 1 = L * 4503599627370496 + (K - 1) from by omega, mg_form (by omega) (by omega), Nat.mul_assoc, pow_uF]
    obtain ⟨k, rfl⟩ : ∃ k, K = k + 1 := ⟨K - 1, by omega⟩
    rw [Nat.add_sub_cancel]
    rw [Nat.add_mul, Nat.one_mul] at h3
    omega
theorem mg_split (r : Nat) : ∃ L K, r = L * 4503599627370496 + K ∧ K < 9007199254740992 ∧ (L = 0 ∨ 4503599627370496 ≤ K) := by
  by_cases h : r < 9007199254740992
  · exact ⟨0, r, by omega, h, Or.inl rfl⟩
  · exact ⟨r / 4503599627370496 - 1, r % 4503599627370496 + 4503599627370496, by omega, by omega, Or.inr (by omega)⟩
/-- A number that is a float. -/
theorem Nearest.exact {V R r : Nat} (h : Nearest V R) (hr : r < 9218868437227405312) (hV : V = mg r * uF) : R = r := by
  obtain ⟨L, K, e, h1, h2, h3, h4, h5, h6, h7⟩ := h.pick
  obtain ⟨L', K', e', k1, k2⟩ := mg_split r
  have hV' : V = K' * 2 ^ (L' + 1074) := by rw [hV, e', mg_form (by omega) k2, Nat.mul_assoc, pow_uF]
  have hLL : L ≤ L' := by
    apply Classical.byContradiction
    intro hc
    have h6 := h6 (by omega)
    rw [hV'] at h6
    have : K' * 2 ^ (L' + 1074) < 2 ^ 53 * 2 ^ (L' + 1074) := Nat.mul_lt_mul_of_pos_right (by omega) (Nat.two_pow_pos _)
    rw [← Nat.pow_add] at this
    have := Nat.pow_le_pow_right (n := 2) (by decide) (show 53 + (L' + 1074) ≤ L + 1126 by omega)
    omega
  have hmod : V % 2 ^ (L + 1074) = 0 := by
    rw [hV', show L' + 1074 = (L' - L) + (L + 1074) from by omega, Nat.pow_add, ← Nat.mul_assoc]
    exact Nat.mul_mod_left _ _
  have hKV := h5 hmod
  have : mg (L * 4503599627370496 + K) = mg r := by
    have h8 : mg (L * 4503599627370496 + K) * uF = mg r * uF := by rw [mg_form h1 h2, Nat.mul_assoc, pow_uF, hKV, hV]
    exact Nat.eq_of_mul_eq_mul_right uF_pos h8
  have : L * 4503599627370496 + K = r := by
    rcases Nat.lt_trichotomy (L * 4503599627370496 + K) r with h | h | h
    · have := mg_mono h; omega
    · exact h
    · have := mg_mono h; omega
  omega
end Go.Proofs.YtgalppimdmjdcaaGreat
