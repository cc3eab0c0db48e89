/-
  math.normalize, Frexp and Ldexp, as ival.Exact calls them.
-/
import Derived.Test.YtgalppimdmjdcaaGreatFBits
import Derived.Test.YtgalppimdmjdcaaGreatFNear
namespace Go.Proofs.YtgalppimdmjdcaaGreat
open Go.RowKit Nt
set_option linter.unusedSimpArgs false
set_option linter.unusedVariables false
set_option maxRecDepth 20000

theorem plc_min : plc 4503599627370496 = some 4503599627370496 := rfl
theorem normalize_n (b : Nat) (hb : b < 18446744073709551616) (p : Int) (hp : plc b = some p) (h : 4503599627370496 ≤ p.natAbs) : Pur 89 #[.float .f64 b] (.tuple #[.float .f64 b, .int .i64 0]) := by
  intro w
  have A := abs_p b hb
  have e4 : (FloatKind.f64.format.order (b % 9223372036854775808) 4503599627370496 == some Ordering.lt) = false := by
    rw [fo_plc, plc_abs b hb p hp, plc_min]
    simp only [ordP]
    rw [cmp_lt, decide_eq_false (by omega)]
  clear hp h
  go_enter Tryz.func89, Tryz.ntmps89
  go_wp2_with (go_at_call 62; refine (A _).mono ?_; rintro e w' ⟨rfl, rfl⟩)
  refine bodyPost_ret (by simp [results, Tryz.results89, go_sem]; try rfl) rfl ?_
  exact ⟨rfl, rfl⟩
/-- The bit operations of one float, as they come up. -/
theorem fields (s E f k : Nat) (hs : s < 2) (hE : E < 2047) (hf : f < 4503599627370496) (hk : k < 2048) : ∃ M : Nat, bits .and .u64 (((fw s E f : Nat) : Int) / 4503599627370496) 2047 = (E : Int) ∧ bits .andNot .u64 ((fw s E f : Nat) : Int) 9218868437227405312 = (M : Int) ∧ bits .or .u64 ((M : Nat) : Int) ((k * 4503599627370496 : Nat) : Int) = ((fw s k f : Nat) : Int) := by
  refine ⟨s * 9223372036854775808 + f, ?_, bits_mask s E f hs (by omega) hf, bits_exp s k f hs hk hf⟩
  have e1 : ((fw s E f : Nat) : Int) / 4503599627370496 = ((s * 2048 + E : Nat) : Int) := by unfold fw; omega
  rw [e1, bits_2047 _ (by omega)]
  omega
theorem frexp_n (s E f : Nat) (hs : s < 2) (hE : E < 2047) (hE1 : 1 ≤ E) (hf : f < 4503599627370496) : Pur 65 #[.float .f64 (fw s E f)] (.tuple #[.float .f64 (fw s 1022 f), .int .i64 ((E : Int) - 1022)]) := by
  intro w
  have hb := fw_lt hs (show E < 2048 by omega) hf
  have hp := plc_fw s E f hs hE hf
  obtain ⟨p, hp', hp1, hp2⟩ : ∃ p : Int, plc (fw s E f) = some p ∧ 4503599627370496 ≤ p.natAbs ∧ p.natAbs < 9218868437227405312 := ⟨_, hp, by split <;> omega, by split <;> omega⟩
  have N1 := normalize_n _ hb p hp' hp1
  have N2 := isnan_f hp'
  have N3 := isinf_a _ hb p hp'
  rw [decide_eq_false (by omega)] at N3
  have e0 : (FloatKind.f64.format.order (fw s E f) 0 == some Ordering.eq) = false := by
    rw [fo_plc, hp', show plc 0 = some 0 from rfl]
    simp only [ordP]
    rw [cmp_eq, decide_eq_false (by omega)]
  have F1 := fun n W => run_frombits n W
  have F2 := fun W => run_bits (fw s E f) W
  obtain ⟨M, m1, m2, m3⟩ := fields s E f 1022 hs hE hf (by decide)
  rw [show ((1022 * 4503599627370496 : Nat) : Int) = 4602678819172646912 from rfl] at m3
  clear hp hp' hp1 hp2
  generalize hB : fw s E f = B at *
  generalize fw s 1022 f = R at *
  go_enter Tryz.func65, Tryz.ntmps65
  go_wp2_with (first | (go_at_call 33; refine (N2 _).mono ?_; rintro e w' ⟨rfl, rfl⟩) | (go_at_call 34; refine (N3 _).mono ?_; rintro e w' ⟨rfl, rfl⟩) | (go_at_call 89; refine (N1 _).mono ?_; rintro e w' ⟨rfl, rfl⟩))
  refine bodyPost_ret (by simp [results, Tryz.results65, go_sem]; try rfl) rfl ?_
  exact ⟨by rw [show (E : Int) - 1023 + 1 = (E : Int) - 1022 from by omega], rfl⟩
theorem pw2_add (a b : Nat) : pw2 a * pw2 b = pw2 (a + b) := (Nat.pow_add 2 a b).symm
theorem mg_form2 {L K : Nat} (hK : K ≤ 9007199254740992) (hL : L = 0 ∨ 4503599627370496 ≤ K) : mg (L * 4503599627370496 + K) = K * pw2 L := mg_form hK hL
/-- A product that is a float. -/
theorem mul_exact {x y : Nat} {s t : Bool} {m n i j : Nat} (hx : Ieee.double.read x = .number s m (-1074 + (i : Int))) (hy : Ieee.double.read y = .number t n (-1074 + (j : Int))) (r : Nat) (hr : r < 9218868437227405312) (hn : m * n ≠ 0) (hV : m * n * pw2 (i + j) = mg r * uF) : floatBits .mul .f64 x y = some (if (s ^^ t) then 9223372036854775808 + r else r) := by
  show ((Ieee.double.read x).product (Ieee.double.read y)).map Ieee.double.write = _
  rw [hx, hy]
  show some (Ieee.double.nearest (s ^^ t) (m * n) (-1074 + (i : Int) + (-1074 + (j : Int)))) = _
  obtain ⟨R, h1, h2⟩ := nearest_f64 (s ^^ t) (m * n) (-1074 + (i : Int) + (-1074 + (j : Int))) hn (by omega)
  rw [h1]
  rw [show (-1074 + (i : Int) + (-1074 + (j : Int)) + 2148).toNat = i + j from by omega] at h2
  rw [h2.exact hr hV]
theorem read_fw (s E f : Nat) (hs : s < 2) (hE : E < 2047) (hE1 : 1 ≤ E) (hf : f < 4503599627370496) : Ieee.double.read (fw s E f) = .number (s == 1) (4503599627370496 + f) (-1074 + ((E - 1 : Nat) : Int)) := by
  rw [read_f64]
  have e1 : fw s E f % 9223372036854775808 = E * 4503599627370496 + f := by unfold fw; omega
  have e2 : fw s E f / 9223372036854775808 % 2 = s := by unfold fw; omega
  rw [e1, e2, if_neg (by omega), if_pos (by omega), show (E * 4503599627370496 + f) % 4503599627370496 = f from by omega, show (E * 4503599627370496 + f) / 4503599627370496 - 1 = E - 1 from by omega]
theorem read_fw0 (s f : Nat) (hs : s < 2) (hf : f < 4503599627370496) : Ieee.double.read (fw s 0 f) = .number (s == 1) f (-1074 + ((0 : Nat) : Int)) := by
  rw [read_f64]
  have e1 : fw s 0 f % 9223372036854775808 = f := by unfold fw; omega
  have e2 : fw s 0 f / 9223372036854775808 % 2 = s := by unfold fw; omega
  rw [e1, e2, if_pos (by omega)]
  rfl
theorem word_fw (s E f : Nat) (hs : s < 2) : (if (s == 1) then 9223372036854775808 + (E * 4503599627370496 + f) else E * 4503599627370496 + f) = fw s E f := by
  unfold fw
  rcases (by omega : s = 0 ∨ s = 1) with rfl | rfl
  · rw [if_neg (by decide)]; omega
  · rw [if_pos (by decide)]; omega
theorem mul_one (s f : Nat) (hs : s < 2) (hf : f < 4503599627370496) : floatBits .mul .f64 4607182418800017408 (fw s 1075 f) = some (fw s 1075 f) := by
  have h1 : Ieee.double.read 4607182418800017408 = .number false 4503599627370496 (-1074 + ((1022 : Nat) : Int)) := rfl
  have h2 := read_fw s 1075 f hs (by decide) (by decide) hf
  rw [show (1075 - 1 : Nat) = 1074 from rfl] at h2
  have hm : mg (1075 * 4503599627370496 + f) = (4503599627370496 + f) * pw2 1074 := by
    rw [show 1075 * 4503599627370496 + f = 1074 * 4503599627370496 + (4503599627370496 + f) from by omega]
    exact mg_form2 (by omega) (Or.inr (by omega))
  have := mul_exact h1 h2 (1075 * 4503599627370496 + f) (by omega) (by
    have : 0 < 4503599627370496 * (4503599627370496 + f) := Nat.mul_pos (by decide) (by omega)
    omega) (by
    rw [hm, show (4503599627370496 : Nat) = pw2 52 from rfl, uF]
    rw [Nat.mul_comm (pw2 52) (pw2 52 + f), Nat.mul_assoc, Nat.mul_assoc, pw2_add, pw2_add])
  rw [this, Bool.false_xor, word_fw s 1075 f hs]
theorem mul_52 (s f : Nat) (hs : s < 2) (hf : f < 4503599627370496) (hf0 : 0 < f) : ∃ L k, L < 52 ∧ k < 4503599627370496 ∧ f * 2 ^ (52 - L) = 4503599627370496 + k ∧ floatBits .mul .f64 (fw s 0 f) 4841369599423283200 = some (fw s (L + 1) k) := by
  have hl1 : 2 ^ f.log2 ≤ f := Nat.log2_self_le (by omega)
  have hl2 : f < 2 ^ (f.log2 + 1) := Nat.lt_log2_self
  have hL : f.log2 < 52 := by
    apply Classical.byContradiction
    intro hc
    have := Nat.pow_le_pow_right (n := 2) (by decide) (show 52 ≤ f.log2 by omega)
    have : (2 : Nat) ^ 52 = 4503599627370496 := rfl
    omega
  generalize f.log2 = L at hl1 hl2 hL
  have hk1 : 4503599627370496 ≤ f * 2 ^ (52 - L) := by
    have h := Nat.mul_le_mul_right (2 ^ (52 - L)) hl1
    rw [← Nat.pow_add, show L + (52 - L) = 52 from by omega] at h
    exact h
  have hk2 : f * 2 ^ (52 - L) < 9007199254740992 := by
    have h := Nat.mul_lt_mul_of_pos_right hl2 (Nat.two_pow_pos (52 - L))
    rw [← Nat.pow_add, show L + 1 + (52 - L) = 53 from by omega] at h
    exact h
  obtain ⟨k, hk⟩ : ∃ k, f * 2 ^ (52 - L) = 4503599627370496 + k := ⟨f * 2 ^ (52 - L) - 4503599627370496, by omega⟩
  refine ⟨L, k, hL, by omega, hk, ?_⟩
  have h1 := read_fw0 s f hs hf
  have h2 : Ieee.double.read 4841369599423283200 = .number false 4503599627370496 (-1074 + ((1074 : Nat) : Int)) := rfl
  have hm : mg ((L + 1) * 4503599627370496 + k) = f * 4503599627370496 := by
    rw [show (L + 1) * 4503599627370496 + k = L * 4503599627370496 + (4503599627370496 + k) from by omega, mg_form (by omega) (Or.inr (by omega)), ← hk, Nat.mul_assoc, ← Nat.pow_add, show 52 - L + L = 52 from by omega]
  have := mul_exact h1 h2 ((L + 1) * 4503599627370496 + k) (by omega) (by
    have : 0 < f * 4503599627370496 := Nat.mul_pos hf0 (by decide)
    omega) (by rw [hm, Nat.zero_add, uF])
  rw [this, Bool.xor_false, word_fw s (L + 1) k hs]
end Go.Proofs.YtgalppimdmjdcaaGreat
