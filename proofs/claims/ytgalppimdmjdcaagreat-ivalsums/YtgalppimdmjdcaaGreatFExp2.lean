/-
  Frexp of every finite float, Ldexp of what it hands back by 53.
-/
import Derived.Test.YtgalppimdmjdcaaGreatFExp
namespace Go.Proofs.YtgalppimdmjdcaaGreat
open Go.RowKit Nt
set_option linter.unusedSimpArgs false
set_option linter.unusedVariables false
set_option maxRecDepth 20000

theorem normalize_s (s f : Nat) (hs : s < 2) (hf : f < 4503599627370496) (hf0 : 0 < f) (r : Nat) (hr : floatBits .mul .f64 (fw s 0 f) 4841369599423283200 = some r) : Pur 89 #[.float .f64 (fw s 0 f)] (.tuple #[.float .f64 r, .int .i64 (-52)]) := by
  intro w
  have hb := fw_lt hs (show 0 < 2048 by decide) hf
  have hp := plc_fw s 0 f hs (by decide) hf
  have A := abs_p _ hb
  have e4 : (FloatKind.f64.format.order (fw s 0 f % 9223372036854775808) 4503599627370496 == some Ordering.lt) = true := by
    rw [fo_plc, plc_abs _ hb _ hp, plc_min]
    simp only [ordP]
    rw [cmp_lt, decide_eq_true]
    split <;> omega
  have M := fun T W => run_float_arith (P := Tryz.prog) W .mul T .f64 _ _ _ hr
  clear hp hr
  generalize fw s 0 f = b at *
  go_enter Tryz.func89, Tryz.ntmps89
  go_wp2_with (go_at_call 62; refine (A _).mono ?_; rintro e w' ⟨rfl, rfl⟩)
  refine bodyPost_ret (by simp [results, Tryz.results89, go_sem]; try rfl) rfl ?_
  exact ⟨rfl, rfl⟩
theorem frexp_s (s f : Nat) (hs : s < 2) (hf : f < 4503599627370496) (hf0 : 0 < f) (L k : Nat) (hL : L < 52) (hk : k < 4503599627370496) (hr : floatBits .mul .f64 (fw s 0 f) 4841369599423283200 = some (fw s (L + 1) k)) : Pur 65 #[.float .f64 (fw s 0 f)] (.tuple #[.float .f64 (fw s 1022 k), .int .i64 ((L : Int) - 1073)]) := by
  intro w
  have hb := fw_lt hs (show 0 < 2048 by decide) hf
  have hp := plc_fw s 0 f hs (by decide) hf
  obtain ⟨p, hp', hp1, hp2⟩ : ∃ p : Int, plc (fw s 0 f) = some p ∧ 0 < p.natAbs ∧ p.natAbs < 4503599627370496 := ⟨_, hp, by split <;> omega, by split <;> omega⟩
  have N1 := normalize_s s f hs hf hf0 _ hr
  have N2 := isnan_f hp'
  have N3 := isinf_a _ hb p hp'
  rw [decide_eq_false (by omega)] at N3
  have e0 : (FloatKind.f64.format.order (fw s 0 f) 0 == some Ordering.eq) = false := by
    rw [fo_plc, hp', show plc 0 = some 0 from rfl]
    simp only [ordP]
    rw [cmp_eq, decide_eq_false (by omega)]
  have F1 := fun n W => run_frombits n W
  have F2 := fun W => run_bits (fw s (L + 1) k) W
  obtain ⟨M, m1, m2, m3⟩ := fields s (L + 1) k 1022 hs (by omega) hk (by decide)
  rw [show ((1022 * 4503599627370496 : Nat) : Int) = 4602678819172646912 from rfl] at m3
  rw [show ((L + 1 : Nat) : Int) = (L : Int) + 1 from by omega] at m1
  clear hp hp' hp1 hp2 hr
  generalize fw s 0 f = A at *
  generalize fw s (L + 1) k = B at *
  generalize fw s 1022 k = R at *
  go_enter Tryz.func65, Tryz.ntmps65
  go_wp2_with (first | (go_at_call 33; refine (N2 _).mono ?_; rintro e w' ⟨rfl, rfl⟩) | (go_at_call 34; refine (N3 _).mono ?_; rintro e w' ⟨rfl, rfl⟩) | (go_at_call 89; refine (N1 _).mono ?_; rintro e w' ⟨rfl, rfl⟩))
  refine bodyPost_ret (by simp [results, Tryz.results65, go_sem]; try rfl) rfl ?_
  exact ⟨by rw [show (-52 : Int) + ((L : Int) + 1 - 1023 + 1) = (L : Int) - 1073 from by omega], rfl⟩
theorem frexp_0 (s : Nat) (hs : s < 2) : Pur 65 #[.float .f64 (fw s 0 0)] (.tuple #[.float .f64 (fw s 0 0), .int .i64 0]) := by
  intro w
  have e0 : (FloatKind.f64.format.order (fw s 0 0) 0 == some Ordering.eq) = true := by
    rcases (by omega : s = 0 ∨ s = 1) with rfl | rfl <;> decide
  generalize fw s 0 0 = A at *
  go_enter Tryz.func65, Tryz.ntmps65
  go_wp2
  refine bodyPost_ret (by simp [results, Tryz.results65, go_sem]; try rfl) rfl ?_
  exact ⟨rfl, rfl⟩
theorem Frexp_p {x : Nat} {v : Value} (h : Pur 65 #[.float .f64 x] v) {y : Nat} {n : Int} (hv : v = .tuple #[.float .f64 y, .int .i64 n]) : Pur 37 #[.float .f64 x] (.tuple #[.float .f64 y, .int .i64 n]) := by
  intro w
  subst hv
  go_enter Tryz.func37, Tryz.ntmps37
  go_wp2_with (go_at_call 65; refine (h _).mono ?_; rintro e w' ⟨rfl, rfl⟩)
  refine bodyPost_ret (by simp [results, Tryz.results37, go_sem]; try rfl) rfl ?_
  exact ⟨rfl, rfl⟩
theorem ldexp_n (s f : Nat) (hs : s < 2) (hf : f < 4503599627370496) : Pur 67 #[.float .f64 (fw s 1022 f), .int .i64 53] (.float .f64 (fw s 1075 f)) := by
  intro w
  have hb := fw_lt hs (show 1022 < 2048 by decide) hf
  have hp := plc_fw s 1022 f hs (by decide) hf
  obtain ⟨p, hp', hp1, hp2⟩ : ∃ p : Int, plc (fw s 1022 f) = some p ∧ 4503599627370496 ≤ p.natAbs ∧ p.natAbs < 9218868437227405312 := ⟨_, hp, by split <;> omega, by split <;> omega⟩
  have N1 := normalize_n _ hb p hp' hp1
  have N2 := isnan_f hp'
  have N3 := isinf_a _ hb p hp'
  rw [decide_eq_false (by omega)] at N3
  have e0 : (FloatKind.f64.format.order (fw s 1022 f) 0 == some Ordering.eq) = false := by
    rw [fo_plc, hp', show plc 0 = some 0 from rfl]
    simp only [ordP]
    rw [cmp_eq, decide_eq_false (by omega)]
  have F1 := fun n W => run_frombits n W
  have F2 := fun W => run_bits (fw s 1022 f) W
  obtain ⟨M, m1, m2, m3⟩ := fields s 1022 f 1075 hs (by decide) hf (by decide)
  rw [show ((1075 * 4503599627370496 : Nat) : Int) = 4841369599423283200 from rfl] at m3
  have m4 : bits .and .i64 (((fw s 1022 f : Nat) : Int) / 4503599627370496) 2047 = 1022 := by
    have e1 : ((fw s 1022 f : Nat) : Int) / 4503599627370496 = ((s * 2048 + 1022 : Nat) : Int) := by unfold fw; omega
    rw [e1, bits_2047i _ (by omega)]
    omega
  have m5 : wrap64 (((fw s 1022 f : Nat) : Int) / 4503599627370496) = ((fw s 1022 f : Nat) : Int) / 4503599627370496 := by unfold wrap64; omega
  have Mu := fun T W => run_float_arith (P := Tryz.prog) W .mul T .f64 _ _ _ (mul_one s f hs hf)
  clear hp hp' hp1 hp2 hb m1
  generalize fw s 1022 f = B at *
  generalize fw s 1075 f = R at *
  go_enter Tryz.func67, Tryz.ntmps67
  go_wp2_with (first | (go_at_call 33; refine (N2 _).mono ?_; rintro e w' ⟨rfl, rfl⟩) | (go_at_call 34; refine (N3 _).mono ?_; rintro e w' ⟨rfl, rfl⟩) | (go_at_call 89; refine (N1 _).mono ?_; rintro e w' ⟨rfl, rfl⟩))
  go_ret
  exact ⟨rfl, rfl⟩
theorem ldexp_0 (s : Nat) (hs : s < 2) : Pur 67 #[.float .f64 (fw s 0 0), .int .i64 53] (.float .f64 (fw s 0 0)) := by
  intro w
  have e0 : (FloatKind.f64.format.order (fw s 0 0) 0 == some Ordering.eq) = true := by
    rcases (by omega : s = 0 ∨ s = 1) with rfl | rfl <;> decide
  generalize fw s 0 0 = A at *
  go_enter Tryz.func67, Tryz.ntmps67
  go_wp2
  go_ret
  exact ⟨rfl, rfl⟩
theorem Ldexp_p {x y : Nat} (h : Pur 67 #[.float .f64 x, .int .i64 53] (.float .f64 y)) : Pur 38 #[.float .f64 x, .int .i64 53] (.float .f64 y) := by
  intro w
  go_enter Tryz.func38, Tryz.ntmps38
  go_wp2_with (go_at_call 67; refine (h _).mono ?_; rintro e w' ⟨rfl, rfl⟩)
  go_ret
  exact ⟨rfl, rfl⟩
theorem cut_0 (neg : Bool) (n : Nat) : Ieee.Toward.zero.cut neg n 0 = n := by
  unfold Ieee.Toward.cut
  rw [Nat.zero_min]
  simp [Nat.mod_one]
theorem int_0 (s : Bool) (m : Nat) : (Ieee.Datum.number s m 0).toInt .zero = some (if s then -(m : Int) else (m : Int)) := by
  unfold Ieee.Datum.toInt Ieee.Datum.integral
  simp only [Int.toNat_zero, Int.neg_zero, Nat.shiftLeft_zero, cut_0]
  unfold Ieee.signed
  rw [Nat.shiftLeft_zero]
theorem dec_n (s f : Nat) (hs : s < 2) (hf : f < 4503599627370496) : FloatKind.f64.decode (fw s 1075 f) = .number (s == 1) (4503599627370496 + f) 0 := read_fw s 1075 f hs (by decide) (by decide) hf
theorem toInt_of {s : Bool} {b m : Nat} (h : FloatKind.f64.decode b = .number s m 0) (hm : m < 9223372036854775808) : floatToIntVal .f64 b .i64 = some (if s then -(m : Int) else (m : Int)) := by
  unfold floatToIntVal
  rw [h, int_0]
  have hmin : IntKind.i64.min = -9223372036854775808 := rfl
  have hmax : IntKind.i64.max = 9223372036854775807 := rfl
  simp only
  rw [if_pos]
  rw [hmin, hmax]
  cases s
  · simp only [Bool.false_eq_true, if_false]; omega
  · simp only [if_true]; omega
theorem toInt_0 (s : Nat) (hs : s < 2) : floatToIntVal .f64 (fw s 0 0) .i64 = some 0 := by
  rcases (by omega : s = 0 ∨ s = 1) with rfl | rfl <;> rfl
end Go.Proofs.YtgalppimdmjdcaaGreat
