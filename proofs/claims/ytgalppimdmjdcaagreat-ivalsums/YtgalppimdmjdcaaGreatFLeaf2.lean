/-
  Places and steps: the program's Down and Up, the document's, and their helpers.
-/
import Derived.Test.YtgalppimdmjdcaaGreatFLeaf
namespace Go.Proofs.YtgalppimdmjdcaaGreat
open Go.RowKit Nt
set_option linter.unusedSimpArgs false
set_option linter.unusedVariables false
set_option maxRecDepth 20000

theorem xor_top (b : Nat) (hb : b < 18446744073709551616) : b ^^^ 9223372036854775808 = (b + 9223372036854775808) % 18446744073709551616 := by
  have h1 : (b ^^^ 9223372036854775808) % 9223372036854775808 = b % 9223372036854775808 := by
    have := Nat.xor_mod_two_pow (a := b) (b := 9223372036854775808) (n := 63)
    rw [show (2 : Nat) ^ 63 = 9223372036854775808 from rfl, Nat.mod_self, Nat.xor_zero] at this
    exact this
  have h2 : (b ^^^ 9223372036854775808) / 9223372036854775808 = (b / 9223372036854775808) ^^^ 1 := by
    have := Nat.xor_div_two_pow (a := b) (b := 9223372036854775808) (n := 63)
    exact this
  rcases (by omega : b / 9223372036854775808 = 0 ∨ b / 9223372036854775808 = 1) with h | h
  · rw [h] at h2
    have h2 : (b ^^^ 9223372036854775808) / 9223372036854775808 = 1 := h2
    omega
  · rw [h] at h2
    have h2 : (b ^^^ 9223372036854775808) / 9223372036854775808 = 0 := h2
    omega
theorem neg_f64 (b : Nat) (hb : b < 18446744073709551616) : Op.negFloat .f64 b = (b + 9223372036854775808) % 18446744073709551616 := xor_top b hb
theorem run_neg (b : Nat) (w : World) : (Op.unary .neg (.float .f64 b)).run Tryz.prog w = .ok (.float .f64 (Op.negFloat .f64 b)) w := rfl
/-- The other sign. -/
def ngP : Option Int → Option Int
  | some p => some (-p)
  | none => none
theorem plc_neg (b : Nat) (hb : b < 18446744073709551616) : plc ((b + 9223372036854775808) % 18446744073709551616) = ngP (plc b) := by
  unfold plc
  have e : (b + 9223372036854775808) % 18446744073709551616 % 9223372036854775808 = b % 9223372036854775808 := by omega
  rw [e]
  by_cases h : b % 9223372036854775808 ≤ 9218868437227405312
  · rw [if_pos h, if_pos h]
    simp only [ngP]
    by_cases h1 : b / 9223372036854775808 % 2 = 1
    · rw [if_pos h1, if_neg (by omega), Int.neg_neg]
    · rw [if_neg h1, if_pos (by omega)]
  · rw [if_neg h, if_neg h]; rfl
/-- What the program takes for a float's place. -/
def pl (b : Nat) : Int := if 9223372036854775808 ≤ b then -((b % 9223372036854775808 : Nat) : Int) else ((b % 9223372036854775808 : Nat) : Int)
theorem plc_pl {b : Nat} (hb : b < 18446744073709551616) {p : Int} (h : plc b = some p) : pl b = p ∧ -9218868437227405312 ≤ p ∧ p ≤ 9218868437227405312 := by
  unfold plc at h
  split at h
  · rename_i h0
    have := Option.some.inj h
    unfold pl
    constructor
    · rw [← this]
      by_cases h1 : 9223372036854775808 ≤ b
      · rw [if_pos h1, if_pos (by omega)]
      · rw [if_neg h1, if_neg (by omega)]
    · rw [← this]; split <;> omega
  · cases h
/-- The float at a place. -/
def st (n : Int) : Nat := if n < 0 then n.natAbs + 9223372036854775808 else n.natAbs
theorem plc_st {n : Int} (h1 : -9218868437227405312 ≤ n) (h2 : n ≤ 9218868437227405312) : plc (st n) = some n ∧ st n < 18446744073709551616 := by
  unfold st
  by_cases h : n < 0
  · rw [if_pos h]
    refine ⟨?_, by omega⟩
    unfold plc
    rw [if_pos (by omega), if_pos (by omega)]
    exact congrArg some (by omega)
  · rw [if_neg h]
    refine ⟨?_, by omega⟩
    unfold plc
    rw [if_pos (by omega), if_neg (by omega)]
    exact congrArg some (by omega)

/-- A call that hands back a float of that place. -/
def PurF (f : FuncId) (args : Array Value) (p : Option Int) : Prop := ∃ r, r < 18446744073709551616 ∧ plc r = p ∧ Pur f args (.float .f64 r)

theorem place_p (b : Nat) (hb : b < 18446744073709551616) : Pur 48 #[.float .f64 b] (.int .i64 (pl b)) := by
  intro w
  have A := abs_p b hb
  have h1 := fun W => run_bits (b % 9223372036854775808) W
  have h2 : wrap64 ((b : Int) % 9223372036854775808) = (b : Int) % 9223372036854775808 := by unfold wrap64; omega
  have h3 : wrap64 (-((b : Int) % 9223372036854775808)) = -((b : Int) % 9223372036854775808) := by unfold wrap64; omega
  unfold pl
  by_cases h : 9223372036854775808 ≤ b
  · have Sg := sign_p b hb
    rw [decide_eq_true h] at Sg
    rw [if_pos h]
    go_enter Tryz.func48, Tryz.ntmps48
    go_wp2_with (first | (go_at_call 62; refine (A _).mono ?_; rintro e w' ⟨rfl, rfl⟩) | (go_at_call 82; refine (Sg _).mono ?_; rintro e w' ⟨rfl, rfl⟩))
    go_ret
    exact ⟨rfl, rfl⟩
  · have Sg := sign_p b hb
    rw [decide_eq_false h] at Sg
    rw [if_neg h]
    go_enter Tryz.func48, Tryz.ntmps48
    go_wp2_with (first | (go_at_call 62; refine (A _).mono ?_; rintro e w' ⟨rfl, rfl⟩) | (go_at_call 82; refine (Sg _).mono ?_; rintro e w' ⟨rfl, rfl⟩))
    go_ret
    exact ⟨rfl, rfl⟩
theorem standing_p (n : Int) (h1 : -9218868437227405313 ≤ n) (h2 : n ≤ 9218868437227405313) : Pur 47 #[.int .i64 n] (.float .f64 (st n)) := by
  intro w
  have F := fun n W => run_frombits n W
  unfold st
  by_cases h : n < 0
  · obtain ⟨m, rfl⟩ : ∃ m : Nat, n = -(m : Int) := ⟨n.natAbs, by omega⟩
    rw [if_pos h]
    have e1 : wrap64 (m : Int) = (m : Int) := by unfold wrap64; omega
    have e2 := neg_f64 m (by omega)
    have Ng := fun b W => run_neg b W
    rw [show (m + 9223372036854775808) % 18446744073709551616 = m + 9223372036854775808 from by omega] at e2
    go_enter Tryz.func47, Tryz.ntmps47
    go_wp2
    go_ret
    exact ⟨by simp, rfl⟩
  · rw [if_neg h]
    obtain ⟨m, rfl⟩ : ∃ m : Nat, n = (m : Int) := ⟨n.natAbs, by omega⟩
    go_enter Tryz.func47, Tryz.ntmps47
    go_wp2
    go_ret
    exact ⟨rfl, rfl⟩

def fo (x y : Nat) : Option Ordering := FloatKind.f64.format.order x y
theorem fo_plc (x y : Nat) : FloatKind.f64.format.order x y = ordP (plc x) (plc y) := order_plc x y
theorem nan_neq (b : Nat) : (FloatKind.f64.format.order b b != some Ordering.eq) = (plc b).isNone := by
  rw [fo_plc]; cases plc b <;> simp [ordP]
theorem cmp_gt (p q : Int) : (some (compare p q) == some Ordering.gt) = decide (q < p) := by
  show (some (compareOfLessAndEq p q) == some Ordering.gt) = _
  unfold compareOfLessAndEq
  by_cases h : p < q
  · rw [if_pos h, decide_eq_false (by omega)]; rfl
  · rw [if_neg h]
    by_cases h' : p = q
    · rw [if_pos h', decide_eq_false (by omega)]; rfl
    · rw [if_neg h', decide_eq_true (by omega)]; rfl
theorem cmp_lt (p q : Int) : (some (compare p q) == some Ordering.lt) = decide (p < q) := by
  show (some (compareOfLessAndEq p q) == some Ordering.lt) = _
  unfold compareOfLessAndEq
  by_cases h : p < q
  · rw [if_pos h, decide_eq_true h]; rfl
  · rw [if_neg h, decide_eq_false h]
    by_cases h' : p = q
    · rw [if_pos h']; rfl
    · rw [if_neg h']; rfl
theorem cmp_eq (p q : Int) : (some (compare p q) == some Ordering.eq) = decide (p = q) := by
  show (some (compareOfLessAndEq p q) == some Ordering.eq) = _
  unfold compareOfLessAndEq
  by_cases h : p < q
  · rw [if_pos h, decide_eq_false (by omega)]; rfl
  · rw [if_neg h]
    by_cases h' : p = q
    · rw [if_pos h', decide_eq_true h']; rfl
    · rw [if_neg h', decide_eq_false h']; rfl
theorem plc_max : plc 9218868437227405311 = some 9218868437227405311 := rfl
theorem isinf_m (b : Nat) (hb : b < 18446744073709551616) (p : Int) (hp : plc b = some p) : Pur 34 #[.float .f64 b, .int .i64 (-1)] (.bool (decide (p = -9218868437227405312))) := by
  intro w
  have hq := plc_pl hb hp
  have Ng := fun b W => run_neg b W
  have e2 := neg_f64 b hb
  have e3 := plc_neg b hb
  have e4 : (FloatKind.f64.format.order ((b + 9223372036854775808) % 18446744073709551616) 9218868437227405311 == some Ordering.gt) = decide (p = -9218868437227405312) := by
    rw [fo_plc, e3, hp, plc_max]
    simp only [ngP, ordP]
    rw [cmp_gt]
    exact decide_eq_decide.2 (by omega)
  go_enter Tryz.func34, Tryz.ntmps34
  go_wp2
  go_ret
  rw [← e4]
  exact ⟨rfl, rfl⟩
theorem isinf_u (b : Nat) (hb : b < 18446744073709551616) (p : Int) (hp : plc b = some p) : Pur 34 #[.float .f64 b, .int .i64 1] (.bool (decide (p = 9218868437227405312))) := by
  intro w
  have hq := plc_pl hb hp
  have e4 : (FloatKind.f64.format.order b 9218868437227405311 == some Ordering.gt) = decide (p = 9218868437227405312) := by
    rw [fo_plc, hp, plc_max]
    simp only [ordP]
    rw [cmp_gt]
    exact decide_eq_decide.2 (by omega)
  go_enter Tryz.func34, Tryz.ntmps34
  go_wp2
  go_ret
  rw [← e4]
  exact ⟨rfl, rfl⟩
theorem plc_abs (b : Nat) (hb : b < 18446744073709551616) (p : Int) (hp : plc b = some p) : plc (b % 9223372036854775808) = some (p.natAbs : Int) := by
  have h := plc_pl hb hp
  unfold pl at h
  unfold plc
  have h0 : b % 9223372036854775808 ≤ 9218868437227405312 := by
    obtain ⟨h1, h2, h3⟩ := h
    split at h1 <;> omega
  rw [if_pos (by omega), if_neg (by omega)]
  refine congrArg some ?_
  obtain ⟨h1, h2, h3⟩ := h
  split at h1 <;> omega
theorem isinf_a (b : Nat) (hb : b < 18446744073709551616) (p : Int) (hp : plc b = some p) : Pur 34 #[.float .f64 b, .int .i64 0] (.bool (decide (p = 9218868437227405312 ∨ p = -9218868437227405312))) := by
  intro w
  have hq := plc_pl hb hp
  have A := abs_p b hb
  have e3 := plc_abs b hb p hp
  have e4 : (FloatKind.f64.format.order (b % 9223372036854775808) 9218868437227405311 == some Ordering.gt) = decide (p = 9218868437227405312 ∨ p = -9218868437227405312) := by
    rw [fo_plc, e3, plc_max]
    simp only [ordP]
    rw [cmp_gt]
    exact decide_eq_decide.2 (by omega)
  go_enter Tryz.func34, Tryz.ntmps34
  go_wp2_with (go_at_call 62; refine (A _).mono ?_; rintro e w' ⟨rfl, rfl⟩)
  go_ret
  rw [Bool.decide_or]
  exact ⟨rfl, rfl⟩
theorem nan_p : Pur 46 #[] (.float .f64 9221120237041090561) := by
  intro w
  have F := fun n W => run_frombits n W
  go_enter Tryz.func46, Tryz.ntmps46
  go_wp2
  go_ret
  exact ⟨rfl, rfl⟩
theorem plc_nan : plc 9221120237041090561 = none := rfl
end Go.Proofs.YtgalppimdmjdcaaGreat
