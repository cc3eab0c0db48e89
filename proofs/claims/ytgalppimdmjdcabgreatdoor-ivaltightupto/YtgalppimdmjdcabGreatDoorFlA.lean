import Derived.Laws.FloatArith
import Derived.Test.YtgalppimdmjdcabGreatDoorSetA
import Derived.Laws.Externs
import Derived.Laws.Cover2
import Derived.Handy
/-
  Floats by their places: each float that is no NaN has a place, a whole number; both noughts have one; floats stand to each other as their places do.
-/
namespace Go.Proofs.YtgalppimdmjdcabGreatDoor
open Go
set_option linter.unusedSimpArgs false
set_option linter.unusedVariables false
set_option maxRecDepth 20000

/-- The place of a float: none of a NaN. -/
def plc (b : Nat) : Option Int :=
  if b % 9223372036854775808 ≤ 9218868437227405312 then
    some (if b / 9223372036854775808 % 2 = 1 then -((b % 9223372036854775808 : Nat) : Int) else ((b % 9223372036854775808 : Nat) : Int))
  else none
/-- The magnitude at a place from nought on, in units of the least float. -/
def mg (r : Nat) : Nat := if r < 4503599627370496 then r else (4503599627370496 + r % 4503599627370496) * 2 ^ (r / 4503599627370496 - 1)
/-- The number at a place. -/
def vp (p : Int) : Int := if p < 0 then -(mg p.natAbs : Int) else mg p.natAbs

theorem mg_step (r : Nat) : mg r < mg (r + 1) := by
  unfold mg
  by_cases h : r + 1 < 4503599627370496
  · rw [if_pos h, if_pos (by omega)]; omega
  · rw [if_neg h]
    by_cases h0 : r < 4503599627370496
    · obtain rfl : r = 4503599627370495 := by omega
      rw [if_pos h0]; decide
    · rw [if_neg h0]
      obtain ⟨q, f, hq, hf⟩ : ∃ q f, r = 4503599627370496 * q + f ∧ f < 4503599627370496 := ⟨r / 4503599627370496, r % 4503599627370496, (Nat.div_add_mod _ _).symm, Nat.mod_lt _ (by decide)⟩
      have e1 : r / 4503599627370496 = q := by omega
      have e2 : r % 4503599627370496 = f := by omega
      rw [e1, e2]
      obtain ⟨m, rfl⟩ : ∃ m, q = m + 1 := ⟨q - 1, by omega⟩
      have hp : 0 < 2 ^ m := Nat.two_pow_pos m
      by_cases hl : f + 1 = 4503599627370496
      · have e3 : (r + 1) / 4503599627370496 = m + 2 := by omega
        have e4 : (r + 1) % 4503599627370496 = 0 := by omega
        rw [e3, e4, show m + 2 - 1 = m + 1 from rfl, Nat.add_sub_cancel, Nat.pow_succ]
        generalize 2 ^ m = P at *
        have : f = 4503599627370495 := by omega
        subst this
        omega
      · have e3 : (r + 1) / 4503599627370496 = m + 1 := by omega
        have e4 : (r + 1) % 4503599627370496 = f + 1 := by omega
        rw [e3, e4]
        exact Nat.mul_lt_mul_of_pos_right (by omega) hp
theorem mg_mono {r s : Nat} (h : r < s) : mg r < mg s := by
  induction s with
  | zero => omega
  | succ s ih =>
    rcases Nat.lt_or_ge r s with h1 | h1
    · exact Nat.lt_trans (ih h1) (mg_step s)
    · obtain rfl : r = s := by omega
      exact mg_step r
theorem mg_0 : mg 0 = 0 := rfl
theorem mg_pos {r : Nat} (h : 0 < r) : 0 < mg r := by have := mg_mono h; rwa [mg_0] at this
theorem vp_mono {p q : Int} (h : p < q) : vp p < vp q := by
  unfold vp
  by_cases hp : p < 0
  · rw [if_pos hp]
    by_cases hq : q < 0
    · rw [if_pos hq]; have := mg_mono (r := q.natAbs) (s := p.natAbs) (by omega); omega
    · rw [if_neg hq]; have := mg_pos (r := p.natAbs) (by omega); omega
  · rw [if_neg hp, if_neg (by omega)]
    have := mg_mono (r := p.natAbs) (s := q.natAbs) (by omega); omega
theorem vp_lt {p q : Int} : vp p < vp q ↔ p < q := ⟨fun h => by
  rcases Int.lt_trichotomy p q with h1 | h1 | h1
  · exact h1
  · subst h1; omega
  · have := vp_mono h1; omega, vp_mono⟩
theorem vp_inj {p q : Int} : vp p = vp q ↔ p = q := ⟨fun h => by
  rcases Int.lt_trichotomy p q with h1 | h1 | h1
  · have := vp_mono h1; omega
  · exact h1
  · have := vp_mono h1; omega, fun h => by rw [h]⟩
theorem vp_neg (p : Int) : vp (-p) = -vp p := by
  unfold vp
  rcases Int.lt_trichotomy p 0 with h | h | h
  · rw [if_neg (by omega), if_pos h, Int.natAbs_neg, Int.neg_neg]
  · subst h; rfl
  · rw [if_pos (by omega), if_neg (by omega), Int.natAbs_neg]

/-- What a float stands for. -/
inductive FRd (b : Nat) : Prop
  | num (p : Int) (s : Bool) (m i : Nat) (hp : plc b = some p) (h1 : -9218868437227405312 < p) (h2 : p < 9218868437227405312) (hr : Ieee.double.read b = .number s m (-1074 + (i : Int))) (hv : (if s then -((m * 2 ^ i : Nat) : Int) else ((m * 2 ^ i : Nat) : Int)) = vp p) : FRd b
  | inf (s : Bool) (hp : plc b = some (if s then -9218868437227405312 else 9218868437227405312)) (hr : Ieee.double.read b = .infinity s) : FRd b
  | nan (s : Bool) (f : Nat) (hp : plc b = none) (hr : Ieee.double.read b = .nan s f) : FRd b

theorem vp_of {s : Bool} {r m : Nat} (hm : m = mg r) : (if s then -(m : Int) else (m : Int)) = vp (if s then -(r : Int) else (r : Int)) := by
  subst hm
  cases s
  · simp only [Bool.false_eq_true, if_false, vp]; rw [if_neg (by omega)]; simp
  · simp only [if_true]
    unfold vp
    by_cases h : r = 0
    · subst h; simp [mg_0]
    · rw [if_pos (by omega)]; simp
theorem read_f64 (b : Nat) : Ieee.double.read b = (if b % 9223372036854775808 < 4503599627370496 then .number (b / 9223372036854775808 % 2 == 1) (b % 9223372036854775808) (-1074)
    else if b % 9223372036854775808 < 9218868437227405312 then .number (b / 9223372036854775808 % 2 == 1) (4503599627370496 + b % 9223372036854775808 % 4503599627370496) (-1074 + ((b % 9223372036854775808 / 4503599627370496 - 1 : Nat) : Int))
    else if b % 9223372036854775808 = 9218868437227405312 then .infinity (b / 9223372036854775808 % 2 == 1) else .nan (b / 9223372036854775808 % 2 == 1) (b % 9223372036854775808 - 9218868437227405312)) := rfl
theorem frd (b : Nat) : FRd b := by
  have hr := read_f64 b
  obtain ⟨s, hs⟩ : ∃ s : Bool, (b / 9223372036854775808 % 2 == 1) = s := ⟨_, rfl⟩
  obtain ⟨r, er⟩ : ∃ r, b % 9223372036854775808 = r := ⟨_, rfl⟩
  have hp : r ≤ 9218868437227405312 → plc b = some (if s then -(r : Int) else (r : Int)) := fun h => by
    unfold plc
    rw [er, if_pos h]
    cases s
    · rw [if_neg (by simpa using hs)]; rfl
    · rw [if_pos (by simpa using hs)]; rfl
  rw [hs, er] at hr
  by_cases h1 : r < 4503599627370496
  · rw [if_pos h1] at hr
    exact .num _ s r 0 (hp (by omega)) (by cases s <;> simp <;> omega) (by cases s <;> simp <;> omega) hr (by rw [Nat.pow_zero, Nat.mul_one]; exact vp_of (by unfold mg; rw [if_pos h1]))
  · rw [if_neg h1] at hr
    by_cases h2 : r < 9218868437227405312
    · rw [if_pos h2] at hr
      exact .num _ s _ _ (hp (by omega)) (by cases s <;> simp <;> omega) (by cases s <;> simp <;> omega) hr (vp_of (by unfold mg; rw [if_neg h1]))
    · rw [if_neg h2] at hr
      by_cases h3 : r = 9218868437227405312
      · rw [if_pos h3] at hr
        refine .inf s ?_ hr
        rw [hp (by omega), h3]; cases s <;> rfl
      · rw [if_neg h3] at hr
        refine .nan s _ ?_ hr
        unfold plc
        rw [er, if_neg (by omega)]

/-- The order of floats is that of their places. -/
def ordP : Option Int → Option Int → Option Ordering
  | some p, some q => some (compare p q)
  | _, _ => none
theorem cmp_int {a b c d : Int} (h1 : a < b ↔ c < d) (h2 : a = b ↔ c = d) : compare a b = compare c d := by
  show compareOfLessAndEq a b = compareOfLessAndEq c d
  unfold compareOfLessAndEq
  by_cases h : a < b
  · rw [if_pos h, if_pos (h1.1 h)]
  · rw [if_neg h, if_neg (fun h' => h (h1.2 h'))]
    by_cases h' : a = b
    · rw [if_pos h', if_pos (h2.1 h')]
    · rw [if_neg h', if_neg (fun h'' => h' (h2.2 h''))]
theorem signed_val (s : Bool) (m k : Nat) : Ieee.signed s m k = if s then -((m * 2 ^ k : Nat) : Int) else ((m * 2 ^ k : Nat) : Int) := by
  unfold Ieee.signed
  rw [Nat.shiftLeft_eq]
theorem scaled (s : Bool) (m i b : Nat) (h : b ≤ i) : Ieee.signed s m (i - b) * ((2 ^ b : Nat) : Int) = if s then -((m * 2 ^ i : Nat) : Int) else ((m * 2 ^ i : Nat) : Int) := by
  rw [signed_val]
  have e : m * 2 ^ i = m * 2 ^ (i - b) * 2 ^ b := by rw [Nat.mul_assoc, ← Nat.pow_add, Nat.sub_add_cancel h]
  rw [e]
  cases s
  · simp
  · simp [Int.neg_mul]
theorem order_plc (x y : Nat) : Ieee.double.order x y = ordP (plc x) (plc y) := by
  show (Ieee.double.read x).order (Ieee.double.read y) = _
  cases frd x with
  | nan s f hp hr => rw [hp, hr]; rfl
  | inf s hp hr =>
    rw [hp, hr]
    cases frd y with
    | nan t g hq hr' => rw [hq, hr']; rfl
    | inf t hq hr' => rw [hq, hr']; cases s <;> cases t <;> decide
    | num q t n j hq h3 h4 hr' hv' =>
      rw [hq, hr']
      simp only [Ieee.Datum.order, ordP]
      congr 1
      cases s
      · rw [if_neg (by decide)]; simp only [Bool.false_eq_true, if_false]
        show _ = compareOfLessAndEq _ _
        unfold compareOfLessAndEq
        rw [if_neg (by omega), if_neg (by omega)]
      · rw [if_pos rfl]; simp only [if_true]
        show _ = compareOfLessAndEq _ _
        unfold compareOfLessAndEq
        rw [if_pos (by omega)]
  | num p s m i hp h1 h2 hr hv =>
    rw [hp, hr]
    cases frd y with
    | nan t g hq hr' => rw [hq, hr']; rfl
    | inf t hq hr' =>
      rw [hq, hr']
      simp only [Ieee.Datum.order, ordP]
      congr 1
      cases t
      · rw [if_neg (by decide)]; simp only [Bool.false_eq_true, if_false]
        show _ = compareOfLessAndEq _ _
        unfold compareOfLessAndEq
        rw [if_pos (by omega)]
      · rw [if_pos rfl]; simp only [if_true]
        show _ = compareOfLessAndEq _ _
        unfold compareOfLessAndEq
        rw [if_neg (by omega), if_neg (by omega)]
    | num q t n j hq h3 h4 hr' hv' =>
      rw [hq, hr']
      simp only [Ieee.Datum.order, ordP]
      congr 1
      obtain ⟨k, hk⟩ : ∃ k, min i j = k := ⟨_, rfl⟩
      have e1 : (-1074 + (i : Int) - min (-1074 + (i : Int)) (-1074 + (j : Int))).toNat = i - k := by omega
      have e2 : (-1074 + (j : Int) - min (-1074 + (i : Int)) (-1074 + (j : Int))).toNat = j - k := by omega
      rw [e1, e2]
      have s1 := scaled s m i k (by omega)
      have s2 := scaled t n j k (by omega)
      rw [hv] at s1
      rw [hv'] at s2
      have hP : (0 : Int) < ((2 ^ k : Nat) : Int) := by have := Nat.two_pow_pos k; omega
      generalize ((2 ^ k : Nat) : Int) = P at s1 s2 hP
      generalize Ieee.signed s m (i - k) = X at s1 ⊢
      generalize Ieee.signed t n (j - k) = Y at s2 ⊢
      refine cmp_int ?_ ?_
      · rw [← vp_lt (p := p) (q := q), ← s1, ← s2]
        exact ⟨fun h => Int.mul_lt_mul_of_pos_right h hP, fun h => Int.lt_of_mul_lt_mul_right h (Int.le_of_lt hP)⟩
      · rw [← vp_inj (p := p) (q := q), ← s1, ← s2]
        exact ⟨fun h => by rw [h], fun h => Int.eq_of_mul_eq_mul_right (by omega) h⟩
end Go.Proofs.YtgalppimdmjdcabGreatDoor

/-
  The calls of package math and of ival that take floats by their bits and hand back floats or bools.
-/
namespace Go.Proofs.YtgalppimdmjdcabGreatDoor
open Go.RowKit Nt
set_option linter.unusedSimpArgs false
set_option linter.unusedVariables false
set_option maxRecDepth 20000

theorem run_bits (b : Nat) (w : World) : (callFunc 57 #[.float .f64 b]).run Tryz.prog w = .ok (.value (.int .u64 (b : Int))) w := by
  rw [run_callFunc_extern (e := Extern.MathFloatBits.float64bits) Tryz.func57 (by kernel_rfl) (by kernel_rfl) (by kernel_rfl) (by kernel_rfl)]
  rfl
theorem run_frombits (n : Int) (w : World) : (callFunc 5 #[.int .u64 n]).run Tryz.prog w = .ok (.value (.float .f64 n.toNat)) w := by
  rw [run_callFunc_extern (e := Extern.MathFloatBits.float64frombits) Tryz.func5 (by kernel_rfl) (by kernel_rfl) (by kernel_rfl) (by kernel_rfl)]
  rfl
theorem wrap_u64 {x : Nat} (h : x < 18446744073709551616) : IntKind.u64.wrap (x : Int) = x := by
  simp [IntKind.wrap, IntKind.bits, IntKind.signed]; omega
theorem ofInt_nat (b : Nat) : BitVec.ofInt 64 (b : Int) = BitVec.ofNat 64 b := by simp
/-- A word without its topmost bit. -/
theorem andNot_top (b : Nat) (hb : b < 18446744073709551616) : b &&& 9223372036854775807 = b % 9223372036854775808 := by
  rw [show (9223372036854775807 : Nat) = 2 ^ 63 - 1 from rfl, Nat.and_two_pow_sub_one_eq_mod]
theorem bits_top (b : Nat) (hb : b < 18446744073709551616) : bits BinOp.andNot IntKind.u64 (b : Int) 9223372036854775808 = ((b % 9223372036854775808 : Nat) : Int) := by
  have e : (BitVec.ofInt IntKind.u64.bits (b : Int) &&& ~~~ BitVec.ofInt IntKind.u64.bits 9223372036854775808).toNat = b % 9223372036854775808 := by
    show (BitVec.ofInt 64 (b : Int) &&& 9223372036854775807#64).toNat = _
    rw [ofInt_nat, BitVec.toNat_and, BitVec.toNat_ofNat, Nat.mod_eq_of_lt (by omega)]
    exact andNot_top b hb
  show IntKind.u64.wrap (((BitVec.ofInt IntKind.u64.bits (b : Int) &&& ~~~ BitVec.ofInt IntKind.u64.bits 9223372036854775808).toNat : Nat) : Int) = _
  rw [e, wrap_u64 (by omega)]

/-- A call that hands back this value and leaves the world as it was. -/
def Pur (f : FuncId) (args : Array Value) (v : Value) : Prop := ∀ w, Calls Tryz.prog f args w fun e w' => e = .returned v ∧ w' = w

theorem abs_p (b : Nat) (hb : b < 18446744073709551616) : Pur 33 #[.float .f64 b] (.float .f64 (b % 9223372036854775808)) := by
  intro w
  have h1 := fun W => run_bits b W
  have h2 := fun n W => run_frombits n W
  have h3 := bits_top b hb
  go_enter Tryz.func33, Tryz.ntmps33
  go_wp2
  go_ret
  exact ⟨rfl, rfl⟩
theorem sign_p (b : Nat) (hb : b < 18446744073709551616) : Pur 58 #[.float .f64 b] (.bool (decide (9223372036854775808 ≤ b))) := by
  intro w
  have h1 := fun W => run_bits b W
  go_enter Tryz.func58, Tryz.ntmps58
  go_wp2
  go_ret
  refine ⟨?_, rfl⟩
  show Ending.returned (Value.bool (decide (wrap64 (b : Int) < 0))) = _
  congr 2
  unfold wrap64
  exact decide_eq_decide.2 (by omega)
theorem isnan_p (b : Nat) : Pur 13 #[.float .f64 b] (.bool (plc b).isNone) := by
  intro w
  have ho : ((FloatKind.format .f64).order b b != some Ordering.eq) = (plc b).isNone := by
    show ((Ieee.double).order b b != some Ordering.eq) = _
    rw [order_plc]; cases plc b <;> simp [ordP]
  go_enter Tryz.func13, Tryz.ntmps13
  go_wp2
  go_ret
  rw [← ho]
  exact ⟨rfl, rfl⟩
theorem inf_p (n : Int) (hn : n = 1 ∨ n = -1) : Pur 63 #[.int .i64 n] (.float .f64 (if n = 1 then 9218868437227405312 else 18442240474082181120)) := by
  intro w
  have h2 := fun n W => run_frombits n W
  rcases hn with rfl | rfl
  · go_enter Tryz.func63, Tryz.ntmps63
    go_wp2
    go_ret
    exact ⟨rfl, rfl⟩
  · go_enter Tryz.func63, Tryz.ntmps63
    go_wp2
    go_ret
    exact ⟨rfl, rfl⟩
end Go.Proofs.YtgalppimdmjdcabGreatDoor

/-
  Places and steps: the program's Down and Up, the document's, and their helpers.
-/
namespace Go.Proofs.YtgalppimdmjdcabGreatDoor
open Go.RowKit Nt
set_option linter.unusedSimpArgs false
set_option linter.unusedVariables false
set_option maxRecDepth 20000

theorem xor_top (b : Nat) (hb : b < 18446744073709551616) : b ^^^ 9223372036854775808 = (b + 9223372036854775808) % 18446744073709551616 := by
  have h1 : (b ^^^ 9223372036854775808) % 9223372036854775808 = b % 9223372036854775808 := by
    have := Nat.xor_mod_two_pow (a := b) (b := 9223372036854775808) (n := 63)
    rw [show (2 : Nat) ^ 63 = 9223372036854775808 from rfl, Nat.mod_self, Nat.xor_zero] at this
    exact this
  have h2 : (b ^^^ 9223372036854775808) / 9223372036854775808 = (b / 9223372036854775808) ^^^ 1 := by
    have := Nat.xor_div_two_pow (a := b) (b := 9223372036854775808) (n := 63)
    exact this
  rcases (by omega : b / 9223372036854775808 = 0 ∨ b / 9223372036854775808 = 1) with h | h
  · rw [h] at h2
    have h2 : (b ^^^ 9223372036854775808) / 9223372036854775808 = 1 := h2
    omega
  · rw [h] at h2
    have h2 : (b ^^^ 9223372036854775808) / 9223372036854775808 = 0 := h2
    omega
theorem neg_f64 (b : Nat) (hb : b < 18446744073709551616) : Op.negFloat .f64 b = (b + 9223372036854775808) % 18446744073709551616 := xor_top b hb
theorem run_neg (b : Nat) (w : World) : (Op.unary .neg (.float .f64 b)).run Tryz.prog w = .ok (.float .f64 (Op.negFloat .f64 b)) w := rfl
/-- What the program takes for a float's place. -/
def pl (b : Nat) : Int := if 9223372036854775808 ≤ b then -((b % 9223372036854775808 : Nat) : Int) else ((b % 9223372036854775808 : Nat) : Int)
theorem plc_pl {b : Nat} (hb : b < 18446744073709551616) {p : Int} (h : plc b = some p) : pl b = p ∧ -9218868437227405312 ≤ p ∧ p ≤ 9218868437227405312 := by
  unfold plc at h
  split at h
  · rename_i h0
    have := Option.some.inj h
    unfold pl
    constructor
    · rw [← this]
      by_cases h1 : 9223372036854775808 ≤ b
      · rw [if_pos h1, if_pos (by omega)]
      · rw [if_neg h1, if_neg (by omega)]
    · rw [← this]; split <;> omega
  · cases h
/-- The float at a place. -/
def st (n : Int) : Nat := if n < 0 then n.natAbs + 9223372036854775808 else n.natAbs
theorem plc_st {n : Int} (h1 : -9218868437227405312 ≤ n) (h2 : n ≤ 9218868437227405312) : plc (st n) = some n ∧ st n < 18446744073709551616 := by
  unfold st
  by_cases h : n < 0
  · rw [if_pos h]
    refine ⟨?_, by omega⟩
    unfold plc
    rw [if_pos (by omega), if_pos (by omega)]
    exact congrArg some (by omega)
  · rw [if_neg h]
    refine ⟨?_, by omega⟩
    unfold plc
    rw [if_pos (by omega), if_neg (by omega)]
    exact congrArg some (by omega)

/-- A call that hands back a float of that place. -/
def PurF (f : FuncId) (args : Array Value) (p : Option Int) : Prop := ∃ r, r < 18446744073709551616 ∧ plc r = p ∧ Pur f args (.float .f64 r)

theorem place_p (b : Nat) (hb : b < 18446744073709551616) : Pur 30 #[.float .f64 b] (.int .i64 (pl b)) := by
  intro w
  have A := abs_p b hb
  have h1 := fun W => run_bits (b % 9223372036854775808) W
  have h2 : wrap64 ((b : Int) % 9223372036854775808) = (b : Int) % 9223372036854775808 := by unfold wrap64; omega
  have h3 : wrap64 (-((b : Int) % 9223372036854775808)) = -((b : Int) % 9223372036854775808) := by unfold wrap64; omega
  unfold pl
  by_cases h : 9223372036854775808 ≤ b
  · have Sg := sign_p b hb
    rw [decide_eq_true h] at Sg
    rw [if_pos h]
    go_enter Tryz.func30, Tryz.ntmps30
    go_wp2_with (first | (go_at_call 33; refine (A _).mono ?_; rintro e w' ⟨rfl, rfl⟩) | (go_at_call 58; refine (Sg _).mono ?_; rintro e w' ⟨rfl, rfl⟩))
    go_ret
    exact ⟨rfl, rfl⟩
  · have Sg := sign_p b hb
    rw [decide_eq_false h] at Sg
    rw [if_neg h]
    go_enter Tryz.func30, Tryz.ntmps30
    go_wp2_with (first | (go_at_call 33; refine (A _).mono ?_; rintro e w' ⟨rfl, rfl⟩) | (go_at_call 58; refine (Sg _).mono ?_; rintro e w' ⟨rfl, rfl⟩))
    go_ret
    exact ⟨rfl, rfl⟩
theorem standing_p (n : Int) (h1 : -9218868437227405313 ≤ n) (h2 : n ≤ 9218868437227405313) : Pur 29 #[.int .i64 n] (.float .f64 (st n)) := by
  intro w
  have F := fun n W => run_frombits n W
  unfold st
  by_cases h : n < 0
  · obtain ⟨m, rfl⟩ : ∃ m : Nat, n = -(m : Int) := ⟨n.natAbs, by omega⟩
    rw [if_pos h]
    have e1 : wrap64 (m : Int) = (m : Int) := by unfold wrap64; omega
    have e2 := neg_f64 m (by omega)
    have Ng := fun b W => run_neg b W
    rw [show (m + 9223372036854775808) % 18446744073709551616 = m + 9223372036854775808 from by omega] at e2
    go_enter Tryz.func29, Tryz.ntmps29
    go_wp2
    go_ret
    exact ⟨by simp, rfl⟩
  · rw [if_neg h]
    obtain ⟨m, rfl⟩ : ∃ m : Nat, n = (m : Int) := ⟨n.natAbs, by omega⟩
    go_enter Tryz.func29, Tryz.ntmps29
    go_wp2
    go_ret
    exact ⟨rfl, rfl⟩

theorem fo_plc (x y : Nat) : FloatKind.f64.format.order x y = ordP (plc x) (plc y) := order_plc x y
theorem cmp_gt (p q : Int) : (some (compare p q) == some Ordering.gt) = decide (q < p) := by
  show (some (compareOfLessAndEq p q) == some Ordering.gt) = _
  unfold compareOfLessAndEq
  by_cases h : p < q
  · rw [if_pos h, decide_eq_false (by omega)]; rfl
  · rw [if_neg h]
    by_cases h' : p = q
    · rw [if_pos h', decide_eq_false (by omega)]; rfl
    · rw [if_neg h', decide_eq_true (by omega)]; rfl
theorem cmp_lt (p q : Int) : (some (compare p q) == some Ordering.lt) = decide (p < q) := by
  show (some (compareOfLessAndEq p q) == some Ordering.lt) = _
  unfold compareOfLessAndEq
  by_cases h : p < q
  · rw [if_pos h, decide_eq_true h]; rfl
  · rw [if_neg h, decide_eq_false h]
    by_cases h' : p = q
    · rw [if_pos h']; rfl
    · rw [if_neg h']; rfl
theorem cmp_eq (p q : Int) : (some (compare p q) == some Ordering.eq) = decide (p = q) := by
  show (some (compareOfLessAndEq p q) == some Ordering.eq) = _
  unfold compareOfLessAndEq
  by_cases h : p < q
  · rw [if_pos h, decide_eq_false (by omega)]; rfl
  · rw [if_neg h]
    by_cases h' : p = q
    · rw [if_pos h', decide_eq_true h']; rfl
    · rw [if_neg h', decide_eq_false h']; rfl
theorem plc_max : plc 9218868437227405311 = some 9218868437227405311 := rfl
theorem isinf_u (b : Nat) (hb : b < 18446744073709551616) (p : Int) (hp : plc b = some p) : Pur 14 #[.float .f64 b, .int .i64 1] (.bool (decide (p = 9218868437227405312))) := by
  intro w
  have hq := plc_pl hb hp
  have e4 : (FloatKind.f64.format.order b 9218868437227405311 == some Ordering.gt) = decide (p = 9218868437227405312) := by
    rw [fo_plc, hp, plc_max]
    simp only [ordP]
    rw [cmp_gt]
    exact decide_eq_decide.2 (by omega)
  go_enter Tryz.func14, Tryz.ntmps14
  go_wp2
  go_ret
  rw [← e4]
  exact ⟨rfl, rfl⟩
theorem plc_abs (b : Nat) (hb : b < 18446744073709551616) (p : Int) (hp : plc b = some p) : plc (b % 9223372036854775808) = some (p.natAbs : Int) := by
  have h := plc_pl hb hp
  unfold pl at h
  unfold plc
  have h0 : b % 9223372036854775808 ≤ 9218868437227405312 := by
    obtain ⟨h1, h2, h3⟩ := h
    split at h1 <;> omega
  rw [if_pos (by omega), if_neg (by omega)]
  refine congrArg some ?_
  obtain ⟨h1, h2, h3⟩ := h
  split at h1 <;> omega
theorem isinf_a (b : Nat) (hb : b < 18446744073709551616) (p : Int) (hp : plc b = some p) : Pur 14 #[.float .f64 b, .int .i64 0] (.bool (decide (p = 9218868437227405312 ∨ p = -9218868437227405312))) := by
  intro w
  have hq := plc_pl hb hp
  have A := abs_p b hb
  have e3 := plc_abs b hb p hp
  have e4 : (FloatKind.f64.format.order (b % 9223372036854775808) 9218868437227405311 == some Ordering.gt) = decide (p = 9218868437227405312 ∨ p = -9218868437227405312) := by
    rw [fo_plc, e3, plc_max]
    simp only [ordP]
    rw [cmp_gt]
    exact decide_eq_decide.2 (by omega)
  go_enter Tryz.func14, Tryz.ntmps14
  go_wp2_with (go_at_call 33; refine (A _).mono ?_; rintro e w' ⟨rfl, rfl⟩)
  go_ret
  rw [Bool.decide_or]
  exact ⟨rfl, rfl⟩
theorem nan_p : Pur 28 #[] (.float .f64 9221120237041090561) := by
  intro w
  have F := fun n W => run_frombits n W
  go_enter Tryz.func28, Tryz.ntmps28
  go_wp2
  go_ret
  exact ⟨rfl, rfl⟩
end Go.Proofs.YtgalppimdmjdcabGreatDoor

/-
  Down and Up, the program's and the document's; low, high, equal.
-/
namespace Go.Proofs.YtgalppimdmjdcabGreatDoor
open Go.RowKit Nt
set_option linter.unusedSimpArgs false
set_option linter.unusedVariables false
set_option maxRecDepth 20000

def upP : Option Int → Option Int
  | some p => some (if p = 9218868437227405312 then p else p + 1)
  | none => none
theorem isnan_t {b : Nat} (h : plc b = none) : Pur 13 #[.float .f64 b] (.bool true) := by have := isnan_p b; rwa [h] at this
theorem isnan_f {b : Nat} {p : Int} (h : plc b = some p) : Pur 13 #[.float .f64 b] (.bool false) := by have := isnan_p b; rwa [h] at this

theorem up_f (b : Nat) (hb : b < 18446744073709551616) : PurF 10 #[.float .f64 b] (upP (plc b)) := by
  cases hp : plc b with
  | none =>
    refine ⟨9221120237041090561, by decide, rfl, fun w => ?_⟩
    have N1 := isnan_t hp
    have N2 := nan_p
    go_enter Tryz.func10, Tryz.ntmps10
    go_wp2_with (first | (go_at_call 13; refine (N1 _).mono ?_; rintro e w' ⟨rfl, rfl⟩) | (go_at_call 28; refine (N2 _).mono ?_; rintro e w' ⟨rfl, rfl⟩))
    go_ret
    exact ⟨rfl, rfl⟩
  | some p =>
    obtain ⟨h1, h2, h3⟩ := plc_pl hb hp
    have N1 := isnan_f hp
    have N2 := isinf_u b hb p hp
    by_cases h : p = 9218868437227405312
    · rw [decide_eq_true h] at N2
      refine ⟨b, hb, by rw [hp]; simp only [upP]; rw [if_pos h], fun w => ?_⟩
      clear h h1 h2 h3 hp
      go_enter Tryz.func10, Tryz.ntmps10
      go_wp2_with (first | (go_at_call 13; refine (N1 _).mono ?_; rintro e w' ⟨rfl, rfl⟩) | (go_at_call 14; refine (N2 _).mono ?_; rintro e w' ⟨rfl, rfl⟩))
      go_ret
      exact ⟨rfl, rfl⟩
    · rw [decide_eq_false h] at N2
      have hs := plc_st (n := p + 1) (by omega) (by omega)
      refine ⟨st (p + 1), hs.2, by rw [hs.1]; simp only [upP]; rw [if_neg h], fun w => ?_⟩
      have P1 := place_p b hb
      rw [h1] at P1
      have P2 := standing_p (p + 1) (by omega) (by omega)
      clear h1 hs hp
      go_enter Tryz.func10, Tryz.ntmps10
      go_wp2_with (first | (go_at_call 13; refine (N1 _).mono ?_; rintro e w' ⟨rfl, rfl⟩) | (go_at_call 14; refine (N2 _).mono ?_; rintro e w' ⟨rfl, rfl⟩) | (go_at_call 30; refine (P1 _).mono ?_; rintro e w' ⟨rfl, rfl⟩) | (go_at_call 29; refine (P2 _).mono ?_; rintro e w' ⟨rfl, rfl⟩))
      go_ret
      exact ⟨rfl, rfl⟩

/-! The document's. -/
theorem rbits_p (b : Nat) : Pur 51 #[.float .f64 b] (.int .u64 (b : Int)) := by
  intro w
  have F := fun W => run_bits b W
  go_enter Tryz.func51, Tryz.ntmps51
  go_wp2
  go_ret
  exact ⟨rfl, rfl⟩
end Go.Proofs.YtgalppimdmjdcabGreatDoor

/-
  The document's Down, low and high; the law's equal.
-/
namespace Go.Proofs.YtgalppimdmjdcabGreatDoor
open Go.RowKit Nt
set_option linter.unusedSimpArgs false
set_option linter.unusedVariables false
set_option maxRecDepth 20000

end Go.Proofs.YtgalppimdmjdcabGreatDoor
