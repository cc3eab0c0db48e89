/-
  Floats by their places: each float that is no NaN has a place, a whole number; both noughts have one; floats stand to each other as their places do.
-/
import Derived.Laws.FloatArith
namespace Go.Proofs.YtgalppimdmjdcaaGreat
open Go
set_option linter.unusedSimpArgs false
set_option linter.unusedVariables false
set_option maxRecDepth 20000

/-- The place of a float: none of a NaN. -/
def plc (b : Nat) : Option Int :=
  if b % 9223372036854775808 ≤ 9218868437227405312 then
    some (if b / 9223372036854775808 % 2 = 1 then -((b % 9223372036854775808 : Nat) : Int) else ((b % 9223372036854775808 : Nat) : Int))
  else none
/-- The magnitude at a place from nought on, in units of the least float. -/
def mg (r : Nat) : Nat := if r < 4503599627370496 then r else (4503599627370496 + r % 4503599627370496) * 2 ^ (r / 4503599627370496 - 1)
/-- The number at a place. -/
def vp (p : Int) : Int := if p < 0 then -(mg p.natAbs : Int) else mg p.natAbs

theorem mg_step (r : Nat) : mg r < mg (r + 1) := by
  unfold mg
  by_cases h : r + 1 < 4503599627370496
  · rw [if_pos h, if_pos (by omega)]; omega
  · rw [if_neg h]
    by_cases h0 : r < 4503599627370496
    · obtain rfl : r = 4503599627370495 := by omega
      rw [if_pos h0]; decide
    · rw [if_neg h0]
      obtain ⟨q, f, hq, hf⟩ : ∃ q f, r = 4503599627370496 * q + f ∧ f < 4503599627370496 := ⟨r / 4503599627370496, r % 4503599627370496, (Nat.div_add_mod _ _).symm, Nat.mod_lt _ (by decide)⟩
      have e1 : r / 4503599627370496 = q := by omega
      have e2 : r % 4503599627370496 = f := by omega
      rw [e1, e2]
      obtain ⟨m, rfl⟩ : ∃ m, q = m + 1 := ⟨q - 1, by omega⟩
      have hp : 0 < 2 ^ m := Nat.two_pow_pos m
      by_cases hl : f + 1 = 4503599627370496
      · have e3 : (r + 1) / 4503599627370496 = m + 2 := by omega
        have e4 : (r + 1) % 4503599627370496 = 0 := by omega
        rw [e3, e4, show m + 2 - 1 = m + 1 from rfl, Nat.add_sub_cancel, Nat.pow_succ]
        generalize 2 ^ m = P at *
        have : f = 4503599627370495 := by omega
        subst this
        omega
      · have e3 : (r + 1) / 4503599627370496 = m + 1 := by omega
        have e4 : (r + 1) % 4503599627370496 = f + 1 := by omega
        rw [e3, e4]
        exact Nat.mul_lt_mul_of_pos_right (by omega) hp
theorem mg_mono {r s : Nat} (h : r < s) : mg r < mg s := by
  induction s with
  | zero => omega
  | succ s ih =>
    rcases Nat.lt_or_ge r s with h1 | h1
    · exact Nat.lt_trans (ih h1) (mg_step s)
    · obtain rfl : r = s := by omega
      exact mg_step r
theorem mg_0 : mg 0 = 0 := rfl
theorem mg_pos {r : Nat} (h : 0 < r) : 0 < mg r := by have := mg_mono h; rwa [mg_0] at this
theorem vp_mono {p q : Int} (h : p < q) : vp p < vp q := by
  unfold vp
  by_cases hp : p < 0
  · rw [if_pos hp]
    by_cases hq : q < 0
    · rw [if_pos hq]; have := mg_mono (r := q.natAbs) (s := p.natAbs) (by omega); omega
    · rw [if_neg hq]; have := mg_pos (r := p.natAbs) (by omega); omega
  · rw [if_neg hp, if_neg (by omega)]
    have := mg_mono (r := p.natAbs) (s := q.natAbs) (by omega); omega
theorem vp_lt {p q : Int} : vp p < vp q ↔ p < q := ⟨fun h => by
  rcases Int.lt_trichotomy p q with h1 | h1 | h1
  · exact h1
  · subst h1; omega
  · have := vp_mono h1; omega, vp_mono⟩
theorem vp_inj {p q : Int} : vp p = vp q ↔ p = q := ⟨fun h => by
  rcases Int.lt_trichotomy p q with h1 | h1 | h1
  · have := vp_mono h1; omega
  · exact h1
  · have := vp_mono h1; omega, fun h => by rw [h]⟩
theorem vp_neg (p : Int) : vp (-p) = -vp p := by
  unfold vp
  rcases Int.lt_trichotomy p 0 with h | h | h
  · rw [if_neg (by omega), if_pos h, Int.natAbs_neg, Int.neg_neg]
  · subst h; rfl
  · rw [if_pos (by omega), if_neg (by omega), Int.natAbs_neg]

/-- What a float stands for. -/
inductive FRd (b : Nat) : Prop
  | num (p : Int) (s : Bool) (m i : Nat) (hp : plc b = some p) (h1 : -9218868437227405312 < p) (h2 : p < 9218868437227405312) (hr : Ieee.double.read b = .number s m (-1074 + (i : Int))) (hv : (if s then -((m * 2 ^ i : Nat) : Int) else ((m * 2 ^ i : Nat) : Int)) = vp p) : FRd b
  | inf (s : Bool) (hp : plc b = some (if s then -9218868437227405312 else 9218868437227405312)) (hr : Ieee.double.read b = .infinity s) : FRd b
  | nan (s : Bool) (f : Nat) (hp : plc b = none) (hr : Ieee.double.read b = .nan s f) : FRd b

theorem vp_of {s : Bool} {r m : Nat} (hm : m = mg r) : (if s then -(m : Int) else (m : Int)) = vp (if s then -(r : Int) else (r : Int)) := by
  subst hm
  cases s
  · simp only [Bool.false_eq_true, if_false, vp]; rw [if_neg (by omega)]; simp
  · simp only [if_true]
    unfold vp
    by_cases h : r = 0
    · subst h; simp [mg_0]
    · rw [if_pos (by omega)]; simp
theorem read_f64 (b : Nat) : Ieee.double.read b = (if b % 9223372036854775808 < 4503599627370496 then .number (b / 9223372036854775808 % 2 == 1) (b % 9223372036854775808) (-1074)
    else if b % 9223372036854775808 < 9218868437227405312 then .number (b / 9223372036854775808 % 2 == 1) (4503599627370496 + b % 9223372036854775808 % 4503599627370496) (-1074 + ((b % 9223372036854775808 / 4503599627370496 - 1 : Nat) : Int))
    else if b % 9223372036854775808 = 9218868437227405312 then .infinity (b / 9223372036854775808 % 2 == 1) else .nan (b / 9223372036854775808 % 2 == 1) (b % 9223372036854775808 - 9218868437227405312)) := rfl
theorem frd (b : Nat) : FRd b := by
  have hr := read_f64 b
  obtain ⟨s, hs⟩ : ∃ s : Bool, (b / 9223372036854775808 % 2 == 1) = s := ⟨_, rfl⟩
  obtain ⟨r, er⟩ : ∃ r, b % 9223372036854775808 = r := ⟨_, rfl⟩
  have hp : r ≤ 9218868437227405312 → plc b = some (if s then -(r : Int) else (r : Int)) := fun h => by
    unfold plc
    rw [er, if_pos h]
    cases s
    · rw [if_neg (by simpa using hs)]; rfl
    · rw [if_pos (by simpa using hs)]; rfl
  rw [hs, er] at hr
  by_cases h1 : r < 4503599627370496
  · rw [if_pos h1] at hr
    exact .num _ s r 0 (hp (by omega)) (by cases s <;> simp <;> omega) (by cases s <;> simp <;> omega) hr (by rw [Nat.pow_zero, Nat.mul_one]; exact vp_of (by unfold mg; rw [if_pos h1]))
  · rw [if_neg h1] at hr
    by_cases h2 : r < 9218868437227405312
    · rw [if_pos h2] at hr
      exact .num _ s _ _ (hp (by omega)) (by cases s <;> simp <;> omega) (by cases s <;> simp <;> omega) hr (vp_of (by unfold mg; rw [if_neg h1]))
    · rw [if_neg h2] at hr
      by_cases h3 : r = 9218868437227405312
      · rw [if_pos h3] at hr
        refine .inf s ?_ hr
        rw [hp (by omega), h3]; cases s <;> rfl
      · rw [if_neg h3] at hr
        refine .nan s _ ?_ hr
        unfold plc
        rw [er, if_neg (by omega)]

/-- The order of floats is that of their places. -/
def ordP : Option Int → Option Int → Option Ordering
  | some p, some q => some (compare p q)
  | _, _ => none
theorem cmp_int {a b c d : Int} (h1 : a < b ↔ c < d) (h2 : a = b ↔ c = d) : compare a b = compare c d := by
  show compareOfLessAndEq a b = compareOfLessAndEq c d
  unfold compareOfLessAndEq
  by_cases h : a < b
  · rw [if_pos h, if_pos (h1.1 h)]
  · rw [if_neg h, if_neg (fun h' => h (h1.2 h'))]
    by_cases h' : a = b
    · rw [if_pos h', if_pos (h2.1 h')]
    · rw [if_neg h', if_neg (fun h'' => h' (h2.2 h''))]
theorem signed_val (s : Bool) (m k : Nat) : Ieee.signed s m k = if s then -((m * 2 ^ k : Nat) : Int) else ((m * 2 ^ k : Nat) : Int) := by
  unfold Ieee.signed
  rw [Nat.shiftLeft_eq]
theorem scaled (s : Bool) (m i b : Nat) (h : b ≤ i) : Ieee.signed s m (i - b) * ((2 ^ b : Nat) : Int) = if s then -((m * 2 ^ i : Nat) : Int) else ((m * 2 ^ i : Nat) : Int) := by
  rw [signed_val]
  have e : m * 2 ^ i = m * 2 ^ (i - b) * 2 ^ b := by rw [Nat.mul_assoc, ← Nat.pow_add, Nat.sub_add_cancel h]
  rw [e]
  cases s
  · simp
  · simp [Int.neg_mul]
theorem order_plc (x y : Nat) : Ieee.double.order x y = ordP (plc x) (plc y) := by
  show (Ieee.double.read x).order (Ieee.double.read y) = _
  cases frd x with
  | nan s f hp hr => rw [hp, hr]; rfl
  | inf s hp hr =>
    rw [hp, hr]
    cases frd y with
    | nan t g hq hr' => rw [hq, hr']; rfl
    | inf t hq hr' => rw [hq, hr']; cases s <;> cases t <;> decide
    | num q t n j hq h3 h4 hr' hv' =>
      rw [hq, hr']
      simp only [Ieee.Datum.order, ordP]
      congr 1
      cases s
      · rw [if_neg (by decide)]; simp only [Bool.false_eq_true, if_false]
        show _ = compareOfLessAndEq _ _
        unfold compareOfLessAndEq
        rw [if_neg (by omega), if_neg (by omega)]
      · rw [if_pos rfl]; simp only [if_true]
        show _ = compareOfLessAndEq _ _
        unfold compareOfLessAndEq
        rw [if_pos (by omega)]
  | num p s m i hp h1 h2 hr hv =>
    rw [hp, hr]
    cases frd y with
    | nan t g hq hr' => rw [hq, hr']; rfl
    | inf t hq hr' =>
      rw [hq, hr']
      simp only [Ieee.Datum.order, ordP]
      congr 1
      cases t
      · rw [if_neg (by decide)]; simp only [Bool.false_eq_true, if_false]
        show _ = compareOfLessAndEq _ _
        unfold compareOfLessAndEq
        rw [if_pos (by omega)]
      · rw [if_pos rfl]; simp only [if_true]
        show _ = compareOfLessAndEq _ _
        unfold compareOfLessAndEq
        rw [if_neg (by omega), if_neg (by omega)]
    | num q t n j hq h3 h4 hr' hv' =>
      rw [hq, hr']
      simp only [Ieee.Datum.order, ordP]
      congr 1
      obtain ⟨k, hk⟩ : ∃ k, min i j = k := ⟨_, rfl⟩
      have e1 : (-1074 + (i : Int) - min (-1074 + (i : Int)) (-1074 + (j : Int))).toNat = i - k := by omega
      have e2 : (-1074 + (j : Int) - min (-1074 + (i : Int)) (-1074 + (j : Int))).toNat = j - k := by omega
      rw [e1, e2]
      have s1 := scaled s m i k (by omega)
      have s2 := scaled t n j k (by omega)
      rw [hv] at s1
      rw [hv'] at s2
      have hP : (0 : Int) < ((2 ^ k : Nat) : Int) := by have := Nat.two_pow_pos k; omega
      generalize ((2 ^ k : Nat) : Int) = P at s1 s2 hP
      generalize Ieee.signed s m (i - k) = X at s1 ⊢
      generalize Ieee.signed t n (j - k) = Y at s2 ⊢
      refine cmp_int ?_ ?_
      · rw [← vp_lt (p := p) (q := q), ← s1, ← s2]
        exact ⟨fun h => Int.mul_lt_mul_of_pos_right h hP, fun h => Int.lt_of_mul_lt_mul_right h (Int.le_of_lt hP)⟩
      · rw [← vp_inj (p := p) (q := q), ← s1, ← s2]
        exact ⟨fun h => by rw [h], fun h => Int.eq_of_mul_eq_mul_right (by omega) h⟩
end Go.Proofs.YtgalppimdmjdcaaGreat
