import Derived.Test.YtgalppimdmjdcabGreatDoorFlC
import Derived.Test.YtgalppimdmjdcabGreatDoorSetS
import Derived.Laws.StructEq
import Derived.Test.YtgalppimdmjdcabGreatDoorBits
/-
  How floats and intervals stand to one another and to rationals, by places.
-/
namespace Go.Proofs.YtgalppimdmjdcabGreatDoor
open Go Go.RowKit Nt
set_option linter.unusedSimpArgs false
set_option linter.unusedVariables false
set_option maxRecDepth 20000

theorem lt_t {p q : Int} (h : p < q) : (ordP (some p) (some q) == some .lt) = true := by simp only [ordP]; rw [cmp_lt, decide_eq_true h]
theorem lt_f {p q : Int} (h : ¬ p < q) : (ordP (some p) (some q) == some .lt) = false := by simp only [ordP]; rw [cmp_lt, decide_eq_false h]
theorem gt_t {p q : Int} (h : q < p) : (ordP (some p) (some q) == some .gt) = true := by simp only [ordP]; rw [cmp_gt, decide_eq_true h]
theorem gt_f {p q : Int} (h : ¬ q < p) : (ordP (some p) (some q) == some .gt) = false := by simp only [ordP]; rw [cmp_gt, decide_eq_false h]
theorem eq_t {p q : Int} (h : p = q) : (ordP (some p) (some q) == some .eq) = true := by simp only [ordP]; rw [cmp_eq, decide_eq_true h]
theorem eq_f {p q : Int} (h : ¬ p = q) : (ordP (some p) (some q) == some .eq) = false := by simp only [ordP]; rw [cmp_eq, decide_eq_false h]

/-- How the float at a place stands to A by D. -/
def agP (p A : Int) (D : Nat) : Int := if -9218868437227405312 < p ∧ p < 9218868437227405312 then (vp p * (D : Int) - A * (uF : Int)).sign else if p < 0 then -1 else 1
/-- Whether an interval holds A by D. -/
def hoB (px py A : Int) (D : Nat) : Bool := if agP px A D ≤ 0 then decide (0 ≤ agP py A D) else false
theorem uF_no : uF ≠ 0 := Nat.pos_iff_ne_zero.1 uF_pos
theorem sign_mulP {g X : Int} (h : 0 < g) : (g * X).sign = X.sign := by rw [Int.sign_mul, Int.sign_eq_one_of_pos h, Int.one_mul]
theorem ag_fin {p A : Int} {D : Nat} (h : Fin p) : (nR (vp p) uF * (D : Int) - A * ((dR (vp p) uF : Nat) : Int)).sign = agP p A D := by
  unfold agP
  unfold Fin at h
  rw [if_pos h]
  have h1 := g_nR (vp p) uF
  have h2 : ((Nat.gcd (vp p).natAbs uF : Nat) : Int) * (dR (vp p) uF : Int) = (uF : Int) := by rw [← Int.natCast_mul, g_dR]
  have hg : (0 : Int) < ((Nat.gcd (vp p).natAbs uF : Nat) : Int) := by have := Nat.gcd_pos_of_pos_right (vp p).natAbs uF_pos; omega
  rw [← sign_mulP (X := nR (vp p) uF * (D : Int) - A * ((dR (vp p) uF : Nat) : Int)) hg]
  congr 1
  generalize ((Nat.gcd (vp p).natAbs uF : Nat) : Int) = g at *
  generalize ((dR (vp p) uF : Nat) : Int) = d at *
  generalize nR (vp p) uF = n at *
  rw [← h1, ← h2]
  grind
theorem ag_fin' {p A : Int} {D : Nat} (h : Fin p) : (A * ((dR (vp p) uF : Nat) : Int) - nR (vp p) uF * (D : Int)).sign = -agP p A D := by
  rw [← ag_fin h, ← Int.sign_neg, Int.neg_sub]
theorem ag_neg {p A : Int} {D : Nat} (h : ¬ Fin p) (h' : p < 0) : -1 = agP p A D := by unfold agP; unfold Fin at h; rw [if_neg h, if_pos h']
theorem ag_pos {p A : Int} {D : Nat} (h : ¬ Fin p) (h' : 0 ≤ p) : 1 = agP p A D := by unfold agP; unfold Fin at h; rw [if_neg h, if_neg (by omega)]
theorem sgn_pos {D : Nat} (h : D ≠ 0) : 0 < ((D : Nat) : Int).sign := by rw [Int.sign_eq_one_of_pos (by omega)]; decide
theorem sgn_not {D : Int} (h : D ≤ 0) : D.sign ≤ 0 := by
  rcases Int.lt_or_eq_of_le h with h | rfl
  · rw [Int.sign_eq_neg_one_of_neg h]; decide
  · decide
end Go.Proofs.YtgalppimdmjdcabGreatDoor

/-
  The greatest float that is not above a number: by the top bits of a quotient.
-/
namespace Go.Proofs.YtgalppimdmjdcabGreatDoor
open Go Go.RowKit Nt
set_option linter.unusedSimpArgs false
set_option linter.unusedVariables false
set_option maxRecDepth 20000

/-- The greatest finite place whose float is not above N by M, and whether it is that number. -/
structure IsFl (N M r : Nat) (a : Bool) : Prop where
  le : r ≤ 9218868437227405311
  lo : mg r * M ≤ N * uF
  hi : r < 9218868437227405311 → N * uF < mg (r + 1) * M
  eq : a = decide (mg r * M = N * uF)
theorem IsFl.one {N M r r' : Nat} {a a' : Bool} (h : IsFl N M r a) (h' : IsFl N M r' a') : r = r' ∧ a = a' := by
  have key : ∀ {r r' : Nat} {a a' : Bool}, IsFl N M r a → IsFl N M r' a' → ¬ r < r' := fun {r r' a a'} h h' hc => by
    have h1 := h.hi (by have := h'.le; omega)
    have h2 := h'.lo
    have h3 := Nat.mul_le_mul_right M (mg_le (show r + 1 ≤ r' by omega))
    omega
  have hr : r = r' := by have := key h h'; have := key h' h; omega
  subst hr
  exact ⟨rfl, h.eq.trans h'.eq.symm⟩
theorem isfl_pair {N M L K : Nat} (hM : M ≠ 0) (hK : K < 9007199254740992) (hL : L = 0 ∨ 4503599627370496 ≤ K) (h1 : K * 2 ^ L * M ≤ N * uF) (h2 : N * uF < (K + 1) * 2 ^ L * M) :
    (L * 4503599627370496 + K < 9218868437227405312 → IsFl N M (L * 4503599627370496 + K) (decide (K * 2 ^ L * M = N * uF))) ∧ (9218868437227405312 ≤ L * 4503599627370496 + K → IsFl N M 9218868437227405311 false) := by
  have e := mg_form (L := L) (K := K) (by omega) hL
  refine ⟨fun hP => ⟨by omega, by rw [e]; exact h1, fun _ => ?_, by rw [e]⟩, fun hP => ?_⟩
  · rw [show L * 4503599627370496 + K + 1 = L * 4503599627370496 + (K + 1) by omega, mg_form (by omega) (by omega)]; exact h2
  · have h3 := mg_mono (r := 9218868437227405311) (s := L * 4503599627370496 + K) (by omega)
    have h4 := Nat.mul_lt_mul_of_pos_right h3 (show 0 < M by omega)
    rw [e] at h4
    have h5 : mg 9218868437227405311 * M < N * uF := Nat.lt_of_lt_of_le h4 h1
    generalize mg 9218868437227405311 * M = Z at h5
    refine ⟨by omega, Nat.le_of_lt ?_, fun h => by omega, ?_⟩
    · exact Nat.lt_of_lt_of_le (Nat.mul_lt_mul_of_pos_right h3 (show 0 < M by omega)) (by rw [e]; exact h1)
    · have h6 := Nat.lt_of_lt_of_le (Nat.mul_lt_mul_of_pos_right h3 (show 0 < M by omega)) (show mg (L * 4503599627370496 + K) * M ≤ N * uF by rw [e]; exact h1)
      exact (decide_eq_false (Nat.ne_of_lt h6)).symm
/-- The quotient by so many units, and whether that is all. -/
def ctQ (N M L : Nat) : Nat := N * uF / (M * 2 ^ L)
def ctR (N M L : Nat) : Bool := decide (N * uF % (M * 2 ^ L) = 0)
theorem ct_fl {N M L : Nat} (hM : M ≠ 0) : ctQ N M L * 2 ^ L * M ≤ N * uF ∧ N * uF < (ctQ N M L + 1) * 2 ^ L * M ∧ ctR N M L = decide (ctQ N M L * 2 ^ L * M = N * uF) := by
  have hp : 0 < M * 2 ^ L := Nat.mul_pos (by omega) (Nat.two_pow_pos L)
  have e1 := Nat.div_add_mod (N * uF) (M * 2 ^ L)
  have e2 := Nat.mod_lt (N * uF) hp
  unfold ctR
  have e3 : ctQ N M L * 2 ^ L * M = (M * 2 ^ L) * ctQ N M L := by rw [Nat.mul_assoc, Nat.mul_comm (2 ^ L) M, Nat.mul_comm]
  have e4 : (ctQ N M L + 1) * 2 ^ L * M = (M * 2 ^ L) * ctQ N M L + M * 2 ^ L := by rw [Nat.mul_assoc, Nat.mul_comm (2 ^ L) M, Nat.mul_comm, Nat.mul_add, Nat.mul_one]
  rw [e3, e4]
  have e5 : N * uF / (M * 2 ^ L) = ctQ N M L := rfl
  rw [e5] at e1
  refine ⟨by omega, by omega, decide_eq_decide.2 (by omega)⟩
theorem ct_isfl {N M L : Nat} (hM : M ≠ 0) (hK : ctQ N M L < 9007199254740992) (hL : L = 0 ∨ 4503599627370496 ≤ ctQ N M L) :
    (L * 4503599627370496 + ctQ N M L < 9218868437227405312 → IsFl N M (L * 4503599627370496 + ctQ N M L) (ctR N M L)) ∧ (9218868437227405312 ≤ L * 4503599627370496 + ctQ N M L → IsFl N M 9218868437227405311 false) := by
  obtain ⟨h1, h2, h3⟩ := ct_fl (N := N) (L := L) hM
  have := isfl_pair hM hK hL h1 h2
  rwa [← h3] at this
theorem ct_step (N M L : Nat) : ctQ N M (L + 1) = ctQ N M L / 2 := by
  unfold ctQ
  rw [Nat.pow_succ, ← Nat.mul_assoc, Nat.div_div_eq_div_mul]
theorem pw2_at (n : Nat) : 2 ^ n = pw2 n := rfl
theorem uF_at {a : Nat} (h : a = 1074) : uF = 2 ^ a := by rw [pw2_at, h]; rfl
theorem two_pow_mul (a b : Nat) : 2 ^ a * 2 ^ b = 2 ^ (a + b) := (Nat.pow_add 2 a b).symm
theorem ct_neg {N M k L : Nat} (h : L + k = 1074) : N * 2 ^ k / M = ctQ N M L ∧ decide (N * 2 ^ k % M = 0) = ctR N M L := by
  have e : N * uF = (N * 2 ^ k) * 2 ^ L := by rw [Nat.mul_assoc, two_pow_mul, uF_at (show k + L = 1074 by omega)]
  unfold ctQ ctR
  rw [e, Nat.mul_div_mul_right _ _ (Nat.two_pow_pos L), Nat.mul_mod_mul_right]
  refine ⟨rfl, decide_eq_decide.2 ⟨fun h => by rw [h, Nat.zero_mul], fun h => ?_⟩⟩
  rcases Nat.mul_eq_zero.1 h with h | h
  · exact h
  · have := Nat.two_pow_pos L; omega
theorem bitLen_z (n : Nat) : Go.bitLen n = 0 ↔ n = 0 := ⟨fun h => by have := (bitLen_spec n).1; rw [h] at this; omega, fun h => by subst h; rfl⟩
theorem bl_lo {n : Nat} (h : n ≠ 0) : 2 ^ (Go.bitLen n - 1) ≤ n := (bitLen_spec n).2 h
theorem bl_hi (n : Nat) : n < 2 ^ Go.bitLen n := (bitLen_spec n).1
theorem bl_gt {n k : Nat} : k < Go.bitLen n ↔ 2 ^ k ≤ n := by
  constructor
  · intro h
    have h0 : n ≠ 0 := fun e => by rw [(bitLen_z n).2 e] at h; omega
    exact Nat.le_trans (Nat.pow_le_pow_right (by decide) (by omega)) (bl_lo h0)
  · intro h
    apply Classical.byContradiction
    intro hc
    have := bl_hi n
    have := Nat.pow_le_pow_right (n := 2) (by decide) (show Go.bitLen n ≤ k by omega)
    omega
/-- The quotient at the first guess of the place. -/
theorem ct_guess {N M L : Nat} (hN : N ≠ 0) (hM : M ≠ 0) (hL : L + Go.bitLen M + 53 = Go.bitLen N + 1074) : 4503599627370496 ≤ ctQ N M L ∧ ctQ N M L < 18014398509481984 := by
  have n1 := bl_lo hN
  have n2 := bl_hi N
  have m1 := bl_lo hM
  have m2 := bl_hi M
  have bn : Go.bitLen N ≠ 0 := fun e => hN ((bitLen_z N).1 e)
  have bm : Go.bitLen M ≠ 0 := fun e => hM ((bitLen_z M).1 e)
  have hp : 0 < M * 2 ^ L := Nat.mul_pos (by omega) (Nat.two_pow_pos L)
  unfold ctQ
  constructor
  · rw [Nat.le_div_iff_mul_le hp]
    refine Nat.le_trans (Nat.mul_le_mul_left _ (Nat.mul_le_mul_right _ (Nat.le_of_lt m2))) ?_
    rw [show (4503599627370496 : Nat) = 2 ^ 52 from rfl, two_pow_mul, two_pow_mul]
    refine Nat.le_trans ?_ (Nat.mul_le_mul_right uF n1)
    rw [pow_uF]
    exact Nat.pow_le_pow_right (by decide) (by omega)
  · rw [Nat.div_lt_iff_lt_mul hp]
    refine Nat.lt_of_lt_of_le (Nat.mul_lt_mul_of_pos_right n2 uF_pos) ?_
    refine Nat.le_trans ?_ (Nat.mul_le_mul_left _ (Nat.mul_le_mul_right _ m1))
    rw [show (18014398509481984 : Nat) = 2 ^ 54 from rfl, pow_uF, two_pow_mul, two_pow_mul]
    exact Nat.pow_le_pow_right (by decide) (by omega)
theorem ct_small {N M : Nat} (hM : M ≠ 0) (hL : Go.bitLen N + 1074 < Go.bitLen M + 53) : ctQ N M 0 < 9007199254740992 := by
  have n2 := bl_hi N
  have m1 := bl_lo hM
  have bm : Go.bitLen M ≠ 0 := fun e => hM ((bitLen_z M).1 e)
  unfold ctQ
  rw [Nat.pow_zero, Nat.mul_one, Nat.div_lt_iff_lt_mul (by omega)]
  refine Nat.lt_of_lt_of_le (Nat.mul_lt_mul_of_pos_right n2 uF_pos) ?_
  refine Nat.le_trans ?_ (Nat.mul_le_mul_left _ m1)
  rw [show (9007199254740992 : Nat) = 2 ^ 53 from rfl, pow_uF, two_pow_mul]
  exact Nat.pow_le_pow_right (by decide) (by omega)
/-- The top bits of the quotient behind so many places. -/
theorem tp_ct {N M s E L : Nat} (h : L + s = E + 1074) : N * 2 ^ s / M / 2 ^ E = ctQ N M L ∧ (decide (N * 2 ^ s / M % 2 ^ E = 0) && decide (N * 2 ^ s % M = 0)) = ctR N M L := by
  have key : ∀ a b c : Nat, (decide (a / b % c = 0) && decide (a % b = 0)) = decide (a % (b * c) = 0) := fun a b c => by
    rw [← Bool.decide_and]
    refine decide_eq_decide.2 ?_
    rw [Nat.mod_mul]
    constructor
    · rintro ⟨h1, h2⟩; rw [h1, h2]; simp
    · intro h3
      have h4 : a % b = 0 := by omega
      have h5 : b * (a / b % c) = 0 := by omega
      rcases Nat.mul_eq_zero.1 h5 with h6 | h6
      · subst h6
        rw [Nat.mod_zero] at h4
        subst h4
        simp
      · exact ⟨h6, h4⟩
  rw [Nat.div_div_eq_div_mul, key]
  by_cases hs : s ≤ 1074
  · obtain ⟨j, hj⟩ : ∃ j, s + j = 1074 := ⟨1074 - s, by omega⟩
    have e1 : N * uF = N * 2 ^ s * 2 ^ j := by rw [Nat.mul_assoc, two_pow_mul, uF_at hj]
    have e2 : M * 2 ^ L = M * 2 ^ E * 2 ^ j := by rw [Nat.mul_assoc, two_pow_mul, show L = E + j by omega]
    unfold ctQ ctR
    rw [e1, e2, Nat.mul_div_mul_right _ _ (Nat.two_pow_pos j), Nat.mul_mod_mul_right]
    refine ⟨rfl, decide_eq_decide.2 ⟨fun h => by rw [h, Nat.zero_mul], fun h => ?_⟩⟩
    rcases Nat.mul_eq_zero.1 h with h | h
    · exact h
    · have := Nat.two_pow_pos j; omega
  · obtain ⟨j, rfl⟩ : ∃ j, s = 1074 + j := ⟨s - 1074, by omega⟩
    have e1 : N * 2 ^ (1074 + j) = N * uF * 2 ^ j := by rw [Nat.mul_assoc, Nat.mul_comm uF, pow_uF, Nat.add_comm]
    have e2 : M * 2 ^ E = M * 2 ^ L * 2 ^ j := by rw [Nat.mul_assoc, two_pow_mul, show E = L + j by omega]
    unfold ctQ ctR
    rw [e1, e2, Nat.mul_div_mul_right _ _ (Nat.two_pow_pos j), Nat.mul_mod_mul_right]
    refine ⟨rfl, decide_eq_decide.2 ⟨fun h => ?_, fun h => by rw [h, Nat.zero_mul]⟩⟩
    rcases Nat.mul_eq_zero.1 h with h | h
    · exact h
    · have := Nat.two_pow_pos j; omega
/-- The ends of the interval about a number of that sign. -/
def ivL (neg : Bool) (r : Nat) (a : Bool) : Int := if neg then -((if a then r else r + 1 : Nat) : Int) else (r : Int)
def ivH (neg : Bool) (r : Nat) (a : Bool) : Int := if neg then -(r : Int) else ((if a then r else r + 1 : Nat) : Int)
end Go.Proofs.YtgalppimdmjdcabGreatDoor
