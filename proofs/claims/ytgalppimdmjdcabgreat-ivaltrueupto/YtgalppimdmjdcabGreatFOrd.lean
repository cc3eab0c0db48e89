/-
  How floats and intervals stand to one another and to rationals, by places.
-/
import Derived.Test.YtgalppimdmjdcabGreatFlC
import Derived.Test.YtgalppimdmjdcabGreatSetS
import Derived.Laws.StructEq
namespace Go.Proofs.YtgalppimdmjdcabGreat
open Go Go.RowKit Nt
set_option linter.unusedSimpArgs false
set_option linter.unusedVariables false
set_option maxRecDepth 20000

theorem lt_t {p q : Int} (h : p < q) : (ordP (some p) (some q) == some .lt) = true := by simp only [ordP]; rw [cmp_lt, decide_eq_true h]
theorem lt_f {p q : Int} (h : ¬ p < q) : (ordP (some p) (some q) == some .lt) = false := by simp only [ordP]; rw [cmp_lt, decide_eq_false h]
theorem gt_t {p q : Int} (h : q < p) : (ordP (some p) (some q) == some .gt) = true := by simp only [ordP]; rw [cmp_gt, decide_eq_true h]
theorem gt_f {p q : Int} (h : ¬ q < p) : (ordP (some p) (some q) == some .gt) = false := by simp only [ordP]; rw [cmp_gt, decide_eq_false h]
theorem le_t {p q : Int} (h : p ≤ q) : (ordP (some p) (some q) == some .lt || ordP (some p) (some q) == some .eq) = true := by simp only [ordP]; rw [cmp_lt, cmp_eq]; simp; omega
theorem le_f {p q : Int} (h : q < p) : (ordP (some p) (some q) == some .lt || ordP (some p) (some q) == some .eq) = false := by simp only [ordP]; rw [cmp_lt, cmp_eq]; simp; omega
theorem ge_t {p q : Int} (h : q ≤ p) : (ordP (some p) (some q) == some .gt || ordP (some p) (some q) == some .eq) = true := by simp only [ordP]; rw [cmp_gt, cmp_eq]; simp; omega
theorem ge_f {p q : Int} (h : p < q) : (ordP (some p) (some q) == some .gt || ordP (some p) (some q) == some .eq) = false := by simp only [ordP]; rw [cmp_gt, cmp_eq]; simp; omega
theorem eq_t {p q : Int} (h : p = q) : (ordP (some p) (some q) == some .eq) = true := by simp only [ordP]; rw [cmp_eq, decide_eq_true h]
theorem eq_f {p q : Int} (h : ¬ p = q) : (ordP (some p) (some q) == some .eq) = false := by simp only [ordP]; rw [cmp_eq, decide_eq_false h]

/-- How the float at a place stands to A by D. -/
def agP (p A : Int) (D : Nat) : Int := if -9218868437227405312 < p ∧ p < 9218868437227405312 then (vp p * (D : Int) - A * (uF : Int)).sign else if p < 0 then -1 else 1
/-- How two intervals stand, and whether that is sure. -/
def cmN (px py qx qy : Int) : Int := if py < qx then -1 else if qy < px then 1 else 0
def cmS (px py qx qy : Int) : Bool := if py < qx then true else if qy < px then true else decide (px = qx ∧ py = qy ∧ px = py ∧ -9218868437227405312 < px ∧ px < 9218868437227405312)
/-- Whether an interval holds A by D. -/
def hoB (px py A : Int) (D : Nat) : Bool := if agP px A D ≤ 0 then decide (0 ≤ agP py A D) else false
theorem uF_no : uF ≠ 0 := Nat.pos_iff_ne_zero.1 uF_pos
theorem sign_mulP {g X : Int} (h : 0 < g) : (g * X).sign = X.sign := by rw [Int.sign_mul, Int.sign_eq_one_of_pos h, Int.one_mul]
theorem ag_fin {p A : Int} {D : Nat} (h : Fin p) : (nR (vp p) uF * (D : Int) - A * ((dR (vp p) uF : Nat) : Int)).sign = agP p A D := by
  unfold agP
  unfold Fin at h
  rw [if_pos h]
  have h1 := g_nR (vp p) uF
  have h2 : ((Nat.gcd (vp p).natAbs uF : Nat) : Int) * (dR (vp p) uF : Int) = (uF : Int) := by rw [← Int.natCast_mul, g_dR]
  have hg : (0 : Int) < ((Nat.gcd (vp p).natAbs uF : Nat) : Int) := by have := Nat.gcd_pos_of_pos_right (vp p).natAbs uF_pos; omega
  rw [← sign_mulP (X := nR (vp p) uF * (D : Int) - A * ((dR (vp p) uF : Nat) : Int)) hg]
  congr 1
  generalize ((Nat.gcd (vp p).natAbs uF : Nat) : Int) = g at *
  generalize ((dR (vp p) uF : Nat) : Int) = d at *
  generalize nR (vp p) uF = n at *
  rw [← h1, ← h2]
  grind
theorem ag_fin' {p A : Int} {D : Nat} (h : Fin p) : (A * ((dR (vp p) uF : Nat) : Int) - nR (vp p) uF * (D : Int)).sign = -agP p A D := by
  rw [← ag_fin h, ← Int.sign_neg, Int.neg_sub]
theorem ag_neg {p A : Int} {D : Nat} (h : ¬ Fin p) (h' : p < 0) : -1 = agP p A D := by unfold agP; unfold Fin at h; rw [if_neg h, if_pos h']
theorem ag_pos {p A : Int} {D : Nat} (h : ¬ Fin p) (h' : 0 ≤ p) : 1 = agP p A D := by unfold agP; unfold Fin at h; rw [if_neg h, if_neg (by omega)]
/-- Two intervals are the same, if their ends are. -/
theorem run_eql_iv (ρ : Operand → Value) (o : Oper) (x y : Operand) (w : World) (a b c d : Nat) (h1 : ρ x = .agg #[.float .f64 a, .float .f64 b]) (h2 : ρ y = .agg #[.float .f64 c, .float .f64 d]) : (execOp ρ { o with op := .binOp .eql 24 x y 24 }).run Tryz.prog w = .ok (.value (.bool (ordP (plc a) (plc c) == some .eq && ordP (plc b) (plc d) == some .eq))) w := by
  have f1 := fo_plc a c
  have f2 := fo_plc b d
  have e1 : ∀ d' (a c : Nat) w', (Op.equalIn (d' + 1) 22 (.float .f64 a) (.float .f64 c)).run Tryz.prog w' = .ok (ordP (plc a) (plc c) == some .eq) w' := fun d' a c w' => by
    have f1 := fo_plc a c
    simp [Op.equalIn, run_underlying Tryz.underlying22, Op.floatEq, f1]
  unfold execOp
  go_simp
  by_cases g1 : ordP (plc a) (plc c) = some Ordering.eq <;> by_cases g2 : ordP (plc b) (plc d) = some Ordering.eq <;> simp [g1, g2]
theorem run_eql_ivt (ρ : Operand → Value) (o : Oper) (x y : Operand) (w : World) (a b c d : Nat) {t : Bool} (ht : (ordP (plc a) (plc c) == some .eq && ordP (plc b) (plc d) == some .eq) = t) (h1 : ρ x = .agg #[.float .f64 a, .float .f64 b]) (h2 : ρ y = .agg #[.float .f64 c, .float .f64 d]) : (execOp ρ { o with op := .binOp .eql 24 x y 24 }).run Tryz.prog w = .ok (.value (.bool t)) w := by
  rw [← ht]; exact run_eql_iv ρ o x y w a b c d h1 h2
theorem ix_is {x y : Nat} : ∀ v w, SF [Is (.float .f64 x), Is (.float .f64 y)] v w → Is (.agg #[.float .f64 x, .float .f64 y]) v w := fun v w h => ix_eq h
end Go.Proofs.YtgalppimdmjdcabGreat
