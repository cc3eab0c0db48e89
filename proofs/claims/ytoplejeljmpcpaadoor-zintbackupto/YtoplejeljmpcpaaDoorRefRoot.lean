/-
  The document's Root: bit by bit from the top.
-/
import Derived.Test.YtoplejeljmpcpaaDoorSetP
import Derived.Test.YtoplejeljmpcpaaDoorRootMath
import Derived.Test.YtoplejeljmpcpaaDoorRoot
import Derived.Deep.LoopGhost
namespace Go.Proofs.YtoplejeljmpcpaaDoor
open Go.RowKit Nt
set_option linter.unusedSimpArgs false
set_option linter.unusedVariables false
set_option maxRecDepth 20000

/-- What the loop keeps: the root's bits from the k-th on. -/
def RB (X k R : Nat) : Prop := R * R ≤ X ∧ X < (R + 2 ^ k) * (R + 2 ^ k)
theorem rb_yes {X k R : Nat} (h : RB X (k + 1) R) (hc : (R + 2 ^ k) * (R + 2 ^ k) ≤ X) : RB X k (R + 2 ^ k) := by
  refine ⟨hc, ?_⟩
  have := h.2
  rw [show R + 2 ^ (k + 1) = R + 2 ^ k + 2 ^ k from by rw [Nat.pow_succ]; omega] at this
  exact this
theorem rb_no {X k R : Nat} (h : RB X (k + 1) R) (hc : X < (R + 2 ^ k) * (R + 2 ^ k)) : RB X k R := ⟨h.1, hc⟩
theorem rb_start {X n : Nat} (h : Go.bitLen X ≤ 2 * n) : RB X (n + 1) 0 := by
  refine ⟨by omega, ?_⟩
  rw [Nat.zero_add, ← Nat.pow_add]
  exact Nat.lt_of_lt_of_le (bitLen_spec X).1 (Nat.pow_le_pow_right (by omega) (by omega))
theorem rb_end {X R : Nat} (h : RB X 0 R) : IsRoot X R := h
theorem sq_lt {R X n : Nat} (h : R * R ≤ X) (hX : X < 2 ^ (2 * n)) : R < 2 ^ n := by
  apply Classical.byContradiction
  intro hc
  have h1 : 2 ^ n * 2 ^ n ≤ R * R := Nat.mul_le_mul (by omega) (by omega)
  rw [← Nat.pow_add, show n + n = 2 * n from by omega] at h1
  omega
/-- How many limbs the next try has. -/
theorem rb_len {R X n k : Nat} (h : R * R ≤ X) (hX : Go.bitLen X ≤ 2 * n) (hk : k ≤ n) : (digs (R + 2 ^ k)).length ≤ n / 32 + 1 := by
  have h1 := sq_lt h (Nat.lt_of_lt_of_le (bitLen_spec X).1 (Nat.pow_le_pow_right (by omega) hX))
  have h2 : 2 ^ k ≤ 2 ^ n := Nat.pow_le_pow_right (by omega) hk
  refine len_of_bits (b := n + 1) ?_ (by omega)
  rw [Nat.pow_succ]
  omega

end Go.Proofs.YtoplejeljmpcpaaDoor
