/-
  nat.Mul.
-/
import Derived.Test.YtnjepeijihmemaaDoorAddTimes
namespace Go.Proofs.YtnjepeijihmemaaDoor
open Go.RowKit Nt
set_option linter.unusedSimpArgs false
set_option linter.unusedVariables false

/-- One row of the product more. -/
theorem mul_step {A B R mid' : List Nat} {k lb cy a : Nat} (hk : k < A.length) (hR : R.length = k + lb) (ha : A.getD k 0 = a) (hm : mid'.length = lb)
    (hv : val R = val (A.take k) * val B) (hz : val mid' + 4294967296 ^ lb * cy = val (R.drop k) + val B * a) : val (R.take k ++ mid' ++ [cy]) = val (A.take (k + 1)) * val B := by
  have e1 := val_split R k (by omega)
  have e2 : (R.take k).length = k := by simp; omega
  rw [val_take_succ A k hk, ha, Nat.add_mul, ← hv, e1, val_append, val_append, val_one, List.length_append, e2, hm, Nat.pow_add]
  have h2 : 4294967296 ^ k * (val mid' + 4294967296 ^ lb * cy) = 4294967296 ^ k * (val (R.drop k) + val B * a) := by rw [hz]
  rw [Nat.mul_add, Nat.mul_add, ← Nat.mul_assoc] at h2
  have h3 : 4294967296 ^ k * a * val B = 4294967296 ^ k * (val B * a) := by rw [Nat.mul_assoc, Nat.mul_comm a]
  rw [h3]
  omega

end Go.Proofs.YtnjepeijihmemaaDoor
