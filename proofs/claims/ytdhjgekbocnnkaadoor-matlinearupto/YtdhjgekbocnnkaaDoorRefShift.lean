/-
  The document's own answers: Two, Shl, Shr.
-/
import Derived.Test.YtdhjgekbocnnkaaDoorSetU
import Derived.Test.YtdhjgekbocnnkaaDoorSetC
namespace Go.Proofs.YtdhjgekbocnnkaaDoor
open Go.RowKit Nt
set_option linter.unusedSimpArgs false
set_option linter.unusedVariables false
set_option maxRecDepth 20000

theorem len_of_bits {v b K : Nat} (hv : v < 2 ^ b) (hb : b ≤ 32 * K) : (digs v).length ≤ K := by
  apply digs_length_le
  have h8 : (4294967296 : Nat) ^ K = 2 ^ (32 * K) := by rw [Nat.pow_mul]
  rw [h8]
  exact Nat.lt_of_lt_of_le hv (Nat.pow_le_pow_right (by omega) hb)
theorem tmod32 (D : Nat) : ((D : Int)).tmod 4294967296 % 4294967296 = ((D % 4294967296 : Nat) : Int) := by
  rw [Int.tmod_eq_emod_of_nonneg (by omega)]; omega

theorem shrl_get (P : Nat) : ∀ (l : List Nat) (j : Nat), j < l.length → (shrl P l).getD j 0 = (l.getD j 0 + 4294967296 * l.getD (j + 1) 0) / P % 4294967296
  | [], j, h => by simp at h
  | x :: r, 0, h => by cases r <;> simp [shrl]
  | x :: r, j + 1, h => by
    have := shrl_get P r j (by simpa using h)
    simpa [shrl] using this

end Go.Proofs.YtdhjgekbocnnkaaDoor
