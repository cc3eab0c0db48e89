/-
  nat.subFrom: the difference in place.
-/
import Derived.Test.YtnjepeijihmemaaDoorWrites
namespace Go.Proofs.YtnjepeijihmemaaDoor
open Go.RowKit Nt
set_option linter.unusedSimpArgs false
set_option linter.unusedVariables false

/-- A difference of two limbs with a borrow, in 64 bits. -/
theorem sub_limb (x y cy : Nat) (hx : x < 4294967296) (hy : y < 4294967296) (hc : cy ≤ 1) :
    ∃ z cy' : Nat, z < 4294967296 ∧ cy' ≤ 1 ∧ IntKind.u64.wrap (IntKind.u64.wrap ((x : Int) - y) - cy) % 4294967296 = z ∧ IntKind.u64.wrap (IntKind.u64.wrap ((x : Int) - y) - cy) / 9223372036854775808 = cy' ∧ z + (y + cy) = x + 4294967296 * cy' := by
  simp only [IntKind.wrap_u64]
  by_cases h : x < y + cy
  · exact ⟨x + 4294967296 - y - cy, 1, by omega, by omega, by omega, by omega, by omega⟩
  · exact ⟨x - y - cy, 0, by omega, by omega, by omega, by omega, by omega⟩
theorem sub_limb1 (x cy : Nat) (hx : x < 4294967296) (hc : cy ≤ 1) :
    ∃ z cy' : Nat, z < 4294967296 ∧ cy' ≤ 1 ∧ IntKind.u64.wrap ((x : Int) - cy) % 4294967296 = z ∧ IntKind.u64.wrap ((x : Int) - cy) / 9223372036854775808 = cy' ∧ z + (0 + cy) = x + 4294967296 * cy' := by
  simp only [IntKind.wrap_u64]
  by_cases h : x < cy
  · exact ⟨x + 4294967296 - cy, 1, by omega, by omega, by omega, by omega, by omega⟩
  · exact ⟨x - cy, 0, by omega, by omega, by omega, by omega, by omega⟩

theorem sub_end {A Z : List Nat} {V k cy : Nat} (hA : Ok A) (hZ : Ok Z) (hz1 : Z.length = k) (hk : k ≤ A.length) (hV : V ≤ val A) (h : cy = 0 ∨ k = A.length) (hz3 : val Z + V = val (A.take k) + 4294967296 ^ k * cy) :
    val (Z ++ A.drop k) + V = val A := by
  have hc : cy = 0 := by
    rcases h with h | h
    · exact h
    apply Classical.byContradiction
    intro hne
    have h1 := val_lt hZ
    rw [hz1] at h1
    have h2 : 4294967296 ^ k * 1 ≤ 4294967296 ^ k * cy := Nat.mul_le_mul_left _ (by omega)
    rw [h, List.take_length, ← h] at hz3
    have h3 : A.length = k := h.symm
    omega
  rw [hc, Nat.mul_zero] at hz3
  rw [val_append, hz1]
  have := val_split A k hk
  omega

end Go.Proofs.YtnjepeijihmemaaDoor
