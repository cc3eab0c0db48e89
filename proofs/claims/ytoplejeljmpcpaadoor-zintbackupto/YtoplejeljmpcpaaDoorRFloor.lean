/-
  The document's quotients: Floor, Near, Exact.
-/
import Derived.Test.YtoplejeljmpcpaaDoorConts
namespace Go.Proofs.YtoplejeljmpcpaaDoor
open Go Go.RowKit Nt
set_option linter.unusedSimpArgs false
set_option linter.unusedVariables false
set_option maxRecDepth 20000

theorem sg_rest (s t : Bool) (x y : Nat) : sg s x - sg (s != t) (x / y) * sg t y = sg s (x % y) := by
  have e : ((y * (x / y) + x % y : Nat) : Int) = (x : Int) := by rw [Nat.div_add_mod]
  rw [Int.natCast_add, Int.natCast_mul] at e
  obtain ⟨q, hq⟩ : ∃ q, x / y = q := ⟨_, rfl⟩
  obtain ⟨r, hr⟩ : ∃ r, x % y = r := ⟨_, rfl⟩
  rw [hq, hr] at e ⊢
  rw [Int.mul_comm] at e
  cases s <;> cases t <;> simp [sg, Int.neg_mul, Int.mul_neg] <;> omega
theorem sg_sign0 (s : Bool) (r : Nat) : (sg s r).sign = 0 ↔ r = 0 := by
  rw [Int.sign_eq_zero_iff_zero]
  unfold sg
  split <;> omega
theorem sg_sign_eq {s t : Bool} {r y : Nat} (hr : r ≠ 0) (hy : y ≠ 0) : (sg s r).sign = (sg t y).sign ↔ s = t := by
  have h1 : ∀ (b : Bool) (k : Nat), k ≠ 0 → (sg b k).sign = if b then -1 else 1 := by
    intro b k hk
    unfold sg
    cases b
    · simp only [Bool.false_eq_true, if_false]; exact Int.sign_eq_one_of_pos (by omega)
    · simp only [if_true]; exact Int.sign_eq_neg_one_of_neg (by omega)
  rw [h1 s r hr, h1 t y hy]
  cases s <;> cases t <;> simp
theorem rm_le {A B : Int} (hB : B ≠ 0) : (rm A B).natAbs ≤ B.natAbs := by
  unfold rm fl
  by_cases hp : 0 < B
  · rw [if_pos hp]
    have h1 := Int.emod_nonneg A (by omega : B ≠ 0)
    have h2 := Int.emod_lt_of_pos A hp
    have h3 := Int.mul_ediv_add_emod A B
    rw [Int.mul_comm] at h3
    omega
  · rw [if_neg hp]
    have h1 := Int.emod_nonneg (-A) (by omega : -B ≠ 0)
    have h2 := Int.emod_lt_of_pos (-A) (by omega : 0 < -B)
    have h3 := Int.mul_ediv_add_emod (-A) (-B)
    rw [Int.mul_comm, Int.mul_neg] at h3
    omega

end Go.Proofs.YtoplejeljmpcpaaDoor
