import Derived.Test.YtcbkmmkmffnfdaaGsD
import Derived.Test.YtcbkmmkmffnfdaaFiC
import Derived.Test.YtcbkmmkmffnfdaaHxA
/-
 The document's frame of rows: each step of its rationals is a step of determinants.
-/
namespace Go.Proofs.Ytcbkmmkmffnfdaa
open Go Go.RowKit Nt
set_option linter.unusedSimpArgs false
set_option linter.unusedVariables false

end Go.Proofs.Ytcbkmmkmffnfdaa

/-
 The document's frame of rows: differences and quotients of rationals; its lists.
-/
namespace Go.Proofs.Ytcbkmmkmffnfdaa
open Go Go.RowKit Nt
set_option linter.unusedSimpArgs false
set_option linter.unusedVariables false

theorem q_self {P : Int} {Q : Nat} (hQ : Q ≠ 0) : nR P Q * (Q : Int) = P * (dR P Q : Int) := nR_mul P Q
end Go.Proofs.Ytcbkmmkmffnfdaa

/-
 A rational by any quotient that it is, in whatever form: sums, differences, products, quotients by the document.
-/
namespace Go.Proofs.Ytcbkmmkmffnfdaa
open Go Go.RowKit Nt
set_option linter.unusedSimpArgs false
set_option linter.unusedVariables false

/-- A rational worth P by Q, each of its numbers of at most k limbs. -/
def QW (P : Int) (Q k : Nat) : Pr := fun v w => ∃ (A : Int) (D : Nat), D ≠ 0 ∧ A * (Q : Int) = P * (D : Int) ∧ Rv A (D : Int) k k v w
theorem qw_qq {P : Int} {Q k lo : Nat} (hQ : Q ≠ 0) (b1 : (digs P.natAbs).length ≤ k) (b2 : (digs Q).length ≤ k) : ∀ v w, QQ P Q lo v w → QW P Q k v w := fun v w h => ⟨_, _, dR_ne hQ, q_self hQ, qq_rv b1 b2 v w h⟩
theorem qw_rsub {P P' : Int} {Q Q' k k' : Nat} (hQ : Q ≠ 0) (hQ' : Q' ≠ 0) (hk : k ≤ 8388608) (hk' : k' ≤ 8388608) :
  ∀ w u v, QW P Q k u w → QW P' Q' k' v w → Calls Try.prog 15 #[u, v] w (Gives (QQ (P * (Q' : Int) + (-P') * (Q : Int)) (Q * Q')) w) := fun w u v ⟨A, D, hD, e1, h⟩ ⟨N, M, hM, e2, h'⟩ => by
 have := g_rrsub hD hM hk hk hk' hk' w u v h h'
 have hM' := dR_ne (X := -N) hM
 have e3 := q_self (P := -N) hM
 refine Gives.cast this (qq_eq (Nat.mul_ne_zero hD hM') (Nat.mul_ne_zero hQ hQ') ?_)
 simp only [Int.natCast_mul]
 clear this h h'
 generalize nR (-N) M = n' at *
 generalize (dR (-N) M : Int) = d' at *
 have hm : (M : Int) ≠ 0 := by omega
 have e4 : n' * (Q' : Int) = -P' * d' := by
  refine Int.eq_of_mul_eq_mul_right hm ?_
  generalize (Q' : Int) = q' at *
  generalize (M : Int) = m at *
  grind
 generalize (Q : Int) = q at *
 generalize (Q' : Int) = q' at *
 generalize (D : Int) = d at *
 grind
theorem qw_rmul {P P' : Int} {Q Q' k k' : Nat} (hQ : Q ≠ 0) (hQ' : Q' ≠ 0) (hk : k ≤ 8388608) (hk' : k' ≤ 8388608) :
  ∀ w u v, QW P Q k u w → QW P' Q' k' v w → Calls Try.prog 16 #[u, v] w (Gives (QQ (P * P') (Q * Q')) w) := fun w u v ⟨A, D, hD, e1, r1⟩ ⟨N, M, hM, e2, r2⟩ => by
 have key := rmulq_w w u v A N D M k k k' k' (rv_has r1).hs (rv_has r2).hs hD hM hk hk hk' hk'
 refine Gives.cast key (qq_eq (Nat.mul_ne_zero hD hM) (Nat.mul_ne_zero hQ hQ') ?_)
 simp only [Int.natCast_mul]
 clear key r1 r2
 generalize (Q : Int) = q at *
 generalize (Q' : Int) = q' at *
 generalize (D : Int) = d at *
 generalize (M : Int) = m at *
 grind
end Go.Proofs.Ytcbkmmkmffnfdaa
