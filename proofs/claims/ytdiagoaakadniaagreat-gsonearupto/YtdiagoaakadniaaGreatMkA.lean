import Derived.Test.YtdiagoaakadniaaGreatGsD
import Derived.Test.YtdiagoaakadniaaGreatFiC
import Derived.Test.YtdiagoaakadniaaGreatHxA
namespace Go.Proofs.YtdiagoaakadniaaGreat
open Go Go.RowKit Nt
set_option linter.unusedSimpArgs false
set_option linter.unusedVariables false
set_option maxRecDepth 20000
set_option maxHeartbeats 16000000

theorem ykc {P : Int} {Q : Nat} (hQ : Q ≠ 0) : nR P Q * (Q : Int) = P * (dR P Q : Int) := yhp P Q
def dt (G : Nat → Nat → Int) (k : Nat) : Nat := (Dt.det k G).toNat
theorem yh8 {α : Type} {l : List α} {x : α} {n : Nat} (h : l.length = n) : (l ++ [x])[n]? = some x := by
 rw [List.getElem?_append_right (by omega), h, Nat.sub_self]
 rfl
def QW (P : Int) (Q k : Nat) : Pr := fun v w => ∃ (A : Int) (D : Nat), D ≠ 0 ∧ A * (Q : Int) = P * (D : Int) ∧ Rv A (D : Int) k k v w
theorem qw_qq {P : Int} {Q k lo : Nat} (hQ : Q ≠ 0) (b1 : (digs P.natAbs).length ≤ k) (b2 : (digs Q).length ≤ k) : ∀ v w, QQ P Q lo v w → QW P Q k v w := fun v w h => ⟨_, _, ye7 hQ, ykc hQ, ylj b1 b2 v w h⟩
theorem qw_raw {N D : Int} {k : Nat} (hD : 0 < D) : ∀ v w, PR (Zv N k) (Zv D k) v w → QW N D.toNat k v w := fun v w h => ⟨N, D.toNat, by omega, rfl, by rw [show ((D.toNat : Nat) : Int) = D by omega]; exact h⟩
theorem qw_mono {P : Int} {Q k k' : Nat} (hk : k ≤ k') : ∀ v w, QW P Q k v w → QW P Q k' v w := fun v w ⟨A, D, h1, h2, h3⟩ => ⟨A, D, h1, h2, pr_imp (zv_mono hk) (zv_mono hk) v w h3⟩
theorem qw_eq {P P' : Int} {Q Q' k : Nat} (hQ : Q ≠ 0) (h : P * (Q' : Int) = P' * (Q : Int)) : ∀ v w, QW P Q k v w → QW P' Q' k v w := fun v w ⟨A, D, h1, h2, h3⟩ => ⟨A, D, h1, by
 have e : (A * (Q' : Int)) * (Q : Int) = (P' * (D : Int)) * (Q : Int) := by
  generalize (Q : Int) = q at *
  generalize (Q' : Int) = q' at *
  generalize (D : Int) = d at *
  grind
 exact Int.eq_of_mul_eq_mul_right (show (Q : Int) ≠ 0 by omega) e, h3⟩
theorem qw_rsub {P P' : Int} {Q Q' k k' : Nat} (hQ : Q ≠ 0) (hQ' : Q' ≠ 0) (hk : k ≤ 8388608) (hk' : k' ≤ 8388608) :
  ∀ w u v, QW P Q k u w → QW P' Q' k' v w → Calls Tryz.prog 9 #[u, v] w (Gives (QQ (P * (Q' : Int) + (-P') * (Q : Int)) (Q * Q')) w) := fun w u v ⟨A, D, hD, e1, h⟩ ⟨N, M, hM, e2, h'⟩ => by
 have := g_rrsub hD hM hk hk hk' hk' w u v h h'
 have hM' := ye7 (X := -N) hM
 have e3 := ykc (P := -N) hM
 refine Gives.cast this (yff (Nat.mul_ne_zero hD hM') (Nat.mul_ne_zero hQ hQ') ?_)
 simp only [Int.natCast_mul]
 clear this h h'
 generalize nR (-N) M = n' at *
 generalize (dR (-N) M : Int) = d' at *
 have hm : (M : Int) ≠ 0 := by omega
 have e4 : n' * (Q' : Int) = -P' * d' := by
  refine Int.eq_of_mul_eq_mul_right hm ?_
  generalize (Q' : Int) = q' at *
  generalize (M : Int) = m at *
  grind
 generalize (Q : Int) = q at *
 generalize (Q' : Int) = q' at *
 generalize (D : Int) = d at *
 grind
end Go.Proofs.YtdiagoaakadniaaGreat
