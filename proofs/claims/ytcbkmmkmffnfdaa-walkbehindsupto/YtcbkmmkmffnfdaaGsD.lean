import Derived.Test.YtcbkmmkmffnfdaaGlA
import Derived.Test.YtcbkmmkmffnfdaaRsK
import Derived.Test.YtcbkmmkmffnfdaaRrA
import Derived.Test.YtcbkmmkmffnfdaaGsA
/-
 gso.mayBe and what the document says of it.
-/
namespace Go.Proofs.Ytcbkmmkmffnfdaa
open Go Go.RowKit Nt
set_option linter.unusedSimpArgs false
set_option linter.unusedVariables false


theorem first_off (p : Nat → Bool) : ∀ n, (∀ j, j < n → p j = true) ∨ ∃ i, i < n ∧ p i = false ∧ ∀ j, j < i → p j = true
 | 0 => Or.inl (fun j h => by omega)
 | n + 1 => by
  rcases first_off p n with h | ⟨i, h1, h2, h3⟩
  ·cases e : p n with
   | true => exact Or.inl (fun j hj => by rcases Nat.lt_or_ge j n with h' | h'; exact h j h'; rw [show j = n by omega]; exact e)
   | false => exact Or.inr ⟨n, by omega, e, h⟩
  ·exact Or.inr ⟨i, by omega, h2, h3⟩
/-- May these be data? -/
structure Good (D : List Int) (L : List (List Int)) : Prop where
 some : L.length ≠ 0
 len : D.length = L.length + 1
 one : D.getD 0 0 = 1
 row : ∀ i, i < L.length → (L.getD i []).length = i
 pos : ∀ i, i < L.length → 0 < D.getD (i + 1) 0
/-- How it fails. -/
inductive Bad (D : List Int) (L : List (List Int)) : Prop
 | none : L.length = 0 → Bad D L
 | len : L.length ≠ 0 → D.length ≠ L.length + 1 → Bad D L
 | one : L.length ≠ 0 → D.length = L.length + 1 → D.getD 0 0 ≠ 1 → Bad D L
 | row (i0 : Nat) : L.length ≠ 0 → D.length = L.length + 1 → D.getD 0 0 = 1 → i0 < L.length → (∀ j, j < i0 → (L.getD j []).length = j ∧ 0 < D.getD (j + 1) 0) → ((L.getD i0 []).length ≠ i0 ∨ ((L.getD i0 []).length = i0 ∧ D.getD (i0 + 1) 0 ≤ 0)) → Bad D L
theorem Good.d {D : List Int} {L : List (List Int)} (h : Good D L) (i : Nat) (hi : i < D.length) : 0 < D.getD i 0 := by
 cases i with
 | zero => rw [h.one]; decide
 | succ i => exact h.pos i (by have := h.len; omega)
theorem sgn_pos {z : Int} (h : 0 < z) : z.sign = 1 := Int.sign_eq_one_of_pos h
theorem sgn_npos {z : Int} (h : z ≤ 0) : z.sign ≤ 0 := by
 rcases Int.lt_or_le z 0 with h1 | h1
 ·rw [Int.sign_eq_neg_one_of_neg h1]; decide
 ·rw [show z = 0 by omega]; decide
/-- How the document finds that it fails. -/
inductive RBad (D : List Int) (L : List (List Int)) : Prop
 | none : L.length = 0 → RBad D L
 | len : L.length ≠ 0 → D.length ≠ L.length + 1 → RBad D L
 | one : L.length ≠ 0 → D.length = L.length + 1 → D.getD 0 0 ≠ 1 → RBad D L
 | pos (i0 : Nat) : L.length ≠ 0 → D.length = L.length + 1 → D.getD 0 0 = 1 → i0 < D.length → (∀ j, j < i0 → 0 < D.getD j 0) → D.getD i0 0 ≤ 0 → RBad D L
 | row (i0 : Nat) : L.length ≠ 0 → D.length = L.length + 1 → D.getD 0 0 = 1 → (∀ j, j < D.length → 0 < D.getD j 0) → i0 < L.length → (∀ j, j < i0 → (L.getD j []).length = j) → (L.getD i0 []).length ≠ i0 → RBad D L
theorem Bad.r {D : List Int} {L : List (List Int)} (h : Bad D L) : RBad D L := by
 cases h with
 | none h => exact .none h
 | len h1 h2 => exact .len h1 h2
 | one h1 h2 h3 => exact .one h1 h2 h3
 | row i0 h1 h2 h3 h4 h5 h6 =>
  rcases first_off (fun j => decide (0 < D.getD j 0)) D.length with h | ⟨i, hi, h7, h8⟩
  ·rcases first_off (fun j => decide ((L.getD j []).length = j)) L.length with g | ⟨j, hj, g1, g2⟩
   ·rcases h6 with h6 | ⟨_, h6⟩
    ·exact absurd (of_decide_eq_true (g i0 h4)) h6
    ·have := of_decide_eq_true (h (i0 + 1) (by omega)); omega
   ·exact .row j h1 h2 h3 (fun k hk => of_decide_eq_true (h k hk)) hj (fun k hk => of_decide_eq_true (g2 k hk)) (of_decide_eq_false g1)
  ·exact .pos i h1 h2 h3 hi (fun j hj => of_decide_eq_true (h8 j hj)) (by have := of_decide_eq_false h7; omega)

end Go.Proofs.Ytcbkmmkmffnfdaa

/-
 gso.Mu, gso.Star, what the document says of them.
-/
namespace Go.Proofs.Ytcbkmmkmffnfdaa
open Go Go.RowKit Nt
set_option linter.unusedSimpArgs false
set_option linter.unusedVariables false


theorem g_rofG {A : Int} {k : Nat} (hk : k ≤ 67108864) : ∀ w u, Zv A k u w → Calls Try.prog 12 #[u] w (Gives (RN A 1) w) := by
 rintro w u ⟨s, p, n, c, xs, rfl, h, rfl, hn⟩
 exact rt_gives (rof_c w s p n c xs h (by omega))
end Go.Proofs.Ytcbkmmkmffnfdaa

/-
 Rationals by any quotient that they are: sums, products; what the norm by data comes to.
-/
namespace Go.Proofs.Ytcbkmmkmffnfdaa
open Go Go.RowKit Nt
set_option linter.unusedSimpArgs false
set_option linter.unusedVariables false

/-- The rational P by Q, in new memory, in lowest terms. -/
def QQ (P : Int) (Q : Nat) : Nat → Pr := RN (nR P Q) (dR P Q)
theorem fresh_qq (P : Int) (Q : Nat) : Fresh (QQ P Q) := fresh_rn _ _
theorem qq_eq {P P' : Int} {Q Q' : Nat} (hQ : Q ≠ 0) (hQ' : Q' ≠ 0) (h : P * (Q' : Int) = P' * (Q : Int)) : QQ P Q = QQ P' Q' := by
 obtain ⟨a, b⟩ := low_one hQ hQ' h
 unfold QQ
 rw [a, b]
theorem qq_1 (A : Int) : RN A 1 = QQ A 1 := by
 unfold QQ nR dR
 rw [Nat.gcd_one_right, Nat.div_one, Nat.div_one]
 congr 1
 unfold sg ng
 by_cases h : A < 0
 ·simp [h]; omega
 ·simp [h]; omega
theorem shp_qq {P : Int} {Q lo : Nat} : Shp 4 (QQ P Q lo) := shp_pr shp_zn shp_zn
theorem qq_rv {P : Int} {Q k lo : Nat} (h : (digs P.natAbs).length ≤ k) (h' : (digs Q).length ≤ k) : ∀ v w, QQ P Q lo v w → Rv (nR P Q) ((dR P Q : Nat) : Int) k k v w := rn_rv (nR_len h) (dR_len h')
/-! The norm by data. -/
def dN (D : List Int) (i : Nat) : Nat := (D.getD i 0).toNat
end Go.Proofs.Ytcbkmmkmffnfdaa

/-
 gso.behind, gso.Norm, what the document says of it.
-/
namespace Go.Proofs.Ytcbkmmkmffnfdaa
open Go Go.RowKit Nt
set_option linter.unusedSimpArgs false
set_option linter.unusedVariables false

end Go.Proofs.Ytcbkmmkmffnfdaa
