/-
 Roots, bits and top bits: zint's, and the document's.
-/
import Derived.Test.YtoeopdmaogmjhaaSetG
import Derived.Test.YtoeopdmaogmjhaaTz
import Derived.Test.YtoeopdmaogmjhaaZRSmall
import Derived.Test.YtoeopdmaogmjhaaSetE
import Derived.Test.YtoeopdmaogmjhaaRefRoot
import Derived.Test.YtoeopdmaogmjhaaRoot
namespace Go.Proofs.Ytoeopdmaogmjhaa
open Go Go.RowKit Nt
set_option linter.unusedSimpArgs false
set_option linter.unusedVariables false
set_option maxRecDepth 20000

open Classical in
/-- The root, rounded down. -/
noncomputable def rt (X : Nat) : Nat := if h : ∃ R, IsRoot X R then Classical.choose h else 0
theorem rt_eq {X R : Nat} (h : IsRoot X R) : rt X = R := by
 unfold rt
 rw [dif_pos ⟨R, h⟩]
 exact isRoot_unique (Classical.choose_spec (p := fun R => IsRoot X R) ⟨R, h⟩) h
theorem g_root {x k : Nat} (hk : k ≤ 35184372088832) : ∀ w u, Nv x k u w → Calls Try.prog 76 #[u] w (Gives (NN (rt x)) w) := by
 rintro w u ⟨p, n, c, xs, rfl, h, rfl, hn⟩
 refine (root_c w p n c xs h (by omega)).mono ?_
 rintro e w' ⟨R, r, cr, rfl, A, hR⟩
 rw [rt_eq hR]
 exact ⟨_, rfl, A.below, res_nn A⟩

theorem rt_le (X : Nat) : rt X ≤ X := by
 unfold rt
 split
 ·rename_i h
  have := (Classical.choose_spec h).1
  generalize Classical.choose h = R at this ⊢
  rcases Nat.eq_zero_or_pos R with h0 | h0
  ·omega
  ·exact Nat.le_trans (Nat.le_mul_of_pos_right R h0) this
 ·omega
theorem rt_len {w : World} {p : Option Addr} {n c : Nat} {xs : List Nat} (h : Sl w p n c xs) : (digs (rt (val xs))).length ≤ n := Nat.le_trans (digs_length_mono (rt_le _)) h.dl

end Go.Proofs.Ytoeopdmaogmjhaa
