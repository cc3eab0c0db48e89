import Derived.Test.YtoeopdmaogmjhaaGsB
import Derived.Test.YtoeopdmaogmjhaaDtA
import Derived.Test.YtoeopdmaogmjhaaGlA
import Derived.Test.YtoeopdmaogmjhaaGsD
/-
 The data of rows are determinants: all divisions come out even, and no number is longer than those.
-/
namespace Go.Proofs.Ytoeopdmaogmjhaa
open Go Go.RowKit Nt
set_option linter.unusedSimpArgs false
set_option linter.unusedVariables false
set_option maxRecDepth 20000

/-- The dot products of the rows. -/
def gr (Bm : List (List Int)) : Nat → Nat → Int := fun r c => dotR (Bm.getD r []) (Bm.getD c [])
theorem fl_even {A B q : Int} (hB : B ≠ 0) (h : A = B * q) : fl A B = q ∧ rm A B = 0 :=
 fl_unique hB (by rw [h, Int.mul_comm]; omega) (fun h => ⟨by omega, h⟩) (fun h => ⟨h, by omega⟩)
section
variable {G : Dt.Mt} {D L M : List Int} {i j K : Nat}
end
theorem getD_snoc {α : Type} (l : List α) (x d : α) (k : Nat) : (l ++ [x]).getD k d = if k < l.length then l.getD k d else if k = l.length then x else d := by
 rw [List.getD_eq_getElem?_getD, List.getD_eq_getElem?_getD]
 rcases Nat.lt_or_ge k l.length with h | h
 ·rw [if_pos h, List.getElem?_append_left h]
 ·rw [if_neg (by omega), List.getElem?_append_right h]
  by_cases e : k = l.length
  ·rw [if_pos e, e, Nat.sub_self]; rfl
  ·rw [if_neg e]
   obtain ⟨t, ht⟩ : ∃ t, k - l.length = t + 1 := ⟨k - l.length - 1, by omega⟩
   rw [ht]; rfl
end Go.Proofs.Ytoeopdmaogmjhaa

/-
 gso.framed, where it is not well.
-/
namespace Go.Proofs.Ytoeopdmaogmjhaa
open Go Go.RowKit Nt
set_option linter.unusedSimpArgs false
set_option linter.unusedVariables false
set_option maxRecDepth 20000


end Go.Proofs.Ytoeopdmaogmjhaa

/-
 gso.Wide, gso.Of, gso.Valid, where it is not well; gso.Valid where it is.
-/
namespace Go.Proofs.Ytoeopdmaogmjhaa
open Go Go.RowKit Nt
set_option linter.unusedSimpArgs false
set_option linter.unusedVariables false
set_option maxRecDepth 20000

end Go.Proofs.Ytoeopdmaogmjhaa

/-
 gso.Of of every matrix: an error that is not 0, or the data of its rows.
-/
namespace Go.Proofs.Ytoeopdmaogmjhaa
open Go Go.RowKit Nt
set_option linter.unusedSimpArgs false
set_option linter.unusedVariables false
set_option maxRecDepth 20000

end Go.Proofs.Ytoeopdmaogmjhaa
