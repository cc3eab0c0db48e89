import Derived.Test.YtnhfpekpdephjaaGreatSetA
import Derived.Lib.SmallJoins
import Derived.Deep.SlicePairs
/-
 Arguments that are numbers with a sign: what the row's reading gives.
-/
namespace Go.Proofs.YtnhfpekpdephjaaGreat
open Go.ChangeShapes Go.WideShapes Go.ChangeAt Go.RowKit Nt
set_option linter.unusedSimpArgs false
set_option linter.unusedVariables false
set_option maxRecDepth 20000

end Go.Proofs.YtnhfpekpdephjaaGreat

/-
 Arguments that are lists of numbers with a sign: what the row's reading gives.
-/
namespace Go.Proofs.YtnhfpekpdephjaaGreat
open Go.ChangeShapes Go.WideShapes Go.ChangeAt Go.RowKit Nt
set_option linter.unusedSimpArgs false
set_option linter.unusedVariables false
set_option maxRecDepth 20000

/-- A number with a sign as it lies in a list: its sign, its slice, its limbs. -/
structure El where
 s : Bool
 p : Option Addr
 n : Nat
 c : Nat
 xs : List Nat
instance : Inhabited El := ⟨⟨false, none, 0, 0, []⟩⟩
/-- The list (p, n, c) of numbers holds es. -/
structure Ls (w : World) (p : Option Addr) (n c : Nat) (es : List El) : Prop where
 len : es.length = n
 cap : n ≤ c
 max : c ≤ maxLen
 nil : p = none → c = 0
 lie : ∀ i e, es[i]? = some e → ∃ b o, p = some ⟨b, o, none⟩ ∧ w.cell? ⟨b, o + 2 * i, none⟩ = some (.bool e.s) ∧ w.cell? ⟨b, o + 2 * i + 1, none⟩ = some (.slice e.p e.n e.c) ∧ Sl w e.p e.n e.c e.xs
theorem Ls.none (w : World) : Ls w none 0 0 [] := ⟨rfl, Nat.le_refl _, Nat.zero_le _, fun _ => rfl, fun i e h => by simp at h⟩
end Go.Proofs.YtnhfpekpdephjaaGreat

/-
 Arguments that are rationals: what the row's reading gives.
-/
namespace Go.Proofs.YtnhfpekpdephjaaGreat
open Go.ChangeShapes Go.WideShapes Go.ChangeAt Go.RowKit Nt
set_option linter.unusedSimpArgs false
set_option linter.unusedVariables false
set_option maxRecDepth 20000

end Go.Proofs.YtnhfpekpdephjaaGreat
