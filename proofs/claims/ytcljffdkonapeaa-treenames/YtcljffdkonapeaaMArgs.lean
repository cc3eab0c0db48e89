/-
  Arguments that are matrices of numbers with a sign: what the row's reading gives.
-/
import Derived.Test.YtcljffdkonapeaaSetL
import Derived.Test.YtcljffdkonapeaaVec
import Derived.Deep.Slices
namespace Go.Proofs.Ytcljffdkonapeaa
open Go.ChangeShapes Go.WideShapes Go.ChangeAt Go.RowKit Nt
set_option linter.unusedSimpArgs false
set_option linter.unusedVariables false

/-- A row as it lies in a matrix. -/
structure Rw where
  p : Option Addr
  n : Nat
  c : Nat
  es : List El
instance : Inhabited Rw := ⟨⟨none, 0, 0, []⟩⟩
/-- By worth, each number of at most k limbs. -/
abbrev Mv (n : Nat) (zss : List (List Int)) (k : Nat) : Pr := Ar 1 n (zss.map (fun zs => Vv zs.length zs k))
/-- New, in one form. -/
abbrev MN (n : Nat) (zss : List (List Int)) : Nat → Pr := LF 1 n (zss.map (fun zs => VN zs.length zs))
theorem fresh_mn {n : Nat} {zss : List (List Int)} : Fresh (MN n zss) := fresh_lf (by decide) (fun i ψ h => by obtain ⟨z, _, rfl⟩ := map_get h; exact fresh_vn)
def Mdl (zss : List (List Int)) (k : Nat) : Prop := ∀ (i : Nat) zs, zss[i]? = some zs → Dl zs k
theorem mn_mv {n k lo : Nat} {zss : List (List Int)} (h : Mdl zss k) : ∀ v w, MN n zss lo v w → Mv n zss k v w :=
  lf_to (by simp) (fun i ψ φ h1 h2 v w hφ => by
    obtain ⟨e, he, rfl⟩ := map_get h1
    obtain ⟨z, hz, rfl⟩ := map_get h2
    rw [he] at hz
    cases hz
    exact vn_vv (h i e he) v w hφ)
end Go.Proofs.Ytcljffdkonapeaa
