/-
  The calls of zint and of the document that the layers of lists want, in the logic's form.
-/
import Derived.Test.YtkiholgfamfgeaaConts
import Derived.Test.YtkiholgfamfgeaaSetE
import Derived.Test.YtkiholgfamfgeaaSetX
namespace Go.Proofs.Ytkiholgfamfgeaa
open Go Go.RowKit Nt
set_option linter.unusedSimpArgs false
set_option linter.unusedVariables false
set_option maxRecDepth 20000

theorem h_zsign {A : Int} {k : Nat} (hk : k ≤ 70368744177664) : ∀ w u, Zv A k u w → Calls Try.prog 25 #[u] w (Gives (IS (.int .i64 A.sign)) w) := by
  rintro w u ⟨s, p, n, c, xs, rfl, h, rfl, hn⟩
  refine (zsign_c w s p n c xs h (by omega)).mono ?_
  rintro e w' ⟨rfl, hb⟩
  exact ⟨_, rfl, hb, rfl⟩
end Go.Proofs.Ytkiholgfamfgeaa
