/-
  Lists of rationals, and lists of such lists: read, made, grown.
-/
import Derived.Test.YtcljffdkonapeaaArCut
import Derived.Test.YtcljffdkonapeaaGsE
namespace Go.Proofs.Ytcljffdkonapeaa
open Go Go.RowKit Nt
set_option linter.unusedSimpArgs false
set_option linter.unusedVariables false

theorem idx_rats : Idx 28 4 := fun ρ o x y w b k i n c hi hx hy => by
  unfold execOp
  go_simp
theorem ldr_rat4 : Ldr 33 4 := ldr_strct (by decide) strct_rat
theorem bld_rat4 : Bld 28 33 4 := fun ρ o x w u hu hx => by
  have e := hu.of
  rw [ofCells, if_neg (by decide)] at e
  obtain ⟨l, hl⟩ : ∃ l, u.cells = ⟨l⟩ := ⟨u.cells.toList, by simp⟩
  have hs := hu.siz
  have ho := hu.one
  rw [hl] at e hs ho ⊢
  match l, hs with
  | [y, z, y', z'], _ =>
    clear hu hl
    subst e
    simp at ho
    obtain ⟨h1, h2, h3, h4⟩ := ho
    unfold execOp
    go_simp
end Go.Proofs.Ytcljffdkonapeaa
