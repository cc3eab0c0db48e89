import Derived.Test.YtcljffdkonapeaaRsH
import Derived.Test.YtcljffdkonapeaaSetR
import Derived.Test.YtcljffdkonapeaaRsG
import Derived.Test.YtcljffdkonapeaaRsD
import Derived.Test.YtcljffdkonapeaaRsJ
import Derived.Test.YtcljffdkonapeaaRsE
import Derived.Test.YtcljffdkonapeaaSetX
import Derived.Test.YtcljffdkonapeaaSetE
import Derived.Test.YtcljffdkonapeaaSetG
/-
  The calls of rat, of the document's rationals and of their laws, in the form that the logic of statements takes.
-/
namespace Go.Proofs.Ytcljffdkonapeaa
open Go Go.RowKit Nt
set_option linter.unusedSimpArgs false
set_option linter.unusedVariables false

theorem rt_gives {w : World} {A : Int} {D k k' f : Nat} {args : Array Value} (h : Calls Try.prog f args w (Rt w A D k k')) : Calls Try.prog f args w (Gives (RN A D) w) := by
  refine h.mono ?_
  rintro e w' ⟨b1, L1, D1, r1, k1, L2, r2, k2, rfl, hb, s1, s2, hN, hL1, hL2, f1, f2⟩
  have hl := s2.out.len
  refine ⟨_, rfl, hb, _, _, _, _, rfl, nm_zn hN.out s1.out f1.out, nm_zn ⟨?_, ?_, ?_⟩ s2.out f2.out⟩
  · unfold ng; simp
  · rw [Int.natAbs_natCast]
  · exact hl
theorem g_ratof {A : Int} {k : Nat} (hk : k ≤ 67108864) : ∀ w u, Zv A k u w → Calls Try.prog 11 #[u] w (Gives (RN A 1) w) := by
  rintro w u ⟨s, p, n, c, xs, rfl, h, rfl, hn⟩
  exact rt_gives (ratof_c w s p n c xs h (by omega))
end Go.Proofs.Ytcljffdkonapeaa

/-
  rat.fold hands the one rational of a list to a closure; rules for rat.sum and rat.minus.
-/
namespace Go.Proofs.Ytcljffdkonapeaa
open Go Go.RowKit Nt
set_option linter.unusedSimpArgs false
set_option linter.unusedVariables false

end Go.Proofs.Ytcljffdkonapeaa

/-
  rat.sum with its closure, rat.minus, rat.Add, rat.Sub.
-/
namespace Go.Proofs.Ytcljffdkonapeaa
open Go Go.RowKit Nt
set_option linter.unusedSimpArgs false
set_option linter.unusedVariables false


section
variable {ops : Array Oper} {l : List Kd} {bx : Bxs} {sl : List (Tmp × Pr)} {i : Nat} {o : Oper} {Q : Exit → Act → World → Prop} {a0 : Act} {n : Nat} {w0 : World}
end
end Go.Proofs.Ytcljffdkonapeaa

/-
  Rationals in lowest terms: one form for each, how long it is, what sums, products and quotients make.
-/
namespace Go.Proofs.Ytcljffdkonapeaa
open Go Go.RowKit Nt
set_option linter.unusedSimpArgs false
set_option linter.unusedVariables false

theorem nR_mul (P : Int) (Y : Nat) : nR P Y * (Y : Int) = P * (dR P Y : Int) := by
  have h1 := g_nR P Y
  have h2 := g_dR P Y
  have h3 : ((Nat.gcd P.natAbs Y : Nat) : Int) * (dR P Y : Int) = (Y : Int) := by rw [← Int.natCast_mul, h2]
  generalize ((Nat.gcd P.natAbs Y : Nat) : Int) = G at h1 h3
  grind
end Go.Proofs.Ytcljffdkonapeaa

/-
  rat.Add, Sub, Floor, Near; the document's Valid; what the laws ask of rationals.
-/
namespace Go.Proofs.Ytcljffdkonapeaa
open Go Go.RowKit Nt
set_option linter.unusedSimpArgs false
set_option linter.unusedVariables false

/-- What is said of a fraction and its lowest terms. -/
theorem fr {P : Int} {Y : Nat} {n : Int} {d : Nat} (e1 : nR P Y = n) (e2 : dR P Y = d) : n * (Y : Int) = P * (d : Int) := by rw [← e1, ← e2]; exact nR_mul P Y
end Go.Proofs.Ytcljffdkonapeaa
