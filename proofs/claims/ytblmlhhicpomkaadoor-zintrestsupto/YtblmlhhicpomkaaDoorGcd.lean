/-
  nat.Gcd: many of Euclid's steps at once, the last ones with words.
-/
import Derived.Test.YtblmlhhicpomkaaDoorSetV
import Derived.Test.YtblmlhhicpomkaaDoorWords
import Derived.Test.YtblmlhhicpomkaaDoorSetK
import Derived.Deep.LoopGhost
namespace Go.Proofs.YtblmlhhicpomkaaDoor
open Go.RowKit Nt
set_option linter.unusedSimpArgs false
set_option linter.unusedVariables false

/-- What Gcd's loop keeps. -/
def GI (w wr : World) (G A B : Nat) (r r' : Option Addr) (k k' : Nat) : Prop :=
  Below w.heap.size w wr ∧ Sl wr r (digs A).length k (digs A) ∧ Sl wr r' (digs B).length k' (digs B) ∧ B ≤ A ∧ Nat.gcd A B = G ∧ (digs A).length + 1 ≤ 70368744177664

theorem cmpN_lt {a b : Nat} (h : a < b) : cmpN a b = -1 := by simp [cmpN, h]
theorem cmpN_ge {a b : Nat} (h : b ≤ a) : ¬ cmpN a b < 0 := by
  unfold cmpN
  rw [if_neg (by omega)]
  split <;> omega
theorem gcd_rest {A B G : Nat} (h : Nat.gcd A B = G) : Nat.gcd B (A % B) = G := by
  rw [Nat.gcd_comm, ← Nat.gcd_rec, Nat.gcd_comm, h]

end Go.Proofs.YtblmlhhicpomkaaDoor
