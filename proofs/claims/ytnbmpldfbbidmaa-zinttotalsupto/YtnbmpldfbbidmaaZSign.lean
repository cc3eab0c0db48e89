/-
  Signs and order: zint.Sign, Compare, and the document's.
-/
import Derived.Test.YtnbmpldfbbidmaaZForm
import Derived.Test.YtnbmpldfbbidmaaZOwn
namespace Go.Proofs.Ytnbmpldfbbidmaa
open Go.RowKit Nt
set_option linter.unusedSimpArgs false
set_option linter.unusedVariables false

/-- Into a call of one number. -/
theorem enter1b (w : World) (s : Bool) (p : Option Addr) (n c : Nat) :
    ∃ W g, w.heap.size = g ∧ w.alloc (.cells #[.bool s, .slice p n c] 25) = W ∧
      W.cell? ⟨g, 0, none⟩ = some (.bool s) ∧ W.cell? ⟨g, 1, none⟩ = some (.slice p n c) ∧ Hid (Below w.heap.size w W) := by
  have B1 := below_alloc w (.cells #[.bool s, .slice p n c] 25)
  have X1 := box_alloc w s p n c
  exact ⟨_, _, rfl, rfl, X1.at0, X1.at1, B1⟩

theorem bitLen_zero (v : Nat) : Go.bitLen v = 0 ↔ v = 0 := by
  constructor
  · intro h
    obtain ⟨s1, s2⟩ := bitLen_spec v
    apply Classical.byContradiction
    intro h0
    have := s2 h0
    rw [h] at s1
    simp at s1
    omega
  · intro h; subst h; rfl

theorem sign_zero (s : Bool) {m : Nat} (h : m = 0) : (sg s m).sign = 0 := by subst h; cases s <;> rfl
theorem sign_pos {m : Nat} (h : m ≠ 0) : (sg false m).sign = 1 := by
  unfold sg
  simp
  omega
theorem sign_neg {m : Nat} (h : m ≠ 0) : (sg true m).sign = -1 := by
  unfold sg
  simp
  omega

end Go.Proofs.Ytnbmpldfbbidmaa
