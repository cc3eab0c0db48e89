/-
  Signs and order: zint.Sign, Compare, and the document's.
-/
import Derived.Test.YtdhjgekbocnnkaaDoorSetX
namespace Go.Proofs.YtdhjgekbocnnkaaDoor
open Go.RowKit Nt
set_option linter.unusedSimpArgs false
set_option linter.unusedVariables false
set_option maxRecDepth 20000

/-- Into a call of one number. -/
theorem enter1b (w : World) (s : Bool) (p : Option Addr) (n c : Nat) :
    ∃ W g, w.heap.size = g ∧ w.alloc (.cells #[.bool s, .slice p n c] 36) = W ∧
      W.cell? ⟨g, 0, none⟩ = some (.bool s) ∧ W.cell? ⟨g, 1, none⟩ = some (.slice p n c) ∧ Hid (Below w.heap.size w W) := by
  have B1 := below_alloc w (.cells #[.bool s, .slice p n c] 36)
  have X1 := box_alloc w s p n c
  exact ⟨_, _, rfl, rfl, X1.at0, X1.at1, B1⟩

theorem bitLen_zero (v : Nat) : Go.bitLen v = 0 ↔ v = 0 := by
  constructor
  · intro h
    obtain ⟨s1, s2⟩ := bitLen_spec v
    apply Classical.byContradiction
    intro h0
    have := s2 h0
    rw [h] at s1
    simp at s1
    omega
  · intro h; subst h; rfl

theorem sign_zero (s : Bool) {m : Nat} (h : m = 0) : (sg s m).sign = 0 := by subst h; cases s <;> rfl
theorem sign_pos {m : Nat} (h : m ≠ 0) : (sg false m).sign = 1 := by
  unfold sg
  simp
  omega
theorem sign_neg {m : Nat} (h : m ≠ 0) : (sg true m).sign = -1 := by
  unfold sg
  simp
  omega

set_option maxHeartbeats 1000000 in
theorem zsign_c (w : World) (s : Bool) (p : Option Addr) (n c : Nat) (xs : List Nat) (h : Sl w p n c xs) (hs : n ≤ 70368744177664) :
    Calls Tryd.prog 45 #[.agg #[.bool s, .slice p n c]] w fun e w' => e = .returned (.int .i64 (sg s (val xs)).sign) ∧ Below w.heap.size w w' := by
  obtain ⟨W, g, hg, hW, c10, c11, HB⟩ := enter1b w s p n c
  have B := bits_c W p n c xs (h.below HB.out) (by omega)
  have hz := bitLen_zero (val xs)
  obtain ⟨bl, hbl⟩ : ∃ bl, Go.bitLen (val xs) = bl := ⟨_, rfl⟩
  rw [hbl] at B hz
  have HN := hid B
  clear h B hbl
  by_cases h0 : bl = 0
  · rw [sign_zero s (hz.1 h0)]
    subst h0
    clear hz
    go_enter Tryd.func45, Tryd.ntmps45
    go_wp2_with fail
    refine HN.out.mono ?_
    rintro e w' ⟨rfl, rfl⟩
    go_wp2
    go_ret
    exact ⟨rfl, HB.out⟩
  · have h1 : val xs ≠ 0 := fun e => h0 (hz.2 e)
    cases s with
    | false =>
      rw [sign_pos h1]
      clear hz h1
      go_enter Tryd.func45, Tryd.ntmps45
      go_wp2_with fail
      refine HN.out.mono ?_
      rintro e w' ⟨rfl, rfl⟩
      go_wp2
      go_ret
      exact ⟨rfl, HB.out⟩
    | true =>
      rw [sign_neg h1]
      clear hz h1
      go_enter Tryd.func45, Tryd.ntmps45
      go_wp2_with fail
      refine HN.out.mono ?_
      rintro e w' ⟨rfl, rfl⟩
      go_wp2
      go_ret
      exact ⟨rfl, HB.out⟩
end Go.Proofs.YtdhjgekbocnnkaaDoor
