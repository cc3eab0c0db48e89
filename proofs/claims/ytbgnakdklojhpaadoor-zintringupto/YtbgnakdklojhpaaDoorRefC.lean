/-
  The document's own answers: Add, less, Sub.
-/
import Derived.Test.YtbgnakdklojhpaaDoorRefB
namespace Go.Proofs.YtbgnakdklojhpaaDoor
open Go.RowKit Nt
set_option linter.unusedSimpArgs false
set_option linter.unusedVariables false

theorem getD_take_step (xs : List Nat) (k : Nat) : val (xs.take (k + 1)) = val (xs.take k) + 4294967296 ^ k * xs.getD k 0 := by
  by_cases h : k < xs.length
  · exact val_take_succ xs k h
  · rw [List.take_of_length_le (by omega), List.take_of_length_le (by omega), List.getD_eq_getElem?_getD, List.getElem?_eq_none (by omega)]
    simp

theorem take_val {ys : List Nat} {n : Nat} (h : val ys < 4294967296 ^ n) : val (ys.take n) = val ys := by
  by_cases hn : n ≤ ys.length
  · have e := val_split ys n hn
    have hz : val (ys.drop n) = 0 := by
      apply Classical.byContradiction
      intro hne
      have : 4294967296 ^ n * 1 ≤ 4294967296 ^ n * val (ys.drop n) := Nat.mul_le_mul_left _ (by omega)
      omega
    rw [hz, Nat.mul_zero, Nat.add_zero] at e
    exact e.symm
  · rw [List.take_of_length_le (by omega)]

theorem sub_below (w : World) (p q : Option Addr) (n c m d : Nat) (xs ys : List Nat) (h : Sl w p n c xs) (h' : Sl w q m d ys) (hlt : val xs < val ys) :
    Calls Tryd.prog 22 #[.slice p n c, .slice q m d] w fun e w' => e = .returned (.tuple #[.slice none 0 0, .int .i64 10]) ∧ ∃ nq, w' = w.drewN nq := by
  have C := cmp_s w p q n c m d xs ys h h'
  have e : cmpN (val xs) (val ys) = -1 := by simp [cmpN, hlt]
  rw [e] at C
  have HC := hid C
  clear C e h h' hlt
  go_enter Tryd.func22, Tryd.ntmps22
  go_wp2_with fail
  refine HC.out.mono ?_
  rintro e w' ⟨rfl, nq, rfl⟩
  go_wp2
  go_ret2
  exact ⟨rfl, dr1 _ _⟩
end Go.Proofs.YtbgnakdklojhpaaDoor
