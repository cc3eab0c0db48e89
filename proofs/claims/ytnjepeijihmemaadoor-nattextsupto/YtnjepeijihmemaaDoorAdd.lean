/-
  nat.Add.
-/
import Derived.Test.YtnjepeijihmemaaDoorAddTo
namespace Go.Proofs.YtnjepeijihmemaaDoor
open Go.RowKit Nt
set_option linter.unusedSimpArgs false
set_option linter.unusedVariables false

theorem addTo_0 (w : World) (g : Nat) (A : List Nat) (n c : Nat) (q : Option Addr) (m d : Nat) (B : List Nat) (hn : A.length = n) (hnc : n ≤ c) (hcm : c ≤ maxLen)
    (hg : Blk w g A) (hA : Ok A) (hB : Sl w q m d B) (hq : Apart q B g) (hmn : m ≤ n) :
    Calls Tryd.prog 48 #[.slice (some ⟨g, 0, none⟩) n c, .slice q m d] w fun e w' =>
      ∃ (Z : List Nat) (cy : Nat), Z.length = n ∧ Ok Z ∧ cy ≤ 1 ∧ val Z + 4294967296 ^ n * cy = val A + val B ∧ e = .returned (.int .u32 cy) ∧ Wr w g Z w' := by
  refine (addTo_c w g [] A [] n c q m d B hn hnc hcm (by simpa using hg) hA hB hq hmn).mono ?_
  rintro e w' ⟨Z, cy, h1, h2, h3, h4, h5, h6⟩
  exact ⟨Z, cy, h1, h2, h3, h4, h5, by simpa using h6⟩

theorem add_sum_aux (P VZ VA VB cy : Nat) (h : VZ + P * 4294967296 * cy = VA + VB) (a1 : VA < P) (a2 : VB < P) : VZ = VA + VB := by
  have hc : cy = 0 := by
    apply Classical.byContradiction
    intro hne
    have h2 : P * 2 ≤ P * (4294967296 * cy) := Nat.mul_le_mul_left _ (by omega)
    rw [← Nat.mul_assoc] at h2
    omega
  rw [hc, Nat.mul_zero] at h
  exact h

/-- No carry is left, as there is a limb more. -/
theorem add_sum {A B : List Nat} {k cy : Nat} {Z : List Nat} (hA : Ok A) (hB : Ok B) (hAk : A.length = k) (hBk : B.length ≤ k) (h : val Z + 4294967296 ^ (k + 1) * cy = val (A ++ [0]) + val B) : val Z = val A + val B := by
  have e : val (A ++ [0]) = val A := by rw [val_snoc, Nat.mul_zero, Nat.add_zero]
  rw [e, Nat.pow_succ] at h
  have a1 := val_lt hA
  rw [hAk] at a1
  exact add_sum_aux _ _ _ _ _ h a1 (Nat.lt_of_lt_of_le (val_lt hB) (Nat.pow_le_pow_right (Nat.zero_lt_succ _) hBk))

/-- Add's end: the row that was made, written once by addTo. -/
theorem add_end {w w' w'' : World} {A B Z : List Nat} {k cy n : Nat} (hA : Ok A) (hB : Ok B) (hAk : A.length = k) (hBk : B.length ≤ k) (hz : Ok Z) (hl : Z.length = k + 1) (hk : k ≤ 70368744177663) (hn : val A + val B = n)
    (h : val Z + 4294967296 ^ (k + 1) * cy = val (A ++ [0]) + val B) (hw : w' = w.alloc (.cells (U (A ++ [0])).toArray 39)) (hwr : Wr w' w.heap.size Z w'') : Res w w'' (some ⟨w.heap.size, 0, none⟩) (k + 1) n := by
  have hb : Below w.heap.size w w' := by rw [hw]; exact (Below.refl _ _).alloc (Nat.le_refl _) _
  have hblk : Blk w' w.heap.size (A ++ [0]) := by rw [hw]; exact heap_alloc_last _ _
  exact Res.row (hwr.below hb (Nat.le_refl _)) (Wr.blk hblk hwr) hz ((add_sum hA hB hAk hBk h).trans hn) (Nat.le_refl _) hl (by unfold maxLen; omega)

end Go.Proofs.YtnjepeijihmemaaDoor
