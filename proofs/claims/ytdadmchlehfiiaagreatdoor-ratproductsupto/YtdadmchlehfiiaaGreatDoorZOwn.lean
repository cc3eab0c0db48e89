/-
  The law's helpers: own, kept.
-/
import Derived.Test.YtdadmchlehfiiaaGreatDoorZFrame
import Derived.Test.YtdadmchlehfiiaaGreatDoorSetK
import Derived.Laws.AppendOwnNone
namespace Go.Proofs.YtdadmchlehfiiaaGreatDoor
open Go.RowKit Nt
set_option linter.unusedSimpArgs false
set_option linter.unusedVariables false
set_option maxRecDepth 20000

theorem invOf1 {A B : Prop} {w w' : World} {g2 : Nat} (h : A ∧ B ∧ Hid (Inv w w' g2)) : Inv w w' g2 := h.2.2
theorem keepS1 {w w1 w2 : World} {a1 a2 : Addr} {v1 v2 : Value} {g2 : Nat}
    (h : w1.cell? a1 = some v1 ∧ w1.cell? a2 = some v2 ∧ Hid (Inv w w1 g2)) (hb : Below w1.heap.size w1 w2) :
    w2.cell? a1 = some v1 ∧ w2.cell? a2 = some v2 ∧ Hid (Inv w w2 g2) :=
  ⟨cell_below h.1 hb, cell_below h.2.1 hb, Inv.call h.2.2 hb⟩
theorem keepSet1 {w w1 : World} {a1 a2 : Addr} {v1 v2 : Value} {g2 : Nat} {b : Bool} {r : Option Addr} {n c : Nat}
    (h : w1.cell? a1 = some v1 ∧ w1.cell? a2 = some v2 ∧ Hid (Inv w w1 g2)) (h1 : g2 ≠ a1.block) (h2 : g2 ≠ a2.block) :
    ((w1.setCell ⟨g2, 0, none⟩ (.bool b)).setCell ⟨g2, 1, none⟩ (.slice r n c)).cell? a1 = some v1 ∧ ((w1.setCell ⟨g2, 0, none⟩ (.bool b)).setCell ⟨g2, 1, none⟩ (.slice r n c)).cell? a2 = some v2 ∧ Hid (Inv w ((w1.setCell ⟨g2, 0, none⟩ (.bool b)).setCell ⟨g2, 1, none⟩ (.slice r n c)) g2) :=
  ⟨far h.1 h1, far h.2.1 h2, Inv.set h.2.2 b r n c⟩

theorem limbs_nine (w : World) : Limbs (w.alloc (.cells #[.int .u32 77, .int .u32 78, .int .u32 79, .int .u32 80, .int .u32 81, .int .u32 82, .int .u32 83, .int .u32 84, .int .u32 85] 52)) (some ⟨w.heap.size, 0, none⟩) [77, 78, 79, 80, 81, 82, 83, 84, 85] :=
  Blk.limbs (show Blk _ _ [77, 78, 79, 80, 81, 82, 83, 84, 85] from heap_alloc_last _ _)

/-- What own makes: a row of its own. -/
structure Cp (w w' : World) (g n cr : Nat) (xs : List Nat) : Prop where
  below : Below w.heap.size w w'
  fresh : w.heap.size ≤ g
  sl : Sl w' (some ⟨g, 0, none⟩) n cr xs
  lt : g < w'.heap.size
theorem Cp.later {w w' w'' : World} {g n cr : Nat} {xs : List Nat} (h : Cp w w' g n cr xs) (hb : Below w'.heap.size w' w'') : Cp w w'' g n cr xs :=
  ⟨h.below.trans (hb.mono h.below.size), h.fresh, h.sl.below hb, Nat.lt_of_lt_of_le h.lt hb.size⟩

theorem own_end {w2 : World} {base : Nat} {v' : Value} {xs : List Nat} {n : Nat} (hn : xs.length = n) (ho : Ok xs) (h : Own w2 base v' (xs ++ [77, 78, 79, 80, 81, 82, 83, 84, 85])) :
    ∃ g cr, v' = .slice (some ⟨g, 0, none⟩) (n + 9) cr ∧ base ≤ g ∧ n + 9 ≤ cr ∧ cr ≤ 9223372036854775807 ∧ g < w2.heap.size ∧ Hid (Sl w2 (some ⟨g, 0, none⟩) n cr xs) := by
  obtain ⟨g, cap, rfl, h1, h2, h3, h4, h5⟩ := h.row (by simp)
  refine ⟨g, cap, by simp [hn], h1, by simpa [hn] using h3, h4, h2, ⟨hn, by simp at h3; omega, h4, (fun e => by cases e), ho, ?_⟩⟩
  have := h5.take n
  rw [List.take_append_of_le_length (by omega), List.take_of_length_le (by omega)] at this
  exact this

end Go.Proofs.YtdadmchlehfiiaaGreatDoor
