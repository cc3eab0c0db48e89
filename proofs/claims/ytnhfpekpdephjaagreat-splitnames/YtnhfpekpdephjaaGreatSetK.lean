import Derived.Test.YtnhfpekpdephjaaGreatSetA
import Derived.Test.YtnhfpekpdephjaaGreatSetD
/-
 The law's own helpers: same, awake; and what awake calls: word, ofWord, Div of small numbers, Text of 0.
-/
namespace Go.Proofs.YtnhfpekpdephjaaGreat
open Go.RowKit Nt
set_option linter.unusedSimpArgs false
set_option linter.unusedVariables false
set_option maxRecDepth 20000

theorem heap_alloc_old' (w : World) (o : Obj) (k : Nat) (h : k < w.heap.size) : (w.alloc o).heap[k]? = w.heap[k]? := Below.heap_alloc w o k h

theorem digs_small {x : Nat} (h0 : x ≠ 0) (hx : x < 4294967296) : digs x = [x] := by
 have := digs_of (xs := [x]) (Ok.cons hx Ok.nil) (Or.inr (by simpa using h0))
 rwa [val_one] at this

end Go.Proofs.YtnhfpekpdephjaaGreat

/-
 The calls of nat as calls on numbers: whatever limbs an argument has, what counts is what it is worth.
-/
namespace Go.Proofs.YtnhfpekpdephjaaGreat
open Go.RowKit Nt
set_option linter.unusedSimpArgs false
set_option linter.unusedVariables false
set_option maxRecDepth 20000

/-- The slice is worth a. -/
def Num (w : World) (p : Option Addr) (n c a : Nat) : Prop := ∃ xs, Sl w p n c xs ∧ val xs = a
theorem Num.below {w w' : World} {p : Option Addr} {n c a : Nat} (h : Num w p n c a) (hb : Below w.heap.size w w') : Num w' p n c a := by
 obtain ⟨xs, h1, h2⟩ := h
 exact ⟨xs, h1.below hb, h2⟩
theorem Num.dl {w : World} {p : Option Addr} {n c a : Nat} (h : Num w p n c a) : (digs a).length ≤ n := by
 obtain ⟨xs, h1, rfl⟩ := h
 exact h1.dl
end Go.Proofs.YtnhfpekpdephjaaGreat

/-
 The law's helpers: copied, kept.
-/
namespace Go.Proofs.YtnhfpekpdephjaaGreat
open Go.RowKit Nt
set_option linter.unusedSimpArgs false
set_option linter.unusedVariables false
set_option maxRecDepth 20000

theorem Own.row {w : World} {base : Nat} {v : Value} {xs : List Nat} (h : Own w base v xs) (hne : xs ≠ []) :
  ∃ g cap, v = .slice (some ⟨g, 0, none⟩) xs.length cap ∧ base ≤ g ∧ g < w.heap.size ∧ xs.length ≤ cap ∧ cap ≤ maxLen ∧ Limbs w (some ⟨g, 0, none⟩) xs := by
 obtain ⟨h1, h2⟩ := h
 rcases h2 with ⟨rfl, h0⟩ | ⟨g, cap, cur, rfl, hb, hg, hc, hm, hs, ht⟩
 ·exact absurd (List.length_eq_zero_iff.1 h0) hne
 ·refine ⟨g, cap, rfl, hb, (Array.getElem?_eq_some_iff.1 hg).1, hc, hm, fun i hi => ⟨g, 0, rfl, ?_⟩⟩
  have e : (cur.toList.take (xs.length * 1))[i]? = some (.int .u32 (xs.getD i 0)) := by rw [ht]; exact U_get xs i hi
  rw [List.getElem?_take, if_pos (by omega)] at e
  simp only [World.cell?, hg]
  simpa using e

/-- What copied makes: a row of its own: the limbs, then 77, 78, 79. -/
structure Copy (w w' : World) (g n cr : Nat) (xs : List Nat) : Prop where
 below : Below w.heap.size w w'
 fresh : w.heap.size ≤ g
 cap : n + 3 ≤ cr
 max : cr ≤ maxLen
 lie : Limbs w' (some ⟨g, 0, none⟩) (xs ++ [77, 78, 79])

theorem Copy.sl {w w' : World} {g n cr : Nat} {xs : List Nat} (h : Copy w w' g n cr xs) (ho : Ok xs) (hn : xs.length = n) : Sl w' (some ⟨g, 0, none⟩) n cr xs :=
 ⟨hn, by have := h.cap; omega, h.max, (fun e => by cases e), ho, by
  have := h.lie.take xs.length
  rwa [List.take_left] at this⟩
end Go.Proofs.YtnhfpekpdephjaaGreat
