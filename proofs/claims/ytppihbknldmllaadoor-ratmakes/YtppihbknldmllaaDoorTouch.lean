/-
  A row that a law writes into behind the calls: nothing else turns.
-/
import Derived.Test.YtppihbknldmllaaDoorSetA
namespace Go.Proofs.YtppihbknldmllaaDoor
open Go.RowKit Nt
set_option linter.unusedSimpArgs false
set_option linter.unusedVariables false
set_option maxRecDepth 20000

/-- Only block b has been written. -/
structure Touch (b : Nat) (W w : World) : Prop where
  os : w.os = W.os
  tape : w.tape = W.tape
  output : w.output = W.output
  size : w.heap.size = W.heap.size
  block : ∀ k, k ≠ b → w.heap[k]? = W.heap[k]?

theorem Touch.refl (b : Nat) (W : World) : Touch b W W := ⟨rfl, rfl, rfl, rfl, fun _ _ => rfl⟩
theorem Touch.setCell {b : Nat} {W w : World} (h : Touch b W w) (i : Nat) (v : Value) : Touch b W (w.setCell ⟨b, i, none⟩ v) :=
  ⟨h.os, h.tape, h.output, by simpa [World.setCell] using h.size, fun k hk => (Below.heap_setCell _ _ _ _ (by simpa using hk)).trans (h.block k hk)⟩
theorem Touch.drewN {b : Nat} {W w : World} (h : Touch b W w) (n : Nat) : Touch b W (w.drewN n) := ⟨h.os, h.tape, h.output, h.size, h.block⟩
theorem Touch.below {b B : Nat} {W0 W w : World} (h : Touch b W w) (hb : Below B W0 W) (hB : B ≤ b) : Below B W0 w :=
  hb.trans ⟨h.os, h.tape, h.output, by rw [h.size]; exact Nat.le_refl _, fun k hk => h.block k (by omega)⟩
theorem Touch.limbs {b : Nat} {W w : World} {q : Option Addr} {ys : List Nat} (h : Touch b W w) (hl : Limbs W q ys) (hq : Apart q ys b) : Limbs w q ys := fun i hi => by
  obtain ⟨b', o, e, hc⟩ := hl i hi
  exact ⟨b', o, e, (World.cell?_of_block (w := W) (h.block b' (hq b' o e (by intro e; rw [e] at hi; simp at hi)))).trans hc⟩
theorem Touch.sl {b : Nat} {W w : World} {q : Option Addr} {n c : Nat} {ys : List Nat} (h : Touch b W w) (hl : Sl W q n c ys) (hq : Apart q ys b) : Sl w q n c ys :=
  ⟨hl.len, hl.cap, hl.max, hl.nil, hl.ok, h.limbs hl.lie hq⟩

/-- The row of a number that was handed back, to be written into. -/
def Target (w' : World) (r : Option Addr) (L b : Nat) : Prop := L = 0 ∨ (r = some ⟨b, 0, none⟩ ∧ ∃ ys, Blk w' b ys ∧ L ≤ ys.length)

theorem Res.target {w w' : World} {r : Option Addr} {c n : Nat} (h : Res w w' r c n) : ∃ b, w.heap.size ≤ b ∧ Target w' r (digs n).length b := by
  by_cases h0 : (digs n).length = 0
  · exact ⟨w.heap.size, Nat.le_refl _, Or.inl h0⟩
  · obtain ⟨b, o, e, hc⟩ := h.sl.lie 0 (by omega)
    obtain ⟨rfl, h2, rest, h3, _, _⟩ := h.own b o e
    exact ⟨b, h2, Or.inr ⟨e, _, h3, by simp⟩⟩
theorem Target.below {w w' : World} {r : Option Addr} {L b : Nat} (h : Target w r L b) (hb : Below w.heap.size w w') : Target w' r L b := by
  rcases h with h | ⟨h1, ys, h2, h3⟩
  · exact Or.inl h
  · exact Or.inr ⟨h1, ys, h2.below hb, h3⟩
theorem Target.touch {w w' : World} {r : Option Addr} {L b c : Nat} (h : Target w r L b) (ht : Touch c w w') (hbc : b ≠ c) : Target w' r L b := by
  rcases h with h | ⟨h1, ys, h2, h3⟩
  · exact Or.inl h
  · exact Or.inr ⟨h1, ys, (ht.block b hbc).trans h2, h3⟩
theorem Target.set {w : World} {r : Option Addr} {L b : Nat} (h : Target w r L b) (i z : Nat) : Target (w.setCell ⟨b, i, none⟩ (.int .u32 z)) r L b := by
  rcases h with h | ⟨h1, ys, h2, h3⟩
  · exact Or.inl h
  · exact Or.inr ⟨h1, ys.set i z, Wr.blk h2 (Wr.set h2 (Wr.refl h2) i z), by simpa using h3⟩
theorem Target.cell {w : World} {r : Option Addr} {L b k : Nat} (h : Target w r L b) (hk : k < L) : r = some ⟨b, 0, none⟩ ∧ (∃ x : Nat, w.cell? ⟨b, k, none⟩ = some (.int .u32 x)) ∧ w.frozen? ⟨b, k, none⟩ = false := by
  rcases h with h | ⟨h1, ys, h2, h3⟩
  · omega
  · exact ⟨h1, ⟨_, h2.cell k (by omega)⟩, h2.frozen k⟩

theorem Res.span {w w' : World} {r : Option Addr} {c n : Nat} (h : Res w w' r c n) : ∀ b o, r = some ⟨b, o, none⟩ → w.heap.size ≤ b ∧ b < w'.heap.size := by
  intro b o e
  obtain ⟨_, h2, rest, h3, _⟩ := h.own b o e
  exact ⟨h2, h3.size⟩
/-- Where a law writes: the row of what was handed back; if that is empty: nowhere. -/
theorem Res.pick {w W : World} {r : Option Addr} {c n lo hi : Nat} (h : Res w W r c n) (hs : ∀ b o, r = some ⟨b, o, none⟩ → lo ≤ b ∧ b < hi) (j : Nat) :
    ∃ b, Target W r (digs n).length b ∧ (lo ≤ b ∧ b < hi ∨ b = W.heap.size + j) := by
  by_cases h0 : (digs n).length = 0
  · exact ⟨W.heap.size + j, Or.inl h0, Or.inr rfl⟩
  · obtain ⟨b, o, e, hc⟩ := h.sl.lie 0 (by omega)
    obtain ⟨rfl, h2, rest, h3, _, _⟩ := h.own b o e
    exact ⟨b, Or.inr ⟨e, _, h3, by simp⟩, Or.inl (hs b 0 e)⟩
end Go.Proofs.YtppihbknldmllaaDoor
