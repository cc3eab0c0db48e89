import Derived.Test.YtnhfpekpdephjaaGreatSetD
import Derived.Test.YtnhfpekpdephjaaGreatSetA
import Derived.Test.YtnhfpekpdephjaaGreatSetK
import Derived.Laws.AppendOwn
import Derived.Maps.AppendAt
import Derived.Deep.LoopGhost
import Derived.Test.YtnhfpekpdephjaaGreatSetF
import Derived.Test.YtnhfpekpdephjaaGreatSetM
import Derived.Test.YtnhfpekpdephjaaGreatSetQ
/-
 append(a, make([]uint32, k)...): a row of the call's own, longer by k noughts.
-/
namespace Go.Proofs.YtnhfpekpdephjaaGreat
open Go.RowKit Nt
set_option linter.unusedSimpArgs false
set_option linter.unusedVariables false
set_option maxRecDepth 20000

theorem Own.otherZ {w w' : World} {base : Nat} {v : Value} {xs : List Nat} (h : Own w base v xs) (hk : ∀ k, v.ownBlock = some k → w'.heap[k]? = w.heap[k]?) : Own w' base v xs := by
 obtain ⟨h1, h2⟩ := h
 refine ⟨h1, ?_⟩
 rcases h2 with h2 | ⟨g, cap, cur, rfl, h4, hg, hr⟩
 ·exact Or.inl h2
 ·exact Or.inr ⟨g, cap, cur, rfl, h4, (hk g rfl).trans hg, hr⟩

end Go.Proofs.YtnhfpekpdephjaaGreat

/-
 zint.pile: the sum of a row of the caller's own and another, in place but for limbs that come behind.
-/
namespace Go.Proofs.YtnhfpekpdephjaaGreat
open Go.RowKit Nt
set_option linter.unusedSimpArgs false
set_option linter.unusedVariables false
set_option maxRecDepth 20000

end Go.Proofs.YtnhfpekpdephjaaGreat

/-
 zint.total and zint.Sum: the sum of a list of numbers.
-/
namespace Go.Proofs.YtnhfpekpdephjaaGreat
open Go Go.RowKit Nt
set_option linter.unusedSimpArgs false
set_option linter.unusedVariables false
set_option maxRecDepth 20000

/-- What total's loop keeps: two rows of the call's own, and the result's place. -/
structure TI (w wr : World) (g : Nat) (es : List El) (k : Nat) (s3 s4 : Value) (P M : List Nat) : Prop where
 own1 : Own wr w.heap.size s3 P
 own2 : Own wr w.heap.size s4 M
 ok1 : Ok P
 ok2 : Ok M
 sum : (val P : Int) - (val M : Int) = tot es k
 len1 : P.length ≤ 1073741824 + k
 len2 : M.length ≤ 1073741824 + k
 sep : ∀ j, s3.ownBlock = some j → s4.ownBlock = some j → False
 inv : Inv w wr g
 far1 : s3.ownBlock ≠ some g
 far2 : s4.ownBlock ≠ some g
/-- On by one element: the row that it is added to. -/
theorem TI.next {w wr w3 : World} {g : Nat} {es : List El} {k : Nat} {s3 s4 v' : Value} {P M Z : List Nat} {e : El} {a b : Value} (h : TI w wr g es k s3 s4 P M) (he : es[k]? = some e) (hlen : e.n ≤ 1073741824) (neg : Bool) (hneg : e.s = neg)
  (own : Own w3 w.heap.size v' Z) (ok : Ok Z) (hv : val Z = (if neg then val M else val P) + val e.xs) (hl : Z.length ≤ max (if neg then M.length else P.length) e.n + 1)
  (oth : ∀ j, j < (wr.alloc (.cells #[a, b] 33)).heap.size → (if neg then s4 else s3).ownBlock ≠ some j → w3.heap[j]? = (wr.alloc (.cells #[a, b] 33)).heap[j]?)
  (at' : v'.ownBlock = (if neg then s4 else s3).ownBlock ∨ ∀ j, v'.ownBlock = some j → (wr.alloc (.cells #[a, b] 33)).heap.size ≤ j)
  (bel : Below w.heap.size (wr.alloc (.cells #[a, b] 33)) w3) :
  TI w w3 g es (k + 1) (if neg then s3 else v') (if neg then v' else s4) (if neg then P else Z) (if neg then Z else M) := by
 have hsz : wr.heap.size ≤ (wr.alloc (.cells #[a, b] 33)).heap.size := by simp
 have hal : ∀ j, j < wr.heap.size → (wr.alloc (.cells #[a, b] 33)).heap[j]? = wr.heap[j]? := fun j hj => heap_alloc_old' wr _ j hj
 have hs := tot_succ he
 have gl := h.inv.lt
 have hB : Below w.heap.size w w3 := by
  have e1 := h.inv.below.alloc (h.inv.below.size) (.cells #[a, b] 33)
  exact ⟨bel.os.trans e1.os, bel.tape.trans e1.tape, bel.output.trans e1.output, Nat.le_trans e1.size bel.size, fun i hi => (bel.block i hi).trans (e1.block i hi)⟩
 have box : (if neg then s4 else s3).ownBlock ≠ some g → Inv w w3 g := fun hne => by
  obtain ⟨b0, r0, n0, c0, hx⟩ := h.inv.box
  exact ⟨hB, ⟨b0, r0, n0, c0, ((oth g (by omega) hne).trans (hal g gl)).trans hx⟩, h.inv.fresh⟩
 cases neg with
 | true =>
  simp only [if_true] at *
  refine ⟨h.own1.otherZ (fun j hj => ?_), own, h.ok1, ok, ?_, by have := h.len1; omega, by have := h.len2; omega, fun j h1 h2 => ?_, box h.far2, h.far1, fun e => ?_⟩
  ·have hj2 := (World.ownsRow.lt h.own1 j hj).2
   exact (oth j (by omega) (fun e => h.sep j hj e)).trans (hal j hj2)
  ·rw [hs, ← h.sum, hv, hneg, Int.natCast_add]; simp only [sg, if_true]; omega
  ·rcases at' with f | f
   ·exact h.sep j h1 (by rw [← f]; exact h2)
   ·have := f j h2; have := (World.ownsRow.lt h.own1 j h1).2; omega
  ·rcases at' with f | f
   ·exact h.far2 (by rw [← f]; exact e)
   ·have := f g e; omega
 | false =>
  simp only [Bool.false_eq_true, if_false] at *
  refine ⟨own, h.own2.otherZ (fun j hj => ?_), ok, h.ok2, ?_, by have := h.len1; omega, by have := h.len2; omega, fun j h1 h2 => ?_, box h.far1, fun e => ?_, h.far2⟩
  ·have hj2 := (World.ownsRow.lt h.own2 j hj).2
   exact (oth j (by omega) (fun e => h.sep j e hj)).trans (hal j hj2)
  ·rw [hs, ← h.sum, hv, hneg, Int.natCast_add]; simp only [sg, Bool.false_eq_true, if_false]; omega
  ·rcases at' with f | f
   ·exact h.sep j (by rw [← f]; exact h1) h2
   ·have := f j h1; have := (World.ownsRow.lt h.own2 j h2).2; omega
  ·rcases at' with f | f
   ·exact h.far1 (by rw [← f]; exact e)
   ·have := f g e; omega

end Go.Proofs.YtnhfpekpdephjaaGreat

/-
 Lists of numbers by their signs and limbs: rows that begin as nil, rows that are read; zint.Sum.
-/
namespace Go.Proofs.YtnhfpekpdephjaaGreat
open Go Go.RowKit Nt
set_option linter.unusedSimpArgs false
set_option linter.unusedVariables false
set_option maxRecDepth 20000

end Go.Proofs.YtnhfpekpdephjaaGreat
