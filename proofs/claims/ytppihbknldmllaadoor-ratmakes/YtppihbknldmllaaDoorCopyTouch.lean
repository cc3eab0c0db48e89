/-
  What copied made, behind writes elsewhere.
-/
import Derived.Test.YtppihbknldmllaaDoorCopied
import Derived.Test.YtppihbknldmllaaDoorTouch
namespace Go.Proofs.YtppihbknldmllaaDoor
open Go.RowKit Nt
set_option linter.unusedSimpArgs false
set_option linter.unusedVariables false
set_option maxRecDepth 20000

theorem Copy.touch {w W wr : World} {g n cr b : Nat} {xs : List Nat} (h : Copy w W g n cr xs) (t : Touch b W wr) (hgb : g ≠ b) (hb : w.heap.size ≤ b) : Copy w wr g n cr xs :=
  ⟨t.below h.below hb, h.fresh, h.cap, h.max, t.limbs h.lie (fun b' o e _ => by simp only [Option.some.injEq, Addr.mk.injEq] at e; rw [← e.1]; exact hgb)⟩
theorem Copy.lt {w W : World} {g n cr : Nat} {xs : List Nat} (h : Copy w W g n cr xs) : g < W.heap.size := by
  obtain ⟨b, o, e, hc⟩ := h.lie xs.length (by simp)
  simp only [Option.some.injEq, Addr.mk.injEq] at e
  have := cell_some_block hc
  simp at this
  omega

end Go.Proofs.YtppihbknldmllaaDoor
