/-
  Small: a number as an int64, the document's.
-/
import Derived.Test.YtoplejeljmpcpaaDoorZSmall
namespace Go.Proofs.YtoplejeljmpcpaaDoor
open Go.RowKit Nt
set_option linter.unusedSimpArgs false
set_option linter.unusedVariables false
set_option maxRecDepth 20000

theorem keep2b {w w1 w2 : World} {a1 a2 : Addr} {v1 v2 : Value}
    (h : w1.cell? a1 = some v1 ∧ w1.cell? a2 = some v2 ∧ Hid (Below w.heap.size w w1)) (hb : Below w1.heap.size w1 w2) :
    w2.cell? a1 = some v1 ∧ w2.cell? a2 = some v2 ∧ Hid (Below w.heap.size w w2) :=
  ⟨cell_below h.1 hb, cell_below h.2.1 hb, Below.trans h.2.2 (hb.mono (Below.size h.2.2))⟩
theorem bel2b {A B : Prop} {w w' : World} (h : A ∧ B ∧ Hid (Below w.heap.size w w')) : Below w.heap.size w w' := h.2.2

theorem low_wrap (V : Nat) (h : V ≤ 9223372036854775808) : wrap64 (IntKind.u64.wrap (-(V : Int))) = -(V : Int) := by
  simp only [wrap64, IntKind.wrap_i64, IntKind.wrap_u64]
  omega

end Go.Proofs.YtoplejeljmpcpaaDoor
