/-
  Where two ways of the code meet: what is known there, and what comes behind, proved once.
-/
import Derived.Test.YtdhjgekbocnnkaaDoorSetQ
namespace Go.Proofs.YtdhjgekbocnnkaaDoor
open Go Go.RowKit
set_option linter.unusedSimpArgs false
set_option linter.unusedVariables false
set_option maxRecDepth 20000
section
variable {P : Program} {Q : Exit → Act → World → Prop} {a : Act} {w : World}
theorem wp_seq_join {x y : Code} (I : Act → World → Prop) (h1 : ∀ a W, I a W → y.wp P Q a W) (h : x.wp P (Exit.then I Q) a w) : (Code.seq x y).wp P Q a w :=
  wp_seq (wp_mono h (fun e a w q => by cases e <;> first | exact h1 _ _ q | exact q))
theorem wp_have2 {x1 x2 y : Code} (I : Act → World → Prop) (h1 : ∀ a W, I a W → y.wp P Q a W) (h : (∀ a W, I a W → y.wp P Q a W) → (Code.seq x1 (Code.seq x2 y)).wp P Q a w) : (Code.seq x1 (Code.seq x2 y)).wp P Q a w := h h1
theorem wp_have3 {x1 x2 x3 y : Code} (I : Act → World → Prop) (h1 : ∀ a W, I a W → y.wp P Q a W) (h : (∀ a W, I a W → y.wp P Q a W) → (Code.seq x1 (Code.seq x2 (Code.seq x3 y))).wp P Q a w) : (Code.seq x1 (Code.seq x2 (Code.seq x3 y))).wp P Q a w := h h1
theorem wp_have4 {x1 x2 x3 x4 y : Code} (I : Act → World → Prop) (h1 : ∀ a W, I a W → y.wp P Q a W) (h : (∀ a W, I a W → y.wp P Q a W) → (Code.seq x1 (Code.seq x2 (Code.seq x3 (Code.seq x4 y)))).wp P Q a w) : (Code.seq x1 (Code.seq x2 (Code.seq x3 (Code.seq x4 y)))).wp P Q a w := h h1
end
end Go.Proofs.YtdhjgekbocnnkaaDoor
