import Derived.Test.YtcbkmmkmffnfdaaSetQ
import Derived.Test.YtcbkmmkmffnfdaaSetE
import Derived.Test.YtcbkmmkmffnfdaaSetX
import Derived.Test.YtcbkmmkmffnfdaaSetR
import Derived.Test.YtcbkmmkmffnfdaaSetY
import Derived.Test.YtcbkmmkmffnfdaaSetL
import Derived.Deep.Slices
/-
 The calls of zint and of the document that the layers of lists want, in the logic's form.
-/
namespace Go.Proofs.Ytcbkmmkmffnfdaa
open Go Go.RowKit Nt
set_option linter.unusedSimpArgs false
set_option linter.unusedVariables false

theorem h_zsign {A : Int} {k : Nat} (hk : k ≤ 70368744177664) : ∀ w u, Zv A k u w → Calls Try.prog 19 #[u] w (Gives (IS (.int .i64 A.sign)) w) := by
 rintro w u ⟨s, p, n, c, xs, rfl, h, rfl, hn⟩
 refine (zsign_c w s p n c xs h (by omega)).mono ?_
 rintro e w' ⟨rfl, hb⟩
 exact ⟨_, rfl, hb, rfl⟩
end Go.Proofs.Ytcbkmmkmffnfdaa

/-
 Lists of numbers: as they came in, by worth, in new memory; lists that grow by one; how the machine reads lists of lists.
-/
namespace Go.Proofs.Ytcbkmmkmffnfdaa
open Go Go.RowKit Nt
set_option linter.unusedSimpArgs false
set_option linter.unusedVariables false

/-! Words. -/
def El.pr (e : El) : Pr := Zx e.s e.p e.n e.c e.xs
/-! A list of one. -/
def Sng (E sz : Nat) (φ : Pr) (lo : Nat) : Pr := fun v w => ∃ g u, v = .slice (some ⟨g, 0, none⟩) 1 1 ∧ lo ≤ g ∧ w.heap[g]? = some (.cells u.cells E (0, 0)) ∧ Celv sz u ∧ φ u w
def Bld (T E sz : Nat) : Prop := ∀ (ρ : Operand → Value) (o : Oper) (x : Operand) (w : World) (u : Value), Celv sz u → ρ x = u → (execOp ρ { o with op := .buildSlice T 1 #[(0, x)] }).run Try.prog w = .ok (.value (.slice (some ⟨w.heap.size, 0, none⟩) 1 1)) (w.alloc (.cells u.cells E))
theorem owe_b1 {ops : Array Oper} {l : List Kd} {bx : Bxs} {sl : List (Tmp × Pr)} {i : Nat} {o : Oper} {Q : Exit → Act → World → Prop} {a0 : Act} {n0 : Nat} {w0 : World} {x : Operand} {T E sz : Nat} {φ : Pr} (ho : ops[i]? = some o) (hw : Wants ops l bx sl i o) (hop : o.op = .buildSlice T 1 #[(0, x)]) (hB : Bld T E sz) (hx : Opnd ops l bx sl i x φ) (hc : Cel sz φ) (hk : kdAt l i = .val (Sng E sz φ w0.heap.size)) : Owed Try.prog ops Q l bx sl a0 n0 w0 i :=
 owe_grow ho hw hk fun vs B a w c => by
  have hX := hx a0 n0 w0 vs B a w c
  have hcv := hc _ _ hX.now
  have hb : Below w.heap.size w (w.alloc (.cells (a.eval x).cells E)) := (Below.refl _ _).alloc (Nat.le_refl _) _
  refine ⟨.slice (some ⟨w.heap.size, 0, none⟩) 1 1, _, ?_, hb, fun w'' e'' => ?_⟩
  ·rw [← hB a.eval o x w _ hcv rfl]
   unfold execOp
   rw [hop]
  ·have ev : Ev B w w'' := ⟨e''.os.trans hb.os, e''.tape.trans hb.tape, e''.output.trans hb.output, Nat.le_trans hb.size e''.size, fun k hk hn => (e''.block k (Nat.lt_of_lt_of_le hk hb.size) hn).trans (hb.block k hk)⟩
   refine ⟨w.heap.size, _, rfl, c.lo, ?_, hcv, hX w'' ev⟩
   rw [e''.block w.heap.size (Array.getElem?_eq_some_iff.1 (heap_alloc_last w _)).1 (fun hB => by have := (c.bnd _ hB).2; omega)]
   exact heap_alloc_last _ _
def El.sx (e : El) : Bool × List Nat := (e.s, e.xs)
end Go.Proofs.Ytcbkmmkmffnfdaa

/-
  The first elements of a list that is only read.
-/
namespace Go.Proofs.Ytcbkmmkmffnfdaa
open Go Go.RowKit Nt
set_option linter.unusedSimpArgs false
set_option linter.unusedVariables false

section
variable {ops : Array Oper} {l : List Kd} {bx : Bxs} {sl : List (Tmp × Pr)} {i : Nat} {o : Oper} {Q : Exit → Act → World → Prop} {a0 : Act} {n0 : Nat} {w0 : World}
end
end Go.Proofs.Ytcbkmmkmffnfdaa

/-
 Arguments that are matrices of numbers with a sign: what the row's reading gives.
-/
namespace Go.Proofs.Ytcbkmmkmffnfdaa
open Go.ChangeShapes Go.WideShapes Go.ChangeAt Go.RowKit Nt
set_option linter.unusedSimpArgs false
set_option linter.unusedVariables false

/-- A row as it lies in a matrix. -/
structure Rw where
 p : Option Addr
 n : Nat
 c : Nat
 es : List El
instance : Inhabited Rw := ⟨⟨none, 0, 0, []⟩⟩
end Go.Proofs.Ytcbkmmkmffnfdaa
