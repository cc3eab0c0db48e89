/-
  What zint's laws share: the way in, the first statement's two copies.
-/
import Derived.Test.YtoplejeljmpcpaaDoorZAdd
import Derived.Test.YtoplejeljmpcpaaDoorSetX
import Derived.Deep.DeepCutAuto
namespace Go.Proofs.YtoplejeljmpcpaaDoor
open Go.RowKit Nt
set_option linter.unusedSimpArgs false
set_option linter.unusedVariables false
set_option maxRecDepth 20000

/-- Into a law of two numbers. -/
theorem enter2b (w : World) (s : Bool) (p : Option Addr) (n c : Nat) (t : Bool) (q : Option Addr) (m d : Nat) :
    ∃ W g, w.heap.size = g ∧ (w.alloc (.cells #[.bool s, .slice p n c] 24)).alloc (.cells #[.bool t, .slice q m d] 24) = W ∧
      W.cell? ⟨g, 0, none⟩ = some (.bool s) ∧ W.cell? ⟨g, 1, none⟩ = some (.slice p n c) ∧ W.cell? ⟨g + 1, 0, none⟩ = some (.bool t) ∧ W.cell? ⟨g + 1, 1, none⟩ = some (.slice q m d) ∧ Hid (Below w.heap.size w W) := by
  have B1 := below_alloc w (.cells #[.bool s, .slice p n c] 24)
  have B2 := below_alloc (w.alloc (.cells #[.bool s, .slice p n c] 24)) (.cells #[.bool t, .slice q m d] 24)
  have X1 := (box_alloc w s p n c).below B2
  have X2 := box_alloc (w.alloc (.cells #[.bool s, .slice p n c] 24)) t q m d
  rw [show (w.alloc (.cells #[.bool s, .slice p n c] 24)).heap.size = w.heap.size + 1 from by simp] at X2
  exact ⟨_, _, rfl, rfl, X1.at0, X1.at1, X2.at0, X2.at1, B1.trans (B2.mono B1.size)⟩

/-- What holds through the law's first statement: both numbers that came in lie in their boxes, and nothing that was there has turned. -/
def Sb (w : World) (g : Nat) (s t : Bool) (p q : Option Addr) (n c m d : Nat) (w' : World) : Prop :=
  w'.cell? ⟨g, 0, none⟩ = some (.bool s) ∧ w'.cell? ⟨g, 1, none⟩ = some (.slice p n c) ∧ w'.cell? ⟨g + 1, 0, none⟩ = some (.bool t) ∧ w'.cell? ⟨g + 1, 1, none⟩ = some (.slice q m d) ∧ Hid (Below w.heap.size w w')
theorem Sb.out {w w' : World} {g n c m d : Nat} {s t : Bool} {p q : Option Addr} (h : Sb w g s t p q n c m d w') :
    w'.cell? ⟨g, 0, none⟩ = some (.bool s) ∧ w'.cell? ⟨g, 1, none⟩ = some (.slice p n c) ∧ w'.cell? ⟨g + 1, 0, none⟩ = some (.bool t) ∧ w'.cell? ⟨g + 1, 1, none⟩ = some (.slice q m d) ∧ Hid (Below w.heap.size w w') := h
theorem belOf {A B C D : Prop} {w w' : World} (h : A ∧ B ∧ C ∧ D ∧ Hid (Below w.heap.size w w')) : Below w.heap.size w w' := h.2.2.2.2
theorem Sb.bel {w w' : World} {g n c m d : Nat} {s t : Bool} {p q : Option Addr} (h : Sb w g s t p q n c m d w') : Below w.heap.size w w' := h.2.2.2.2
theorem Sb.call {w w1 w2 : World} {g n c m d : Nat} {s t : Bool} {p q : Option Addr} (h : Sb w g s t p q n c m d w1) (hb : Below w1.heap.size w1 w2) : Sb w g s t p q n c m d w2 :=
  ⟨cell_below h.1 hb, cell_below h.2.1 hb, cell_below h.2.2.1 hb, cell_below h.2.2.2.1 hb, h.bel.trans (hb.mono h.bel.size)⟩
theorem Sb.alloc {w w1 : World} {g n c m d : Nat} {s t : Bool} {p q : Option Addr} (h : Sb w g s t p q n c m d w1) (o : Obj) : Sb w g s t p q n c m d (w1.alloc o) := h.call (below_alloc _ _)
theorem Sb.set {w w1 : World} {g n c m d b : Nat} {s t : Bool} {p q : Option Addr} {v0 v1 : Value} (h : Sb w g s t p q n c m d w1) (hg : w.heap.size = g) (hb : g + 1 < b) : Sb w g s t p q n c m d ((w1.setCell ⟨b, 0, none⟩ v0).setCell ⟨b, 1, none⟩ v1) :=
  ⟨far h.1 (by simp; omega), far h.2.1 (by simp; omega), far h.2.2.1 (by simp; omega), far h.2.2.2.1 (by simp; omega), (h.bel.setCell (by simp; omega) _).setCell (by simp; omega) _⟩
theorem box_alloc2 (w : World) (o : Obj) (neg : Bool) (p : Option Addr) (n c : Nat) : Box ((w.alloc o).alloc (.cells #[.bool neg, .slice p n c] 24)) (w.heap.size + 1) neg p n c := by
  have := box_alloc (w.alloc o) neg p n c
  rwa [show (w.alloc o).heap.size = w.heap.size + 1 from by simp] at this
theorem Box.far {w : World} {b b' n c : Nat} {neg : Bool} {p : Option Addr} {v0 v1 : Value} (h : Box w b neg p n c) (hb : b ≠ b') : Box ((w.setCell ⟨b', 0, none⟩ v0).setCell ⟨b', 1, none⟩ v1) b neg p n c := by
  show _ = _
  rw [Below.heap_setCell _ _ _ _ (by simpa using hb), Below.heap_setCell _ _ _ _ (by simpa using hb)]
  exact h

/-- Behind the law's first statement. -/
structure Own2 (w wc : World) (g : Nat) (s t : Bool) (p q : Option Addr) (n c m d : Nat) (xs ys : List Nat) (bx gx crx by' gy cry : Nat) : Prop where
  sb : Sb w g s t p q n c m d wc
  bx : Box wc bx s (some ⟨gx, 0, none⟩) n crx
  by' : Box wc by' t (some ⟨gy, 0, none⟩) m cry
  sx : Sl wc (some ⟨gx, 0, none⟩) n crx xs
  sy : Sl wc (some ⟨gy, 0, none⟩) m cry ys
end Go.Proofs.YtoplejeljmpcpaaDoor
