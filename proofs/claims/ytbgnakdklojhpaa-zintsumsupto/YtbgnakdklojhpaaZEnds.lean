/-
  The ends of a law's first statement, which makes two numbers' copies and lays them into variables: in whatever order it allocates, calls and stores.
-/
import Derived.Test.YtbgnakdklojhpaaZLaw
namespace Go.Proofs.Ytbgnakdklojhpaa
open Go.RowKit Nt
set_option linter.unusedSimpArgs false
set_option linter.unusedVariables false

theorem Sb.drew {w w1 : World} {g n c m d : Nat} {s t : Bool} {p q : Option Addr} (h : Sb w g s t p q n c m d w1) : Sb w g s t p q n c m d w1.drew := h.call (Below.refl _ _).drew
theorem box_dr1 (W : World) : Box (W.alloc (.cells #[.bool false, .slice none 0 0] 24)).drew W.heap.size false none 0 0 := box_alloc W false none 0 0
theorem box_dr2a (W : World) {o : Obj} : Box ((W.alloc (.cells #[.bool false, .slice none 0 0] 24)).alloc o).drew W.heap.size false none 0 0 := ((box_alloc W false none 0 0).below (below_alloc _ o)).below (Below.refl _ _).drew
theorem box_dr2b (W : World) {o : Obj} : Box ((W.alloc o).alloc (.cells #[.bool false, .slice none 0 0] 24)).drew (W.heap.size + 1) false none 0 0 := (box_alloc2 W o false none 0 0).below (Below.refl _ _).drew

theorem sl_set' {w : World} {g2 gx n c : Nat} {ds : List Nat} {v0 v1 : Value} (h : Sl w (some ⟨gx, 0, none⟩) n c ds) (ha : g2 ≠ gx) :
    Sl ((w.setCell ⟨g2, 0, none⟩ v0).setCell ⟨g2, 1, none⟩ v1) (some ⟨gx, 0, none⟩) n c ds :=
  sl_set h (fun b o e => by simp only [Option.some.injEq, Addr.mk.injEq] at e; omega)

section
variable {w w2 : World} {g n c m d gx gy crx cry : Nat} {s t : Bool} {p q : Option Addr} {xs ys : List Nat}
theorem end1 (hS : Sb w g s t p q n c m d w2) (hg : w.heap.size = g) (hx : Sl w2 (some ⟨gx, 0, none⟩) n crx xs) (hy : Sl w2 (some ⟨gy, 0, none⟩) m cry ys) :
    Own2 w ((w2.alloc (.cells #[.bool s, .slice (some ⟨gx, 0, none⟩) n crx] 24)).alloc (.cells #[.bool t, .slice (some ⟨gy, 0, none⟩) m cry] 24)) g s t p q n c m d xs ys w2.heap.size gx crx (w2.heap.size + 1) gy cry :=
  ⟨(hS.alloc _).alloc _, (box_alloc w2 _ _ _ _).below (below_alloc _ _), box_alloc2 w2 _ _ _ _ _, (hx.below (below_alloc _ _)).below (below_alloc _ _), (hy.below (below_alloc _ _)).below (below_alloc _ _)⟩
theorem end2 (hS : Sb w g s t p q n c m d w2) (hg : w.heap.size = g) (hx : Sl w2 (some ⟨gx, 0, none⟩) n crx xs) (hy : Sl w2 (some ⟨gy, 0, none⟩) m cry ys) :
    Own2 w ((w2.alloc (.cells #[.bool t, .slice (some ⟨gy, 0, none⟩) m cry] 24)).alloc (.cells #[.bool s, .slice (some ⟨gx, 0, none⟩) n crx] 24)) g s t p q n c m d xs ys (w2.heap.size + 1) gx crx w2.heap.size gy cry :=
  ⟨(hS.alloc _).alloc _, box_alloc2 w2 _ _ _ _ _, (box_alloc w2 _ _ _ _).below (below_alloc _ _), (hx.below (below_alloc _ _)).below (below_alloc _ _), (hy.below (below_alloc _ _)).below (below_alloc _ _)⟩
theorem end3 {b : Nat} (hS : Sb w g s t p q n c m d w2) (hg : w.heap.size = g) (hx : Sl w2 (some ⟨gx, 0, none⟩) n crx xs) (hy : Sl w2 (some ⟨gy, 0, none⟩) m cry ys)
    (hb : Box w2 b false none 0 0) (h1 : g + 1 < b) (h2 : b ≠ gx) (h3 : b ≠ gy) (h4 : gx < w2.heap.size) (h5 : gy < w2.heap.size) :
    Own2 w (((((w2.alloc (.cells #[.bool false, .slice none 0 0] 24)).setCell ⟨b, 0, none⟩ (.bool s)).setCell ⟨b, 1, none⟩ (.slice (some ⟨gx, 0, none⟩) n crx)).setCell ⟨w2.heap.size, 0, none⟩ (.bool t)).setCell ⟨w2.heap.size, 1, none⟩ (.slice (some ⟨gy, 0, none⟩) m cry)) g s t p q n c m d xs ys b gx crx w2.heap.size gy cry := by
  have hlt := hb.lt
  exact ⟨((hS.alloc _).set hg h1).set hg (by omega), ((hb.below (below_alloc _ _)).set _ _ _ _).far (by omega), ((box_alloc w2 _ _ _ _).far (by omega)).set _ _ _ _,
    sl_set' (sl_set' (hx.below (below_alloc _ _)) h2) (by omega), sl_set' (sl_set' (hy.below (below_alloc _ _)) h3) (by omega)⟩
theorem end4 {b b' : Nat} (hS : Sb w g s t p q n c m d w2) (hg : w.heap.size = g) (hx : Sl w2 (some ⟨gx, 0, none⟩) n crx xs) (hy : Sl w2 (some ⟨gy, 0, none⟩) m cry ys)
    (hb : Box w2 b false none 0 0) (hb' : Box w2 b' false none 0 0) (h1 : g + 1 < b) (h1' : g + 1 < b') (h0 : b ≠ b') (h2 : b ≠ gx) (h3 : b ≠ gy) (h2' : b' ≠ gx) (h3' : b' ≠ gy) :
    Own2 w ((((w2.setCell ⟨b, 0, none⟩ (.bool s)).setCell ⟨b, 1, none⟩ (.slice (some ⟨gx, 0, none⟩) n crx)).setCell ⟨b', 0, none⟩ (.bool t)).setCell ⟨b', 1, none⟩ (.slice (some ⟨gy, 0, none⟩) m cry)) g s t p q n c m d xs ys b gx crx b' gy cry :=
  ⟨(hS.set hg h1).set hg h1', (hb.set _ _ _ _).far h0, (hb'.far (Ne.symm h0)).set _ _ _ _, sl_set' (sl_set' hx h2) h2', sl_set' (sl_set' hy h3) h3'⟩
theorem end5 {b : Nat} (hS : Sb w g s t p q n c m d w2) (hg : w.heap.size = g) (hx : Sl w2 (some ⟨gx, 0, none⟩) n crx xs) (hy : Sl w2 (some ⟨gy, 0, none⟩) m cry ys)
    (hb : Box w2 b false none 0 0) (h1 : g + 1 < b) (h2 : b ≠ gx) (h3 : b ≠ gy) :
    Own2 w (((w2.alloc (.cells #[.bool s, .slice (some ⟨gx, 0, none⟩) n crx] 24)).setCell ⟨b, 0, none⟩ (.bool t)).setCell ⟨b, 1, none⟩ (.slice (some ⟨gy, 0, none⟩) m cry)) g s t p q n c m d xs ys w2.heap.size gx crx b gy cry := by
  have hlt := hb.lt
  exact ⟨(hS.alloc _).set hg h1, (box_alloc w2 _ _ _ _).far (by omega), (hb.below (below_alloc _ _)).set _ _ _ _, sl_set' (hx.below (below_alloc _ _)) h2, sl_set' (hy.below (below_alloc _ _)) h3⟩
end
theorem keep8 {wc w1 w2 : World} {a1 a2 a3 a4 a5 a6 a7 a8 : Addr} {v1 v2 v3 v4 v5 v6 v7 v8 : Value} (h : w1.cell? a1 = some v1 ∧ w1.cell? a2 = some v2 ∧ w1.cell? a3 = some v3 ∧ w1.cell? a4 = some v4 ∧ w1.cell? a5 = some v5 ∧ w1.cell? a6 = some v6 ∧ w1.cell? a7 = some v7 ∧ w1.cell? a8 = some v8 ∧ Hid (Below wc.heap.size wc w1)) (hb : Below w1.heap.size w1 w2) : w2.cell? a1 = some v1 ∧ w2.cell? a2 = some v2 ∧ w2.cell? a3 = some v3 ∧ w2.cell? a4 = some v4 ∧ w2.cell? a5 = some v5 ∧ w2.cell? a6 = some v6 ∧ w2.cell? a7 = some v7 ∧ w2.cell? a8 = some v8 ∧ Hid (Below wc.heap.size wc w2) :=
  ⟨cell_below h.1 hb, cell_below h.2.1 hb, cell_below h.2.2.1 hb, cell_below h.2.2.2.1 hb, cell_below h.2.2.2.2.1 hb, cell_below h.2.2.2.2.2.1 hb, cell_below h.2.2.2.2.2.2.1 hb, cell_below h.2.2.2.2.2.2.2.1 hb, Below.trans h.2.2.2.2.2.2.2.2 (hb.mono (Below.size h.2.2.2.2.2.2.2.2))⟩
theorem bel8 {A1 A2 A3 A4 A5 A6 A7 A8 : Prop} {wc w' : World} (h : A1 ∧ A2 ∧ A3 ∧ A4 ∧ A5 ∧ A6 ∧ A7 ∧ A8 ∧ Hid (Below wc.heap.size wc w')) : Below wc.heap.size wc w' := h.2.2.2.2.2.2.2.2
theorem drop8 {wc w1 w2 : World} {a1 a2 a3 a4 a5 a6 a7 a8 : Addr} {v1 v2 v3 v4 v5 v6 v7 v8 : Value} (h : w1.cell? a1 = some v1 ∧ w1.cell? a2 = some v2 ∧ w1.cell? a3 = some v3 ∧ w1.cell? a4 = some v4 ∧ w1.cell? a5 = some v5 ∧ w1.cell? a6 = some v6 ∧ w1.cell? a7 = some v7 ∧ w1.cell? a8 = some v8 ∧ Hid (Below wc.heap.size wc w1)) (hb : Below w1.heap.size w1 w2) : w2.cell? a1 = some v1 ∧ w2.cell? a2 = some v2 ∧ w2.cell? a3 = some v3 ∧ w2.cell? a4 = some v4 ∧ w2.cell? a5 = some v5 ∧ w2.cell? a6 = some v6 ∧ w2.cell? a7 = some v7 ∧ w2.cell? a8 = some v8 ∧ Hid (Below wc.heap.size wc w2) := keep8 h hb

end Go.Proofs.Ytbgnakdklojhpaa
