import Derived.Test.YtnhfpekpdephjaaGreatSetP
import Derived.Deep.LoopGhost
import Derived.Test.YtnhfpekpdephjaaGreatSetE
import Derived.Test.YtnhfpekpdephjaaGreatSetI
/-
 The document's Gcd: Euclid's steps.
-/
namespace Go.Proofs.YtnhfpekpdephjaaGreat
open Go.RowKit Nt
set_option linter.unusedSimpArgs false
set_option linter.unusedVariables false
set_option maxRecDepth 20000

end Go.Proofs.YtnhfpekpdephjaaGreat

/-
 The document's Make, of a denominator above 0.
-/
namespace Go.Proofs.YtnhfpekpdephjaaGreat
open Go.RowKit Nt
set_option linter.unusedSimpArgs false
set_option linter.unusedVariables false
set_option maxRecDepth 20000

/-- A rational in its own block. -/
def RBox (w : World) (g : Nat) (s : Bool) (p : Option Addr) (n c : Nat) (t : Bool) (q : Option Addr) (m d : Nat) : Prop := w.heap[g]? = some (.cells #[.bool s, .slice p n c, .bool t, .slice q m d] 35)
section
variable {w w' : World} {g n c m d : Nat} {s t : Bool} {p q : Option Addr}
theorem RBox.below (h : RBox w g s p n c t q m d) (hb : Below w.heap.size w w') : RBox w' g s p n c t q m d := (hb.block g (Array.getElem?_eq_some_iff.1 h).1).trans h
theorem RBox.at0 (h : RBox w g s p n c t q m d) : w.cell? ⟨g, 0, none⟩ = some (.bool s) := by have h' : w.heap[g]? = _ := h; simp [World.cell?, h']
theorem RBox.at1 (h : RBox w g s p n c t q m d) : w.cell? ⟨g, 1, none⟩ = some (.slice p n c) := by have h' : w.heap[g]? = _ := h; simp [World.cell?, h']
theorem RBox.at2 (h : RBox w g s p n c t q m d) : w.cell? ⟨g, 2, none⟩ = some (.bool t) := by have h' : w.heap[g]? = _ := h; simp [World.cell?, h']
theorem RBox.at3 (h : RBox w g s p n c t q m d) : w.cell? ⟨g, 3, none⟩ = some (.slice q m d) := by have h' : w.heap[g]? = _ := h; simp [World.cell?, h']
theorem RBox.frozen (h : RBox w g s p n c t q m d) (i : Nat) : w.frozen? ⟨g, i, none⟩ = false := by have h' : w.heap[g]? = _ := h; simp [World.frozen?, h']
theorem RBox.lt (h : RBox w g s p n c t q m d) : g < w.heap.size := (Array.getElem?_eq_some_iff.1 h).1
theorem set4 {w : World} {g : Nat} {a0 a1 a2 a3 b0 b1 b2 b3 : Value} {T : TypeId} (h : w.heap[g]? = some (.cells #[a0, a1, a2, a3] T)) :
  ((((w.setCell ⟨g, 0, none⟩ b0).setCell ⟨g, 1, none⟩ b1).setCell ⟨g, 2, none⟩ b2).setCell ⟨g, 3, none⟩ b3).heap[g]? = some (.cells #[b0, b1, b2, b3] T) := by
 have h1 : (w.setCell ⟨g, 0, none⟩ b0).heap[g]? = some (.cells #[b0, a1, a2, a3] T) := by
  rw [setCell_eq_setRow w g 0 _ _ _ b0 h]
  simpa using setRow_heap w g _ (#[b0, a1, a2, a3]) _ _ h
 have h2 : ((w.setCell ⟨g, 0, none⟩ b0).setCell ⟨g, 1, none⟩ b1).heap[g]? = some (.cells #[b0, b1, a2, a3] T) := by
  rw [setCell_eq_setRow _ g 1 _ _ _ b1 h1]
  simpa using setRow_heap _ g _ (#[b0, b1, a2, a3]) _ _ h1
 have h3 : (((w.setCell ⟨g, 0, none⟩ b0).setCell ⟨g, 1, none⟩ b1).setCell ⟨g, 2, none⟩ b2).heap[g]? = some (.cells #[b0, b1, b2, a3] T) := by
  rw [setCell_eq_setRow _ g 2 _ _ _ b2 h2]
  simpa using setRow_heap _ g _ (#[b0, b1, b2, a3]) _ _ h2
 rw [setCell_eq_setRow _ g 3 _ _ _ b3 h3]
 simpa using setRow_heap _ g _ (#[b0, b1, b2, b3]) _ _ h3
theorem RBox.set (h : RBox w g s p n c t q m d) (s' : Bool) (p' : Option Addr) (n' c' : Nat) (t' : Bool) (q' : Option Addr) (m' d' : Nat) :
  RBox ((((w.setCell ⟨g, 0, none⟩ (.bool s')).setCell ⟨g, 1, none⟩ (.slice p' n' c')).setCell ⟨g, 2, none⟩ (.bool t')).setCell ⟨g, 3, none⟩ (.slice q' m' d')) g s' p' n' c' t' q' m' d' := set4 h
end
theorem rbox_alloc (w : World) (s : Bool) (p : Option Addr) (n c : Nat) (t : Bool) (q : Option Addr) (m d : Nat) : RBox (w.alloc (.cells #[.bool s, .slice p n c, .bool t, .slice q m d] 35)) w.heap.size s p n c t q m d := heap_alloc_last _ _
theorem below_set4 {B : Nat} {a w : World} {g : Nat} {v0 v1 v2 v3 : Value} (h : Below B a w) (hg : B ≤ g) : Below B a ((((w.setCell ⟨g, 0, none⟩ v0).setCell ⟨g, 1, none⟩ v1).setCell ⟨g, 2, none⟩ v2).setCell ⟨g, 3, none⟩ v3) :=
 (((h.setCell hg _).setCell hg _).setCell hg _).setCell hg _
/-- A row of another block behind the store of a rational. -/
theorem sl_set4 {w : World} {g2 n c : Nat} {r : Option Addr} {ds : List Nat} {v0 v1 v2 v3 : Value} (h : Sl w r n c ds) (ha : ∀ b o, r = some ⟨b, o, none⟩ → b ≠ g2) :
  Sl ((((w.setCell ⟨g2, 0, none⟩ v0).setCell ⟨g2, 1, none⟩ v1).setCell ⟨g2, 2, none⟩ v2).setCell ⟨g2, 3, none⟩ v3) r n c ds :=
 ⟨h.len, h.cap, h.max, h.nil, h.ok, fun i hi => by
  obtain ⟨b, o, e, hc⟩ := h.lie i hi
  have := ha b o e
  refine ⟨b, o, e, ?_⟩
  rw [World.cell?_setCell_far _ _ _ _ (by simpa using Ne.symm this), World.cell?_setCell_far _ _ _ _ (by simpa using Ne.symm this), World.cell?_setCell_far _ _ _ _ (by simpa using Ne.symm this), World.cell?_setCell_far _ _ _ _ (by simpa using Ne.symm this)]
  exact hc⟩

/-- A rational in lowest terms, as it is handed back: the numerator's name, the denominator's. -/
def Rt (w : World) (A : Int) (B : Nat) (k k' : Nat) (e : Ending) (w' : World) : Prop := ∃ (b1 : Bool) (L1 : Nat) (D1 : List Nat) (r1 : Option Addr) (k1 : Nat) (L2 : Nat) (r2 : Option Addr) (k2 : Nat),
 e = .returned (.agg #[.bool b1, .slice r1 L1 k1, .bool false, .slice r2 L2 k2]) ∧ Below w.heap.size w w' ∧ Hid (Sl w' r1 L1 k1 D1) ∧ Hid (Sl w' r2 L2 k2 (digs B)) ∧ Hid (Nm b1 L1 D1 A) ∧ L1 ≤ k ∧ L2 ≤ k' ∧ Hid (∀ b o, r1 = some ⟨b, o, none⟩ → w.heap.size ≤ b) ∧ Hid (∀ b o, r2 = some ⟨b, o, none⟩ → w.heap.size ≤ b)

end Go.Proofs.YtnhfpekpdephjaaGreat
