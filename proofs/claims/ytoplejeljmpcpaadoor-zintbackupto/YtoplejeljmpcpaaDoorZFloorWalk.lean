/-
  zint.Floor, whole.
-/
import Derived.Test.YtoplejeljmpcpaaDoorZFloor
namespace Go.Proofs.YtoplejeljmpcpaaDoor
open Go.RowKit Nt
set_option linter.unusedSimpArgs false
set_option linter.unusedVariables false
set_option maxRecDepth 20000

theorem invF {A B : Prop} {w w' : World} {g2 g3 : Nat} (h : A ∧ B ∧ Hid (Inv2 w w' g2 g3)) : Inv2 w w' g2 g3 := h.2.2
theorem keepF {w w1 w2 : World} {a1 a2 : Addr} {v1 v2 : Value} {g2 g3 : Nat} (h : w1.cell? a1 = some v1 ∧ w1.cell? a2 = some v2 ∧ Hid (Inv2 w w1 g2 g3)) (hb : Below w1.heap.size w1 w2) :
    w2.cell? a1 = some v1 ∧ w2.cell? a2 = some v2 ∧ Hid (Inv2 w w2 g2 g3) := ⟨cell_below h.1 hb, cell_below h.2.1 hb, Inv2.call h.2.2 hb⟩
theorem keepF2 {w w1 : World} {a1 a2 : Addr} {v1 v2 : Value} {g2 g3 : Nat} {b : Bool} {r : Option Addr} {n c : Nat} (h : w1.cell? a1 = some v1 ∧ w1.cell? a2 = some v2 ∧ Hid (Inv2 w w1 g2 g3)) (h1 : g2 ≠ a1.block) (h2 : g2 ≠ a2.block) :
    ((w1.setCell ⟨g2, 0, none⟩ (.bool b)).setCell ⟨g2, 1, none⟩ (.slice r n c)).cell? a1 = some v1 ∧ ((w1.setCell ⟨g2, 0, none⟩ (.bool b)).setCell ⟨g2, 1, none⟩ (.slice r n c)).cell? a2 = some v2 ∧ Hid (Inv2 w ((w1.setCell ⟨g2, 0, none⟩ (.bool b)).setCell ⟨g2, 1, none⟩ (.slice r n c)) g2 g3) :=
  ⟨far h.1 h1, far h.2.1 h2, Inv2.set2 h.2.2 b r n c⟩
theorem keepF3 {w w1 : World} {a1 a2 : Addr} {v1 v2 : Value} {g2 g3 : Nat} {b : Bool} {r : Option Addr} {n c : Nat} (h : w1.cell? a1 = some v1 ∧ w1.cell? a2 = some v2 ∧ Hid (Inv2 w w1 g2 g3)) (h1 : g3 ≠ a1.block) (h2 : g3 ≠ a2.block) :
    ((w1.setCell ⟨g3, 0, none⟩ (.bool b)).setCell ⟨g3, 1, none⟩ (.slice r n c)).cell? a1 = some v1 ∧ ((w1.setCell ⟨g3, 0, none⟩ (.bool b)).setCell ⟨g3, 1, none⟩ (.slice r n c)).cell? a2 = some v2 ∧ Hid (Inv2 w ((w1.setCell ⟨g3, 0, none⟩ (.bool b)).setCell ⟨g3, 1, none⟩ (.slice r n c)) g2 g3) :=
  ⟨far h.1 h1, far h.2.1 h2, Inv2.set3 h.2.2 b r n c⟩

theorem digs_succ_len {x y n : Nat} (h : (digs (x / y)).length ≤ n) (hx : (digs x).length ≤ n) (h0 : x % y ≠ 0) : (digs (x / y + 1)).length ≤ n + 1 := by
  have h1 : 1 ≤ n := by
    apply Classical.byContradiction
    intro hc
    have : (digs x).length = 0 := by omega
    have := (digs_length_zero x).1 this
    subst this
    simp at h0
  exact digs_add_len h (Nat.le_trans (by rw [digs_small (by omega) (by omega)]; simp) h1)

/-- Two numbers, and no error. -/
def Fl2 (w : World) (A B : Int) (k k' : Nat) (e : Ending) (w' : World) : Prop := ∃ (bq : Bool) (Lq : Nat) (Dq : List Nat) (rq : Option Addr) (cq : Nat) (br : Bool) (Lr : Nat) (Dr : List Nat) (rr : Option Addr) (cr : Nat),
  e = .returned (.tuple #[.agg #[.bool bq, .slice rq Lq cq], .agg #[.bool br, .slice rr Lr cr], .int .i64 0]) ∧ Below w.heap.size w w' ∧ Hid (Sl w' rq Lq cq Dq) ∧ Hid (Sl w' rr Lr cr Dr) ∧ Hid (Nm bq Lq Dq (fl A B)) ∧ Hid (Nm br Lr Dr (rm A B)) ∧ Lq ≤ k ∧ Lr ≤ k' ∧ Hid (∀ b o, rq = some ⟨b, o, none⟩ → w.heap.size ≤ b) ∧ Hid (∀ b o, rr = some ⟨b, o, none⟩ → w.heap.size ≤ b)

theorem fl2_of {w : World} {A B : Int} {k k' q r : Nat} {sq sr : Bool} (hq : fl A B = sg sq q) (hr : rm A B = sg sr r) (lq : (digs q).length ≤ k) (lr : (digs r).length ≤ k') :
    ∀ (rq rr : Option Addr) (cq cr : Nat) (e : Ending) (w' : World), e = .returned (.tuple #[.agg #[.bool (sq && decide (0 < (digs q).length)), .slice rq (digs q).length cq], .agg #[.bool (sr && decide (0 < (digs r).length)), .slice rr (digs r).length cr], .int .i64 0]) → Below w.heap.size w w' →
      Sl w' rq (digs q).length cq (digs q) → Sl w' rr (digs r).length cr (digs r) → (∀ b o, rq = some ⟨b, o, none⟩ → w.heap.size ≤ b) → (∀ b o, rr = some ⟨b, o, none⟩ → w.heap.size ≤ b) → Fl2 w A B k k' e w' := by
  intro rq rr cq cr e w' he hb h1 h2 fq fr
  refine ⟨_, _, digs q, rq, cq, _, _, digs r, rr, cr, he, hb, h1, h2, ?_, ?_, lq, lr, fq, fr⟩
  · rw [hq]
    exact ⟨sg_ng sq q, by rw [sg_abs], rfl⟩
  · rw [hr]
    exact ⟨sg_ng sr r, by rw [sg_abs], rfl⟩

end Go.Proofs.YtoplejeljmpcpaaDoor
