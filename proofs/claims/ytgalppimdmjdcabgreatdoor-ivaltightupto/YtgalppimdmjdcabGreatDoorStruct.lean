/-
  Structs of fields of one cell each, read and written field by field, in a box whose address is known.
-/
import Derived.Test.YtgalppimdmjdcabGreatDoorZPred
namespace Go.Proofs.YtgalppimdmjdcabGreatDoor
open Go Go.RowKit Nt
set_option linter.unusedSimpArgs false
set_option linter.unusedVariables false
set_option maxRecDepth 20000

def SF (ps : List Pr) : Pr := fun v w => ∃ cs : Array Value, v = .agg cs ∧ cs.size = ps.length ∧ cs.all (·.oneCell') = true ∧ ∀ (f : Nat) (p : Pr), ps[f]? = some p → ∃ u, cs[f]? = some u ∧ p u w
theorem shp_sf {ps : List Pr} : Shp ps.length (SF ps) := fun u w ⟨cs, e, h1, h2, _⟩ => ⟨cs, e, h1, h2⟩
theorem SF.get {ps : List Pr} {cs : Array Value} {w : World} (h : SF ps (.agg cs) w) : cs.size = ps.length ∧ cs.all (·.oneCell') = true ∧ ∀ (f : Nat) (p : Pr), ps[f]? = some p → ∃ u, cs[f]? = some u ∧ p u w := by
  obtain ⟨cs', e, h⟩ := h
  simp at e
  subst e
  exact h
theorem SF.set {ps : List Pr} {cs : Array Value} {w : World} (h : SF ps (.agg cs) w) {f : Nat} {q : Pr} {v : Value} (h1 : v.oneCell' = true) (hq : q v w) : SF (ps.set f q) (.agg (cs.setIfInBounds f v)) w := by
  obtain ⟨a, b, c⟩ := h.get
  refine ⟨_, rfl, by simp [a], ?_, fun g p hp => ?_⟩
  · rw [Array.all_eq_true] at b ⊢
    intro i hi
    rw [Array.getElem_setIfInBounds]
    split
    · exact h1
    · exact b i (by simpa using hi)
  · by_cases e : f = g
    · subst e
      have hl : f < ps.length := by
        apply Classical.byContradiction
        intro hc
        rw [List.getElem?_eq_none (by simp; omega)] at hp
        cases hp
      rw [List.getElem?_set_self hl] at hp
      cases hp
      exact ⟨v, by simp [a, hl], hq⟩
    · rw [List.getElem?_set_ne e] at hp
      obtain ⟨u, hu, hpu⟩ := c g p hp
      exact ⟨u, by rw [Array.getElem?_setIfInBounds_ne e]; exact hu, hpu⟩

/-- A slice, a truth or a number. -/
def Flat (v : Value) : Prop := (∃ p n c, v = .slice p n c) ∨ (∃ b, v = .bool b) ∨ ∃ k z, v = .int k z
theorem Flat.one {v : Value} (h : Flat v) : v.oneCell' = true := by rcases h with ⟨_, _, _, rfl⟩ | ⟨_, rfl⟩ | ⟨_, _, rfl⟩ <;> simp [Value.oneCell']
/-- A value of one cell is loaded, is stored. -/
def Load1 (T : TypeId) : Prop := ∀ (ρ : Operand → Value) (w : World) (o : Oper) (x : Operand) (b f : Nat) (u : Value), ρ x = .pointer (some ⟨b, f, none⟩) → w.cell? ⟨b, f, none⟩ = some u → (execOp ρ { o with op := .load T x }).run Tryz.prog w = .ok (.value u) w
theorem load1_sl : Load1 22 := fun ρ w o x b f u hx hc => by
  unfold execOp
  go_simp
theorem load1_bool : Load1 4 := fun ρ w o x b f u hx hc => by
  unfold execOp
  go_simp
section
variable {ops : Array Oper} {l : List Kd} {bx : Bxs} {sl : List (Tmp × Pr)} {i : Nat} {o : Oper} {Q : Exit → Act → World → Prop} {a0 : Act} {n : Nat} {w0 : World}

theorem sf_cell {w : World} {g f : Nat} {cs : Array Value} {T : TypeId} {u : Value} (h : w.heap[g]? = some (.cells (Value.agg cs).cells T (0, 0))) (hu : cs[f]? = some u) : w.cell? ⟨g, f, none⟩ = some u := by
  have h : w.heap[g]? = some (.cells cs T (0, 0)) := h
  simp only [World.cell?, h]
  exact hu
end
end Go.Proofs.YtgalppimdmjdcabGreatDoor
