import Derived.Test.YtcbkmmkmffnfdaaSetO
import Derived.Test.YtcbkmmkmffnfdaaVcA
/-
 Structs of fields of one cell each, read and written field by field, in a box whose address is known.
-/
namespace Go.Proofs.Ytcbkmmkmffnfdaa
open Go Go.RowKit Nt
set_option linter.unusedSimpArgs false
set_option linter.unusedVariables false

def SF (ps : List Pr) : Pr := fun v w => ∃ cs : Array Value, v = .agg cs ∧ cs.size = ps.length ∧ cs.all (·.oneCell') = true ∧ ∀ (f : Nat) (p : Pr), ps[f]? = some p → ∃ u, cs[f]? = some u ∧ p u w
theorem SF.get {ps : List Pr} {cs : Array Value} {w : World} (h : SF ps (.agg cs) w) : cs.size = ps.length ∧ cs.all (·.oneCell') = true ∧ ∀ (f : Nat) (p : Pr), ps[f]? = some p → ∃ u, cs[f]? = some u ∧ p u w := by
 obtain ⟨cs', e, h⟩ := h
 simp at e
 subst e
 exact h
theorem SF.set {ps : List Pr} {cs : Array Value} {w : World} (h : SF ps (.agg cs) w) {f : Nat} {q : Pr} {v : Value} (h1 : v.oneCell' = true) (hq : q v w) : SF (ps.set f q) (.agg (cs.setIfInBounds f v)) w := by
 obtain ⟨a, b, c⟩ := h.get
 refine ⟨_, rfl, by simp [a], ?_, fun g p hp => ?_⟩
 ·rw [Array.all_eq_true] at b ⊢
  intro i hi
  rw [Array.getElem_setIfInBounds]
  split
  ·exact h1
  ·exact b i (by simpa using hi)
 ·by_cases e : f = g
  ·subst e
   have hl : f < ps.length := by
    apply Classical.byContradiction
    intro hc
    rw [List.getElem?_eq_none (by simp; omega)] at hp
    cases hp
   rw [List.getElem?_set_self hl] at hp
   cases hp
   exact ⟨v, by simp [a, hl], hq⟩
  ·rw [List.getElem?_set_ne e] at hp
   obtain ⟨u, hu, hpu⟩ := c g p hp
   exact ⟨u, by rw [Array.getElem?_setIfInBounds_ne e]; exact hu, hpu⟩

/-- A slice, a truth or a number. -/
def Flat (v : Value) : Prop := (∃ p n c, v = .slice p n c) ∨ (∃ b, v = .bool b) ∨ ∃ k z, v = .int k z
theorem Flat.one {v : Value} (h : Flat v) : v.oneCell' = true := by rcases h with ⟨_, _, _, rfl⟩ | ⟨_, rfl⟩ | ⟨_, _, rfl⟩ <;> simp [Value.oneCell']
section
variable {ops : Array Oper} {l : List Kd} {bx : Bxs} {sl : List (Tmp × Pr)} {i : Nat} {o : Oper} {Q : Exit → Act → World → Prop} {a0 : Act} {n : Nat} {w0 : World}

end
end Go.Proofs.Ytcbkmmkmffnfdaa

/-
 Structs whose fields are rows that the call owns: rows whose handles are known, statements cut in two, appends to a field.
-/
namespace Go.Proofs.Ytcbkmmkmffnfdaa
open Go Go.RowKit Nt
set_option linter.unusedSimpArgs false
set_option linter.unusedVariables false

/-! A statement in two. -/
section
variable {P : Program} {ops : Array Oper} {l : List Kd} {bx : Bxs} {n : Nat} {sl : List (Tmp × Pr)} {B0 : Nat → Prop} {a0 : Act} {W w0 : World} {Q : Exit → Act → World → Prop}
end

section
variable {ops : Array Oper} {l : List Kd} {bx : Bxs} {sl : List (Tmp × Pr)} {i : Nat} {o : Oper} {Q : Exit → Act → World → Prop} {a0 : Act} {n0 : Nat} {w0 : World}
end
end Go.Proofs.Ytcbkmmkmffnfdaa

/-
 Lists that a statement writes out: of one, two or three numbers, of two rows; a list of one as a row of the call's own.
-/
namespace Go.Proofs.Ytcbkmmkmffnfdaa
open Go Go.RowKit Nt
set_option linter.unusedSimpArgs false
set_option linter.unusedVariables false

section
variable {ops : Array Oper} {l : List Kd} {bx : Bxs} {sl : List (Tmp × Pr)} {i : Nat} {o : Oper} {Q : Exit → Act → World → Prop} {a0 : Act} {n0 : Nat} {w0 : World}
end
end Go.Proofs.Ytcbkmmkmffnfdaa
