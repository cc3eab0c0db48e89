import Derived.Test.YtbkobojhkhiohaaGreatVcA
set_option linter.all false
namespace Go.Proofs.YtbkobojhkhiohaaGreat
open Go Go.RowKit Nt
set_option maxRecDepth 20000
set_option maxHeartbeats 16000000
def SF (ps : List Pr) : Pr := fun v w => ∃ cs : Array Value, v = .agg cs ∧ cs.size = ps.length ∧ cs.all (·.oneCell') = true ∧ ∀ (f : Nat) (p : Pr), ps[f]? = some p → ∃ u, cs[f]? = some u ∧ p u w
theorem zc4 {ps : List Pr} : Shp ps.length (SF ps) := fun u w ⟨cs, e, h1, h2, _⟩ => ⟨cs, e, h1, h2⟩
theorem SF.get {ps : List Pr} {cs : Array Value} {w : World} (h : SF ps (.agg cs) w) : cs.size = ps.length ∧ cs.all (·.oneCell') = true ∧ ∀ (f : Nat) (p : Pr), ps[f]? = some p → ∃ u, cs[f]? = some u ∧ p u w := by
 obtain ⟨cs', e, h⟩ := h
 simp at e
 subst e
 exact h
theorem SF.set {ps : List Pr} {cs : Array Value} {w : World} (h : SF ps (.agg cs) w) {f : Nat} {q : Pr} {v : Value} (h1 : v.oneCell' = true) (hq : q v w) : SF (ps.set f q) (.agg (cs.setIfInBounds f v)) w := by
 obtain ⟨a, b, c⟩ := h.get
 refine ⟨_, rfl, by simp [a], ?_, fun g p hp => ?_⟩
 ·rw [Array.all_eq_true] at b ⊢
  intro i hi
  rw [Array.getElem_setIfInBounds]
  split
  ·exact h1
  ·exact b i (by simpa using hi)
 ·by_cases e : f = g
  ·subst e
   have hl : f < ps.length := by
    apply Classical.byContradiction
    intro hc
    rw [zf4 (by simp; omega)] at hp
    cases hp
   rw [List.getElem?_set_self hl] at hp
   cases hp
   exact ⟨v, by simp [a, hl], hq⟩
  ·rw [List.getElem?_set_ne e] at hp
   obtain ⟨u, hu, hpu⟩ := c g p hp
   exact ⟨u, by rw [Array.getElem?_setIfInBounds_ne e]; exact hu, hpu⟩
def Flat (v : Value) : Prop := (∃ p n c, v = .slice p n c) ∨ (∃ b, v = .bool b) ∨ ∃ k z, v = .int k z
theorem Flat.one {v : Value} (h : Flat v) : v.oneCell' = true := by rcases h with ⟨_, _, _, rfl⟩ | ⟨_, rfl⟩ | ⟨_, _, rfl⟩ <;> simp [Value.oneCell']
def Load1 (T : TypeId) : Prop := ∀ (ρ : Operand → Value) (w : World) (o : Oper) (x : Operand) (b f : Nat) (u : Value), ρ x = .pointer (some ⟨b, f, none⟩) → w.cell? ⟨b, f, none⟩ = some u → (execOp ρ { o with op := .load T x }).run Tryz.prog w = .ok (.value u) w
def Store1 (T : TypeId) : Prop := ∀ (ρ : Operand → Value) (w : World) (o : Oper) (x y : Operand) (b f : Nat) (u : Value), ρ x = .pointer (some ⟨b, f, none⟩) → w.cell? ⟨b, f, none⟩ = some u → w.frozen? ⟨b, f, none⟩ = false → Flat (ρ y) → (execOp ρ { o with op := .store T x y }).run Tryz.prog w = .ok .skip (w.setCell ⟨b, f, none⟩ (ρ y))
section
variable {ops : Array Oper} {l : List Kd} {bx : Bxs} {sl : List (Tmp × Pr)} {i : Nat} {o : Oper} {Q : Exit → Act → World → Prop} {a0 : Act} {n : Nat} {w0 : World}
theorem yn2 {w : World} {g f : Nat} {cs : Array Value} {T : TypeId} {u : Value} (h : w.heap[g]? = some (.cells (Value.agg cs).cells T (0, 0))) (hu : cs[f]? = some u) : w.cell? ⟨g, f, none⟩ = some u := by
 have h : w.heap[g]? = some (.cells cs T (0, 0)) := h
 simp only [World.cell?, h]
 exact hu
theorem ymw {w : World} {g f : Nat} {cs : Array Value} {T : TypeId} (h : w.heap[g]? = some (.cells (Value.agg cs).cells T (0, 0))) : w.frozen? ⟨g, f, none⟩ = false := by
 have h : w.heap[g]? = some (.cells cs T (0, 0)) := h
 simp [World.frozen?, h]
theorem yw7 {lo : Nat} {B : Nat → Prop} {w : World} {T : TypeId} {ps : List Pr} {χ : Pr} {g f : Nat} {u v : Value} {x : Id} {vs : Nat → Value} (hid : ∀ b, vblock (hnd a0 vs x) = some b → idset l bx a0 vs x b) (hx : hnd a0 vs x = .pointer (some ⟨g, 0, none⟩)) (hB : B g) (hu : w.heap[g]? = some (.cells u.cells T (0, 0))) (hφ : Has B w (SF ps) u) (hv : Has B w χ v) (h1 : v.oneCell' = true) (z : Value) : Kd.out l bx lo a0 vs B w z (w.setCell ⟨g, f, none⟩ v) (.put x (.box T (SF (ps.set f χ)))) := by
 obtain ⟨cs, rfl, _⟩ := hφ.now
 have e := setCell_eq_setRow w g f cs T (0, 0) v hu
 rw [e]
 exact yky (v := .agg (cs.setIfInBounds f v)) hid hx hB hu (fun w' e' => (hφ w' e').set h1 (hv w' e')) z
end
section
variable {P : Program} {ops : Array Oper} {l : List Kd} {bx : Bxs} {n : Nat} {sl : List (Tmp × Pr)} {B0 : Nat → Prop} {a0 : Act} {W w0 : World} {Q : Exit → Act → World → Prop}
end
section
variable {ops : Array Oper} {l : List Kd} {bx : Bxs} {sl : List (Tmp × Pr)} {i : Nat} {o : Oper} {Q : Exit → Act → World → Prop} {a0 : Act} {n0 : Nat} {w0 : World}
end
theorem ybu : Load1 22 := fun ρ w o x b f u hx hc => by
 unfold execOp
 go_simp
theorem ya1 : Load1 23 := fun ρ w o x b f u hx hc => by
 unfold execOp
 go_simp
theorem yqv : Store1 22 := fun ρ w o x y b f u hx hc hf h1 => by
 unfold execOp
 rcases h1 with ⟨_, _, _, hv⟩ | ⟨_, hv⟩ | ⟨_, _, hv⟩ <;> rw [hv] <;> go_simp
theorem yqu : Store1 23 := fun ρ w o x y b f u hx hc hf h1 => by
 unfold execOp
 rcases h1 with ⟨_, _, _, hv⟩ | ⟨_, hv⟩ | ⟨_, _, hv⟩ <;> rw [hv] <;> go_simp
section
variable {ops : Array Oper} {l : List Kd} {bx : Bxs} {sl : List (Tmp × Pr)} {i : Nat} {o : Oper} {Q : Exit → Act → World → Prop} {a0 : Act} {n0 : Nat} {w0 : World}
end
end Go.Proofs.YtbkobojhkhiohaaGreat
