/-
  Lists by what is said of their elements: read, made, written in place, handed on; functions as values.
-/
import Derived.Test.YtgalppimdmjdcaaGreatDoorSetY
namespace Go.Proofs.YtgalppimdmjdcaaGreatDoor
open Go Go.RowKit Nt
set_option linter.unusedSimpArgs false
set_option linter.unusedVariables false
set_option maxRecDepth 20000

/-- It holds, whatever is made beside it. -/
abbrev Hs (w : World) (φ : Pr) (v : Value) : Prop := Has (fun _ => False) w φ v
theorem Has.hs {B : Nat → Prop} {w : World} {φ : Pr} {v : Value} (h : Has B w φ v) : Hs w φ v := fun w' e => h w' (e.mono (fun _ h => h.elim))
theorem Hs.below {w w' : World} {φ : Pr} {v : Value} (h : Hs w φ v) (b : Below w.heap.size w w') : Hs w' φ v := h.go (Ev.of_below b) (fun _ _ h => h)

/-! Values of sz cells. -/
def ofCells (sz : Nat) (cs : Array Value) : Value := if sz = 1 then cs.getD 0 undef else .agg cs
/-- The value is one of sz cells. -/
structure Celv (sz : Nat) (u : Value) : Prop where
  of : u = ofCells sz u.cells
  siz : u.cells.size = sz
  one : u.cells.all (·.oneCell') = true
def Cel (sz : Nat) (φ : Pr) : Prop := ∀ u w, φ u w → Celv sz u
theorem celv_inj {sz : Nat} {u u' : Value} (h : Celv sz u) (h' : Celv sz u') (e : u.cells = u'.cells) : u = u' := by rw [h.of, h'.of, e]
theorem celv_one {u : Value} (h : u.oneCell' = true) : Celv 1 u := by
  have e : u.cells = #[u] := by cases u <;> first | rfl | simp [Value.oneCell'] at h
  exact ⟨by simp [ofCells, e], by simp [e], by simp [e, h]⟩
/-- A pointer at a value that is so. -/
def AtE (sz : Nat) (φ : Pr) : Pr := fun v w => ∃ b o u, v = .pointer (some ⟨b, o, none⟩) ∧ (∀ (j : Nat) x, u.cells[j]? = some x → w.cell? ⟨b, o + j, none⟩ = some x) ∧ u.cells.size = sz ∧ φ u w
/-- A list of n values, each of sz cells; what is said of each. -/
def Ar (sz n : Nat) (φs : List Pr) : Pr := fun v w => ∃ p c, v = .slice p n c ∧ φs.length = n ∧ (n ≤ c ∧ c ≤ maxLen ∧ (p = none → c = 0)) ∧ ∀ (i : Nat) φ, φs[i]? = some φ → ∃ b o u, p = some ⟨b, o, none⟩ ∧ (∀ (j : Nat) x, u.cells[j]? = some x → w.cell? ⟨b, o + sz * i + j, none⟩ = some x) ∧ u.cells.size = sz ∧ φ u w
/-- The block that is read is none of those that may turn. -/
theorem not_turned {B : Nat → Prop} {w : World} {b o : Nat} {x : Value} (h : w.cell? ⟨b, o, none⟩ = some x) (hw : ∀ w', Ev B w w' → (w'.cell? ⟨b, o, none⟩).isSome = true) : ¬ B b := fun hB => by
  have hlt := cell_some_block h
  have ev : Ev B w { w with heap := w.heap.setIfInBounds b (.cells #[] 0 (0, 0)) } := ⟨rfl, rfl, rfl, by simp, fun k hk hn => by
    have : b ≠ k := fun e => hn (e ▸ hB)
    simp [Array.getElem?_setIfInBounds, this]⟩
  have := hw _ ev
  have hlt' : b < w.heap.size := hlt
  simp [World.cell?, Array.getElem?_setIfInBounds, hlt'] at this
theorem cell_ev' {B : Nat → Prop} {w w' : World} {a : Addr} {v : Value} (h : w.cell? a = some v) (hB : ¬ B a.block) (e : Ev B w w') : w'.cell? a = some v := by
  have hlt := cell_some_block h
  have hb := e.block a.block hlt hB
  unfold World.cell? at h ⊢
  rw [hb]
  exact h
theorem at_fix {B : Nat → Prop} {w : World} {sz : Nat} {φ : Pr} {v : Value} (hz : 0 < sz) (hc : Cel sz φ) (h : Has B w (AtE sz φ) v) :
    ∃ b o u, v = .pointer (some ⟨b, o, none⟩) ∧ (∀ (j : Nat) x, u.cells[j]? = some x → w.cell? ⟨b, o + j, none⟩ = some x) ∧ Celv sz u ∧ Has B w φ u := by
  obtain ⟨b, o, u, rfl, h1, h2, h3⟩ := h.now
  obtain ⟨x0, hx0⟩ : ∃ x, u.cells[0]? = some x := ⟨u.cells[0]'(by omega), Array.getElem?_eq_getElem _⟩
  have hn : ¬ B b := not_turned (h1 0 x0 hx0) (fun w' e => by
    obtain ⟨b', o', u', e', h1', h2', h3'⟩ := h w' e
    cases e'
    obtain ⟨x', hx'⟩ : ∃ x, u'.cells[0]? = some x := ⟨u'.cells[0]'(by omega), Array.getElem?_eq_getElem _⟩
    rw [h1' 0 x' hx']; rfl)
  refine ⟨b, o, u, rfl, h1, hc u w h3, fun w' e => ?_⟩
  obtain ⟨b', o', u', e', h1', h2', h3'⟩ := h w' e
  cases e'
  have : u' = u := celv_inj (hc _ _ h3') (hc _ _ h3) (by
    apply Array.ext
    · rw [h2, h2']
    · intro i hi hi'
      have a1 := h1 i _ (Array.getElem?_eq_getElem hi')
      have a2 := h1' i _ (Array.getElem?_eq_getElem hi)
      have a3 := cell_ev' a1 hn e
      rw [a3] at a2
      exact (Option.some.inj a2).symm)
  rw [← this]; exact h3'

/-! What the machine does. -/
def Idx (T sz : Nat) : Prop := ∀ (ρ : Operand → Value) (o : Oper) (x y : Operand) (w : World) (b k i n c : Nat), i < n → ρ x = .slice (some ⟨b, k, none⟩) n c → ρ y = .int .i64 (i : Nat) → (execOp ρ { o with op := .indexAddr T x y }).run Tryz.prog w = .ok (.value (.pointer (some ⟨b, k + sz * i, none⟩))) w
def Ldr (E sz : Nat) : Prop := ∀ (ρ : Operand → Value) (o : Oper) (x : Operand) (w : World) (b k : Nat) (u : Value), Celv sz u → (∀ (j : Nat) c, u.cells[j]? = some c → w.cell? ⟨b, k + j, none⟩ = some c) → ρ x = .pointer (some ⟨b, k, none⟩) → (execOp ρ { o with op := .load E x }).run Tryz.prog w = .ok (.value u) w
section
variable {ops : Array Oper} {l : List Kd} {bx : Bxs} {sl : List (Tmp × Pr)} {i : Nat} {o : Oper} {Q : Exit → Act → World → Prop} {a0 : Act} {n0 : Nat} {w0 : World}
/-! Elements are read. -/
theorem ar_at {B : Nat → Prop} {w : World} {sz n k : Nat} {φs : List Pr} {φ : Pr} {v : Value} (h : Has B w (Ar sz n φs) v) (he : φs[k]? = some φ) : ∃ b o c, v = .slice (some ⟨b, o, none⟩) n c ∧ k < n ∧ Has B w (AtE sz φ) (.pointer (some ⟨b, o + sz * k, none⟩)) := by
  obtain ⟨p, c, rfl, hl, hb, ha⟩ := h.now
  obtain ⟨b, o', u, rfl, _⟩ := ha k φ he
  refine ⟨b, o', c, rfl, by rw [← hl]; exact (List.getElem?_eq_some_iff.1 he).1, fun w' ev => ?_⟩
  obtain ⟨p', c', e, _, _, ha'⟩ := h w' ev
  obtain ⟨b', o'', u', rfl, h1, h2, h3⟩ := ha' k φ he
  cases e
  exact ⟨b, _, u', rfl, h1, h2, h3⟩
theorem owe_aindex {x y : Operand} {T sz n k : Nat} {φs : List Pr} {φ : Pr} (ho : ops[i]? = some o) (hw : Wants ops l bx sl i o) (hop : o.op = .indexAddr T x y) (hT : Idx T sz) (hx : Opnd ops l bx sl i x (Ar sz n φs)) (hy : Opnd ops l bx sl i y (iV (k : Nat))) (he : φs[k]? = some φ) (hk : kdAt l i = .val (AtE sz φ)) : Owed Tryz.prog ops Q l bx sl a0 n0 w0 i :=
  owe_val ho hw hk fun vs B a w cx => by
    have hyv : a.eval y = .int .i64 (k : Nat) := (hy a0 n0 w0 vs B a w cx).now
    obtain ⟨b, o', c, e1, hlt, hat⟩ := ar_at (hx a0 n0 w0 vs B a w cx) he
    refine ⟨_, ?_, hat⟩
    rw [← hT a.eval o x y w b o' k n c hlt e1 hyv]
    unfold execOp
    rw [hop]
theorem owe_aload {x : Operand} {E sz : Nat} {φ : Pr} (ho : ops[i]? = some o) (hw : Wants ops l bx sl i o) (hop : o.op = .load E x) (hE : Ldr E sz) (hz : 0 < sz) (hc : Cel sz φ) (hx : Opnd ops l bx sl i x (AtE sz φ)) (hk : kdAt l i = .val φ) : Owed Tryz.prog ops Q l bx sl a0 n0 w0 i :=
  owe_val ho hw hk fun vs B a w cx => by
    obtain ⟨b, o', u, e1, h1, h2, h3⟩ := at_fix hz hc (hx a0 n0 w0 vs B a w cx)
    refine ⟨u, ?_, h3⟩
    rw [← hE a.eval o x w b o' u h2 h1 e1]
    unfold execOp
    rw [hop]

end

section
variable {ops : Array Oper} {l : List Kd} {bx : Bxs} {sl : List (Tmp × Pr)} {i : Nat} {o : Oper} {Q : Exit → Act → World → Prop} {a0 : Act} {n0 : Nat} {w0 : World}
end

section
variable {ops : Array Oper} {l : List Kd} {bx : Bxs} {sl : List (Tmp × Pr)} {i : Nat} {o : Oper} {Q : Exit → Act → World → Prop} {a0 : Act} {n : Nat} {w0 : World}
end
end Go.Proofs.YtgalppimdmjdcaaGreatDoor
