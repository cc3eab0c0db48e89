import Derived.Test.YtgalppimdmjdcaaGreatStruct
import Derived.Test.YtgalppimdmjdcaaGreatFlA
import Derived.Test.YtgalppimdmjdcaaGreatSetQ
import Derived.Test.YtgalppimdmjdcaaGreatFlB
/-
  Floats and intervals in the logic of statements.
-/
namespace Go.Proofs.YtgalppimdmjdcaaGreat
open Go Go.RowKit Nt
set_option linter.unusedSimpArgs false
set_option linter.unusedVariables false
set_option maxRecDepth 20000

/-- A float of that place. -/
def FL (p : Option Int) : Pr := fun v _ => ∃ b, v = .float .f64 b ∧ b < 18446744073709551616 ∧ plc b = p
def FLN (p : Option Int) : Nat → Pr := fun _ => FL p
theorem fresh_fl (p : Option Int) : Fresh (FLN p) := ⟨fun _ _ _ _ _ h => h, fun _ _ _ _ _ _ h _ => h⟩
theorem fl_is {b : Nat} (hb : b < 18446744073709551616) : ∀ v w, Is (.float .f64 b) v w → FL (plc b) v w := fun v w e => ⟨b, e, hb, rfl⟩
/-! What calls give. -/
theorem Pur.gives {f : FuncId} {args : Array Value} {v : Value} (h : Pur f args v) (w : World) : Calls Tryz.prog f args w (Gives (IS v) w) := (h w).mono fun e w' ⟨he, hw⟩ => by subst hw; exact ⟨v, he, Below.refl _ _, rfl⟩
theorem PurF.gives {f : FuncId} {args : Array Value} {p : Option Int} (h : PurF f args p) (w : World) : Calls Tryz.prog f args w (Gives (FLN p) w) := by
  obtain ⟨r, h1, h2, h3⟩ := h
  exact (h3 w).mono fun e w' ⟨he, hw⟩ => by subst hw; exact ⟨_, he, Below.refl _ _, r, rfl, h1, h2⟩
theorem pur1 {f : FuncId} {x v : Value} (h : Pur f #[x] v) : ∀ w u, Is x u w → Calls Tryz.prog f #[u] w (Gives (IS v) w) := fun w u e => by obtain rfl : u = x := e; exact h.gives w
theorem pur2 {f : FuncId} {x y v : Value} (h : Pur f #[x, y] v) : ∀ w u u', Is x u w → Is y u' w → Calls Tryz.prog f #[u, u'] w (Gives (IS v) w) := fun w u u' e e' => by obtain rfl : u = x := e; obtain rfl : u' = y := e'; exact h.gives w
theorem purF1 {f : FuncId} {x : Value} {p : Option Int} (h : PurF f #[x] p) : ∀ w u, Is x u w → Calls Tryz.prog f #[u] w (Gives (FLN p) w) := fun w u e => by obtain rfl : u = x := e; exact h.gives w
theorem fl2 {f : FuncId} {p q : Option Int} {ψ : Nat → Pr} (h : ∀ w b c, b < 18446744073709551616 → plc b = p → c < 18446744073709551616 → plc c = q → Calls Tryz.prog f #[.float .f64 b, .float .f64 c] w (Gives ψ w)) : ∀ w u v, FL p u w → FL q v w → Calls Tryz.prog f #[u, v] w (Gives ψ w) := fun w u v ⟨b, e, hb, hp⟩ ⟨c, e', hc, hq⟩ => by rw [e, e']; exact h w b c hb hp hc hq
theorem ploadI {ps : List Pr} {χ : Pr} {f : Nat} {T T' : TypeId} (hp : ps[f]? = some χ) (hL : Load1 T') (ρ : Operand → Value) (o : Oper) (x : Operand) (w : World) (b : Nat) (u : Value) (hφ : SF ps u w) (hx : ρ x = .pointer (some ⟨b, f, none⟩)) (hb : w.heap[b]? = some (.cells u.cells T (0, 0))) :
    ∃ v, (execOp ρ { o with op := .load T' x }).run Tryz.prog w = .ok (.value v) w ∧ ∀ w', SF ps u w' → χ v w' := by
  obtain ⟨cs, rfl, h1, h2, h3⟩ := hφ
  obtain ⟨v, hv, _⟩ := h3 f χ hp
  refine ⟨v, hL ρ w o x b f v hx (sf_cell hb hv), fun w' h' => ?_⟩
  obtain ⟨_, _, h4⟩ := h'.get
  obtain ⟨v', hv', hχ⟩ := h4 f χ hp
  rw [hv] at hv'
  cases hv'
  exact hχ
section
variable {ops : Array Oper} {l : List Kd} {bx : Bxs} {sl : List (Tmp × Pr)} {i : Nat} {o : Oper} {Q : Exit → Act → World → Prop} {a0 : Act} {n : Nat} {w0 : World}
/-- A comparison. -/
theorem owe_fcmp {x y : Operand} {op : BinOp} {T T' : TypeId} {p q : Option Int} {r : Bool} (ho : ops[i]? = some o) (hw : Wants ops l bx sl i o) (hop : o.op = .binOp op T x y T') (hx : Opnd ops l bx sl i x (FL p)) (hy : Opnd ops l bx sl i y (FL q))
    (hr : match op with | .eql => (ordP p q == some .eq) = r | .neq => (ordP p q != some .eq) = r | .lss => (ordP p q == some .lt) = r | .leq => (ordP p q == some .lt || ordP p q == some .eq) = r | .gtr => (ordP p q == some .gt) = r | .geq => (ordP p q == some .gt || ordP p q == some .eq) = r | _ => False)
    (hk : kdAt l i = .val (Is (.bool r))) : Owed Tryz.prog ops Q l bx sl a0 n w0 i :=
  owe_is ho hw hk fun vs B a w c => by
    obtain ⟨x', ex, hx1, hx2⟩ := (hx a0 n w0 vs B a w c).now
    obtain ⟨y', ey, hy1, hy2⟩ := (hy a0 n w0 vs B a w c).now
    have hc := fo_plc x' y'
    rw [hx2, hy2] at hc
    have hb : (binOp op T (.float .f64 x') (.float .f64 y')).run Tryz.prog w = .ok (.bool r) w := by
      cases op <;> simp only at hr <;> (try exact hr.elim) <;> simp [binOp, Op.floatCmp, hc, ← hr]
    unfold execOp
    rw [hop]
    generalize a.eval = ρ at ex ey
    have hg : (eqGuard op T x y (.float .f64 x') (.float .f64 y')).run Tryz.prog w = .ok () w := by cases op <;> rfl
    simp [ex, ey, hb, hg]
end
/-- A float made whole. -/
theorem run_cvtF (ρ : Operand → Value) (o : Oper) (x : Operand) (w : World) (b : Nat) (n : Int) (h : floatToIntVal .f64 b .i64 = some n) (h1 : ρ x = .float .f64 b) : (execOp ρ { o with op := .convert 23 2 x }).run Tryz.prog w = .ok (.value (.int .i64 n)) w := by
  have := run_convert_float_int (P := Tryz.prog) w 23 2 .f64 .i64 b n (by rw [Tryz.underlying23]; rfl) Tryz.underlying2 h
  unfold execOp
  simp [h1, this]
theorem pur1t {f : FuncId} {x a b : Value} (h : Pur f #[x] (.tuple #[a, b])) : ∀ w u, Is x u w → Calls Tryz.prog f #[u] w (Gives (TWO (IS a) (IS b)) w) := fun w u e => by
  obtain rfl : u = x := e
  exact (h w).mono fun e w' ⟨he, hw⟩ => by subst hw; exact ⟨_, he, Below.refl _ _, a, b, rfl, rfl, rfl⟩
end Go.Proofs.YtgalppimdmjdcaaGreat

/-
  Arrays and lists of four floats; the least and the greatest of floats; a field of an interval written.
-/
namespace Go.Proofs.YtgalppimdmjdcaaGreat
open Go Go.RowKit Nt
set_option linter.unusedSimpArgs false
set_option linter.unusedVariables false
set_option maxRecDepth 20000

/-- Three floats, four floats, by their places. -/
def q2 (p q : Int) : Nat → Int | 0 => p | _ => q
def q4 (p0 p1 p2 p3 : Int) : Nat → Int | 0 => p0 | 1 => p1 | 2 => p2 | _ => p3
section
variable {ops : Array Oper} {l : List Kd} {bx : Bxs} {sl : List (Tmp × Pr)} {i : Nat} {o : Oper} {Q : Exit → Act → World → Prop} {a0 : Act} {n : Nat} {w0 : World}
end
end Go.Proofs.YtgalppimdmjdcaaGreat

/-
  Arrays and lists of four floats; a field of an interval written.
-/
namespace Go.Proofs.YtgalppimdmjdcaaGreat
open Go Go.RowKit Nt
set_option linter.unusedSimpArgs false
set_option linter.unusedVariables false
set_option maxRecDepth 20000

section
variable {ops : Array Oper} {l : List Kd} {bx : Bxs} {sl : List (Tmp × Pr)} {i : Nat} {o : Oper} {Q : Exit → Act → World → Prop} {a0 : Act} {n : Nat} {w0 : World}
end
end Go.Proofs.YtgalppimdmjdcaaGreat

/-
  Sums and products of floats by their numbers: the answer is the nearest float.
-/
namespace Go.Proofs.YtgalppimdmjdcaaGreat
open Go
set_option linter.unusedSimpArgs false
set_option linter.unusedVariables false
set_option maxRecDepth 20000

theorem Nearest.le {V R : Nat} (h : Nearest V R) : R ≤ 9218868437227405312 := by
  obtain ⟨L, K, e, _⟩ := h.pick
  omega
/-- A place that is finite. -/
def Fin (p : Int) : Prop := -9218868437227405312 < p ∧ p < 9218868437227405312
end Go.Proofs.YtgalppimdmjdcaaGreat

/-
  Products of ends, 0 times an infinity being 0.
-/
namespace Go.Proofs.YtgalppimdmjdcaaGreat
open Go
set_option linter.unusedSimpArgs false
set_option linter.unusedVariables false
set_option maxRecDepth 20000

theorem fin_or {r : Int} (hr : r.natAbs ≤ 9218868437227405312) : Fin r ∨ (r = 9218868437227405312 ∨ r = -9218868437227405312) := by unfold Fin; omega
theorem plc_le {a : Nat} {p : Int} (h : plc a = some p) : p.natAbs ≤ 9218868437227405312 := by
  unfold plc at h
  split at h
  · have := Option.some.inj h; split at this <;> omega
  · cases h
end Go.Proofs.YtgalppimdmjdcaaGreat
