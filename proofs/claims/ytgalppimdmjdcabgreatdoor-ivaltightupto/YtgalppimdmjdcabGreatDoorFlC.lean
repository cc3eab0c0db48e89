import Derived.Test.YtgalppimdmjdcabGreatDoorStruct
import Derived.Test.YtgalppimdmjdcabGreatDoorFlA
import Derived.Test.YtgalppimdmjdcabGreatDoorSetQ
import Derived.Test.YtgalppimdmjdcabGreatDoorFlB
/-
  Floats and intervals in the logic of statements.
-/
namespace Go.Proofs.YtgalppimdmjdcabGreatDoor
open Go Go.RowKit Nt
set_option linter.unusedSimpArgs false
set_option linter.unusedVariables false
set_option maxRecDepth 20000

/-- A float of that place. -/
def FL (p : Option Int) : Pr := fun v _ => ∃ b, v = .float .f64 b ∧ b < 18446744073709551616 ∧ plc b = p
def FLN (p : Option Int) : Nat → Pr := fun _ => FL p
theorem fresh_fl (p : Option Int) : Fresh (FLN p) := ⟨fun _ _ _ _ _ h => h, fun _ _ _ _ _ _ h _ => h⟩
/-- An interval of two floats. -/
def IVN (p q : Option Int) : Nat → Pr := fun _ => SF [FL p, FL q]
theorem sf_fl {p q : Option Int} {v : Value} {w : World} (h : SF [FL p, FL q] v w) : ∃ x y, v = .agg #[.float .f64 x, .float .f64 y] ∧ x < 18446744073709551616 ∧ plc x = p ∧ y < 18446744073709551616 ∧ plc y = q := by
  obtain ⟨cs, rfl, h1, h2, h3⟩ := h
  obtain ⟨u, hu, x, rfl, hx1, hx2⟩ := h3 0 _ rfl
  obtain ⟨u', hu', y, rfl, hy1, hy2⟩ := h3 1 _ rfl
  refine ⟨x, y, ?_, hx1, hx2, hy1, hy2⟩
  congr 1
  apply Array.ext
  · simpa using h1
  · intro i hi1 hi2
    have hi : i < 2 := by simpa using hi2
    match i, hi with
    | 0, _ => rw [Array.getElem?_eq_getElem hi1] at hu; exact Option.some.inj hu
    | 1, _ => rw [Array.getElem?_eq_getElem hi1] at hu'; exact Option.some.inj hu'
theorem sf_mk {φ ψ : Pr} {x y : Nat} {w : World} (h1 : φ (.float .f64 x) w) (h2 : ψ (.float .f64 y) w) : SF [φ, ψ] (.agg #[.float .f64 x, .float .f64 y]) w := by
  refine ⟨_, rfl, rfl, by simp [Value.oneCell'], fun f q hq => ?_⟩
  match f, hq with
  | 0, hq => simp at hq; subst hq; exact ⟨_, rfl, h1⟩
  | 1, hq => simp at hq; subst hq; exact ⟨_, rfl, h2⟩
theorem fresh_iv (p q : Option Int) : Fresh (IVN p q) :=
  ⟨fun _ _ v w _ h => h, fun _ v w w' _ _ h _ => by
    obtain ⟨x, y, rfl, a1, a2, a3, a4⟩ := sf_fl h
    exact sf_mk ⟨_, rfl, a1, a2⟩ ⟨_, rfl, a3, a4⟩⟩
theorem ix_mk {x y : Nat} {w : World} : SF [Is (.float .f64 x), Is (.float .f64 y)] (.agg #[.float .f64 x, .float .f64 y]) w := sf_mk rfl rfl
theorem ix_has {B : Nat → Prop} {w : World} {x y : Nat} : Has B w (SF [Is (.float .f64 x), Is (.float .f64 y)]) (.agg #[.float .f64 x, .float .f64 y]) := fun w' _ => ix_mk
theorem ix_eq {x y : Nat} {v : Value} {w : World} (h : SF [Is (.float .f64 x), Is (.float .f64 y)] v w) : v = .agg #[.float .f64 x, .float .f64 y] := by
  obtain ⟨cs, rfl, h1, h2, h3⟩ := h
  obtain ⟨u, hu, rfl⟩ := h3 0 _ rfl
  obtain ⟨u', hu', rfl⟩ := h3 1 _ rfl
  congr 1
  apply Array.ext
  · simpa using h1
  · intro i hi1 hi2
    have hi : i < 2 := by simpa using hi2
    match i, hi with
    | 0, _ => rw [Array.getElem?_eq_getElem hi1] at hu; exact Option.some.inj hu
    | 1, _ => rw [Array.getElem?_eq_getElem hi1] at hu'; exact Option.some.inj hu'
theorem fl_is {b : Nat} (hb : b < 18446744073709551616) : ∀ v w, Is (.float .f64 b) v w → FL (plc b) v w := fun v w e => ⟨b, e, hb, rfl⟩
/-! What calls give. -/
theorem Pur.gives {f : FuncId} {args : Array Value} {v : Value} (h : Pur f args v) (w : World) : Calls Tryz.prog f args w (Gives (IS v) w) := (h w).mono fun e w' ⟨he, hw⟩ => by subst hw; exact ⟨v, he, Below.refl _ _, rfl⟩
theorem PurF.gives {f : FuncId} {args : Array Value} {p : Option Int} (h : PurF f args p) (w : World) : Calls Tryz.prog f args w (Gives (FLN p) w) := by
  obtain ⟨r, h1, h2, h3⟩ := h
  exact (h3 w).mono fun e w' ⟨he, hw⟩ => by subst hw; exact ⟨_, he, Below.refl _ _, r, rfl, h1, h2⟩
theorem pur1 {f : FuncId} {x v : Value} (h : Pur f #[x] v) : ∀ w u, Is x u w → Calls Tryz.prog f #[u] w (Gives (IS v) w) := fun w u e => by obtain rfl : u = x := e; exact h.gives w
theorem pur2 {f : FuncId} {x y v : Value} (h : Pur f #[x, y] v) : ∀ w u u', Is x u w → Is y u' w → Calls Tryz.prog f #[u, u'] w (Gives (IS v) w) := fun w u u' e e' => by obtain rfl : u = x := e; obtain rfl : u' = y := e'; exact h.gives w
theorem purF1 {f : FuncId} {x : Value} {p : Option Int} (h : PurF f #[x] p) : ∀ w u, Is x u w → Calls Tryz.prog f #[u] w (Gives (FLN p) w) := fun w u e => by obtain rfl : u = x := e; exact h.gives w
theorem fl1 {f : FuncId} {p : Option Int} {ψ : Nat → Pr} (h : ∀ w b, b < 18446744073709551616 → plc b = p → Calls Tryz.prog f #[.float .f64 b] w (Gives ψ w)) : ∀ w u, FL p u w → Calls Tryz.prog f #[u] w (Gives ψ w) := fun w u ⟨b, e, hb, hp⟩ => by rw [e]; exact h w b hb hp
/-! The struct's rules. -/
theorem strct_ival : Strct 34 2 := ⟨⟨_, Tryz.underlying34, rfl⟩, by kernel_rfl⟩
theorem shp_i0 : Shp 2 (Is (.agg #[.float .f64 0, .float .f64 0])) := fun u w h => ⟨_, h, rfl, by simp [Value.oneCell']⟩
theorem shp_iv {p q : Pr} : Shp 2 (SF [p, q]) := shp_sf (ps := [p, q])
theorem alloc_ival (ρ : Operand → Value) (o : Oper) (w : World) : (execOp ρ { o with op := .alloc 34 }).run Tryz.prog w = .ok (.value (.pointer (some ⟨w.heap.size, 0, none⟩))) (w.alloc (.cells (Value.agg #[.float .f64 0, .float .f64 0]).cells 34 (0, 0))) := by
  unfold execOp
  go_simp
theorem box_ival {φ : Pr} (h : Shp 2 φ) (ρ : Operand → Value) (o : Oper) (x : Operand) (w : World) (hφ : φ (ρ x) w) : (execOp ρ { o with op := .box 34 x }).run Tryz.prog w = .ok (.value (.pointer (some ⟨w.heap.size, 0, none⟩))) (w.alloc (.cells (ρ x).cells 34 (0, 0))) := by
  obtain ⟨cs, e, h1, h2⟩ := h _ _ hφ
  unfold execOp
  rw [e]
  go_simp
theorem part_ival0 (ρ : Operand → Value) (o : Oper) (x : Operand) (w : World) (b f : Nat) (h : ρ x = .pointer (some ⟨b, f, none⟩)) : (execOp ρ { o with op := .fieldAddr 34 x 0 }).run Tryz.prog w = .ok (.value (.pointer (some ⟨b, f, none⟩))) w := by
  unfold execOp
  go_simp
theorem part_ival1 (ρ : Operand → Value) (o : Oper) (x : Operand) (w : World) (b f : Nat) (h : ρ x = .pointer (some ⟨b, f, none⟩)) : (execOp ρ { o with op := .fieldAddr 34 x 1 }).run Tryz.prog w = .ok (.value (.pointer (some ⟨b, f + 1, none⟩))) w := by
  unfold execOp
  go_simp
theorem load1_f64 : Load1 29 := fun ρ w o x b f u hx hc => by
  unfold execOp
  go_simp
theorem ploadI {ps : List Pr} {χ : Pr} {f : Nat} {T T' : TypeId} (hp : ps[f]? = some χ) (hL : Load1 T') (ρ : Operand → Value) (o : Oper) (x : Operand) (w : World) (b : Nat) (u : Value) (hφ : SF ps u w) (hx : ρ x = .pointer (some ⟨b, f, none⟩)) (hb : w.heap[b]? = some (.cells u.cells T (0, 0))) :
    ∃ v, (execOp ρ { o with op := .load T' x }).run Tryz.prog w = .ok (.value v) w ∧ ∀ w', SF ps u w' → χ v w' := by
  obtain ⟨cs, rfl, h1, h2, h3⟩ := hφ
  obtain ⟨v, hv, _⟩ := h3 f χ hp
  refine ⟨v, hL ρ w o x b f v hx (sf_cell hb hv), fun w' h' => ?_⟩
  obtain ⟨_, _, h4⟩ := h'.get
  obtain ⟨v', hv', hχ⟩ := h4 f χ hp
  rw [hv] at hv'
  cases hv'
  exact hχ
section
variable {ops : Array Oper} {l : List Kd} {bx : Bxs} {sl : List (Tmp × Pr)} {i : Nat} {o : Oper} {Q : Exit → Act → World → Prop} {a0 : Act} {n : Nat} {w0 : World}
theorem owe_build_iv {x y : Operand} {φ ψ : Pr} (ho : ops[i]? = some o) (hw : Wants ops l bx sl i o) (hop : o.op = .build 34 #[(0, x), (1, y)]) (hx : Opnd ops l bx sl i x φ) (hy : Opnd ops l bx sl i y ψ) (h1 : ∀ v w, φ v w → ∃ b, v = .float .f64 b) (h2 : ∀ v w, ψ v w → ∃ b, v = .float .f64 b) (hk : kdAt l i = .val (SF [φ, ψ])) : Owed Tryz.prog ops Q l bx sl a0 n w0 i :=
  owe_val ho hw hk fun vs B a w c => by
    have hxv := hx a0 n w0 vs B a w c
    have hyv := hy a0 n w0 vs B a w c
    obtain ⟨x', ex⟩ := h1 _ _ hxv.now
    obtain ⟨y', ey⟩ := h2 _ _ hyv.now
    refine ⟨.agg #[.float .f64 x', .float .f64 y'], ?_, fun w' ev => sf_mk (by rw [← ex]; exact hxv w' ev) (by rw [← ey]; exact hyv w' ev)⟩
    unfold execOp
    rw [hop]
    generalize a.eval = ρ at ex ey
    go_simp
theorem flt_fl {p : Option Int} : ∀ v w, FL p v w → ∃ b, v = .float .f64 b := fun v w ⟨b, e, _⟩ => ⟨b, e⟩
/-- A comparison. -/
theorem owe_fcmp {x y : Operand} {op : BinOp} {T T' : TypeId} {p q : Option Int} {r : Bool} (ho : ops[i]? = some o) (hw : Wants ops l bx sl i o) (hop : o.op = .binOp op T x y T') (hx : Opnd ops l bx sl i x (FL p)) (hy : Opnd ops l bx sl i y (FL q))
    (hr : match op with | .eql => (ordP p q == some .eq) = r | .neq => (ordP p q != some .eq) = r | .lss => (ordP p q == some .lt) = r | .leq => (ordP p q == some .lt || ordP p q == some .eq) = r | .gtr => (ordP p q == some .gt) = r | .geq => (ordP p q == some .gt || ordP p q == some .eq) = r | _ => False)
    (hk : kdAt l i = .val (Is (.bool r))) : Owed Tryz.prog ops Q l bx sl a0 n w0 i :=
  owe_is ho hw hk fun vs B a w c => by
    obtain ⟨x', ex, hx1, hx2⟩ := (hx a0 n w0 vs B a w c).now
    obtain ⟨y', ey, hy1, hy2⟩ := (hy a0 n w0 vs B a w c).now
    have hc := fo_plc x' y'
    rw [hx2, hy2] at hc
    have hb : (binOp op T (.float .f64 x') (.float .f64 y')).run Tryz.prog w = .ok (.bool r) w := by
      cases op <;> simp only at hr <;> (try exact hr.elim) <;> simp [binOp, Op.floatCmp, hc, ← hr]
    unfold execOp
    rw [hop]
    generalize a.eval = ρ at ex ey
    have hg : (eqGuard op T x y (.float .f64 x') (.float .f64 y')).run Tryz.prog w = .ok () w := by cases op <;> rfl
    simp [ex, ey, hb, hg]
end
/-- A float made whole. -/
theorem run_cvtF (ρ : Operand → Value) (o : Oper) (x : Operand) (w : World) (b : Nat) (n : Int) (h : floatToIntVal .f64 b .i64 = some n) (h1 : ρ x = .float .f64 b) : (execOp ρ { o with op := .convert 29 2 x }).run Tryz.prog w = .ok (.value (.int .i64 n)) w := by
  have := run_convert_float_int (P := Tryz.prog) w 29 2 .f64 .i64 b n (by rw [Tryz.underlying29]; rfl) Tryz.underlying2 h
  unfold execOp
  simp [h1, this]
theorem pur1t {f : FuncId} {x a b : Value} (h : Pur f #[x] (.tuple #[a, b])) : ∀ w u, Is x u w → Calls Tryz.prog f #[u] w (Gives (TWO (IS a) (IS b)) w) := fun w u e => by
  obtain rfl : u = x := e
  exact (h w).mono fun e w' ⟨he, hw⟩ => by subst hw; exact ⟨_, he, Below.refl _ _, a, b, rfl, rfl, rfl⟩
end Go.Proofs.YtgalppimdmjdcabGreatDoor

/-
  Arrays and lists of four floats; the least and the greatest of floats; a field of an interval written.
-/
namespace Go.Proofs.YtgalppimdmjdcabGreatDoor
open Go Go.RowKit Nt
set_option linter.unusedSimpArgs false
set_option linter.unusedVariables false
set_option maxRecDepth 20000

/-- Three floats, four floats, by their places. -/
def q2 (p q : Int) : Nat → Int | 0 => p | _ => q
def q4 (p0 p1 p2 p3 : Int) : Nat → Int | 0 => p0 | 1 => p1 | 2 => p2 | _ => p3
section
variable {ops : Array Oper} {l : List Kd} {bx : Bxs} {sl : List (Tmp × Pr)} {i : Nat} {o : Oper} {Q : Exit → Act → World → Prop} {a0 : Act} {n : Nat} {w0 : World}
end
end Go.Proofs.YtgalppimdmjdcabGreatDoor

/-
  Arrays and lists of four floats; a field of an interval written.
-/
namespace Go.Proofs.YtgalppimdmjdcabGreatDoor
open Go Go.RowKit Nt
set_option linter.unusedSimpArgs false
set_option linter.unusedVariables false
set_option maxRecDepth 20000

section
variable {ops : Array Oper} {l : List Kd} {bx : Bxs} {sl : List (Tmp × Pr)} {i : Nat} {o : Oper} {Q : Exit → Act → World → Prop} {a0 : Act} {n : Nat} {w0 : World}
end
end Go.Proofs.YtgalppimdmjdcabGreatDoor

/-
  Sums and products of floats by their numbers: the answer is the nearest float.
-/
namespace Go.Proofs.YtgalppimdmjdcabGreatDoor
open Go
set_option linter.unusedSimpArgs false
set_option linter.unusedVariables false
set_option maxRecDepth 20000

theorem Nearest.le {V R : Nat} (h : Nearest V R) : R ≤ 9218868437227405312 := by
  obtain ⟨L, K, e, _⟩ := h.pick
  omega
theorem vp_neg_iff {p : Int} : vp p < 0 ↔ p < 0 := by
  have := vp_lt (p := p) (q := 0)
  rwa [show vp 0 = 0 from rfl] at this
/-- A place that is finite. -/
def Fin (p : Int) : Prop := -9218868437227405312 < p ∧ p < 9218868437227405312
end Go.Proofs.YtgalppimdmjdcabGreatDoor

/-
  Products of ends, 0 times an infinity being 0.
-/
namespace Go.Proofs.YtgalppimdmjdcabGreatDoor
open Go
set_option linter.unusedSimpArgs false
set_option linter.unusedVariables false
set_option maxRecDepth 20000

theorem eq0_t {a : Nat} (h : plc a = some 0) : (ordP (plc a) (plc 0) == some .eq) = true := by rw [h]; rfl
theorem eq0_f {a : Nat} (h : plc a ≠ some 0) : (ordP (plc a) (plc 0) == some .eq) = false := by
  cases hp : plc a with
  | none => rfl
  | some p =>
    show (some (compare p 0) == some Ordering.eq) = false
    rw [cmp_eq]
    exact decide_eq_false (fun e => h (by rw [hp, e]))
theorem fin_or {r : Int} (hr : r.natAbs ≤ 9218868437227405312) : Fin r ∨ (r = 9218868437227405312 ∨ r = -9218868437227405312) := by unfold Fin; omega
theorem plc_le {a : Nat} {p : Int} (h : plc a = some p) : p.natAbs ≤ 9218868437227405312 := by
  unfold plc at h
  split at h
  · have := Option.some.inj h; split at this <;> omega
  · cases h
end Go.Proofs.YtgalppimdmjdcabGreatDoor
