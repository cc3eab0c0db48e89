import Derived.Test.YtgalppimdmjdcabGreatStruct
import Derived.Test.YtgalppimdmjdcabGreatFlA
import Derived.Test.YtgalppimdmjdcabGreatSetQ
import Derived.Test.YtgalppimdmjdcabGreatFlB
/-
  Floats and intervals in the logic of statements.
-/
namespace Go.Proofs.YtgalppimdmjdcabGreat
open Go Go.RowKit Nt
set_option linter.unusedSimpArgs false
set_option linter.unusedVariables false
set_option maxRecDepth 20000

/-- A float of that place. -/
def FL (p : Option Int) : Pr := fun v _ => ∃ b, v = .float .f64 b ∧ b < 18446744073709551616 ∧ plc b = p
def FLN (p : Option Int) : Nat → Pr := fun _ => FL p
theorem fresh_fl (p : Option Int) : Fresh (FLN p) := ⟨fun _ _ _ _ _ h => h, fun _ _ _ _ _ _ h _ => h⟩
/-- An interval of two floats. -/
def IVN (p q : Option Int) : Nat → Pr := fun _ => SF [FL p, FL q]
theorem sf_fl {p q : Option Int} {v : Value} {w : World} (h : SF [FL p, FL q] v w) : ∃ x y, v = .agg #[.float .f64 x, .float .f64 y] ∧ x < 18446744073709551616 ∧ plc x = p ∧ y < 18446744073709551616 ∧ plc y = q := by
  obtain ⟨cs, rfl, h1, h2, h3⟩ := h
  obtain ⟨u, hu, x, rfl, hx1, hx2⟩ := h3 0 _ rfl
  obtain ⟨u', hu', y, rfl, hy1, hy2⟩ := h3 1 _ rfl
  refine ⟨x, y, ?_, hx1, hx2, hy1, hy2⟩
  congr 1
  apply Array.ext
  · simpa using h1
  · intro i hi1 hi2
    have hi : i < 2 := by simpa using hi2
    match i, hi with
    | 0, _ => rw [Array.getElem?_eq_getElem hi1] at hu; exact Option.some.inj hu
    | 1, _ => rw [Array.getElem?_eq_getElem hi1] at hu'; exact Option.some.inj hu'
theorem sf_mk {φ ψ : Pr} {x y : Nat} {w : World} (h1 : φ (.float .f64 x) w) (h2 : ψ (.float .f64 y) w) : SF [φ, ψ] (.agg #[.float .f64 x, .float .f64 y]) w := by
  refine ⟨_, rfl, rfl, by simp [Value.oneCell'], fun f q hq => ?_⟩
  match f, hq with
  | 0, hq => simp at hq; subst hq; exact ⟨_, rfl, h1⟩
  | 1, hq => simp at hq; subst hq; exact ⟨_, rfl, h2⟩
theorem fresh_iv (p q : Option Int) : Fresh (IVN p q) :=
  ⟨fun _ _ v w _ h => h, fun _ v w w' _ _ h _ => by
    obtain ⟨x, y, rfl, a1, a2, a3, a4⟩ := sf_fl h
    exact sf_mk ⟨_, rfl, a1, a2⟩ ⟨_, rfl, a3, a4⟩⟩
theorem ix_mk {x y : Nat} {w : World} : SF [Is (.float .f64 x), Is (.float .f64 y)] (.agg #[.float .f64 x, .float .f64 y]) w := sf_mk rfl rfl
theorem ix_has {B : Nat → Prop} {w : World} {x y : Nat} : Has B w (SF [Is (.float .f64 x), Is (.float .f64 y)]) (.agg #[.float .f64 x, .float .f64 y]) := fun w' _ => ix_mk
theorem ix_eq {x y : Nat} {v : Value} {w : World} (h : SF [Is (.float .f64 x), Is (.float .f64 y)] v w) : v = .agg #[.float .f64 x, .float .f64 y] := by
  obtain ⟨cs, rfl, h1, h2, h3⟩ := h
  obtain ⟨u, hu, rfl⟩ := h3 0 _ rfl
  obtain ⟨u', hu', rfl⟩ := h3 1 _ rfl
  congr 1
  apply Array.ext
  · simpa using h1
  · intro i hi1 hi2
    have hi : i < 2 := by simpa using hi2
    match i, hi with
    | 0, _ => rw [Array.getElem?_eq_getElem hi1] at hu; exact Option.some.inj hu
    | 1, _ => rw [Array.getElem?_eq_getElem hi1] at hu'; exact Option.some.inj hu'
theorem fl_is {b : Nat} (hb : b < 18446744073709551616) : ∀ v w, Is (.float .f64 b) v w → FL (plc b) v w := fun v w e => ⟨b, e, hb, rfl⟩
/-! What calls give. -/
theorem Pur.gives {f : FuncId} {args : Array Value} {v : Value} (h : Pur f args v) (w : World) : Calls Tryz.prog f args w (Gives (IS v) w) := (h w).mono fun e w' ⟨he, hw⟩ => by subst hw; exact ⟨v, he, Below.refl _ _, rfl⟩
theorem PurF.gives {f : FuncId} {args : Array Value} {p : Option Int} (h : PurF f args p) (w : World) : Calls Tryz.prog f args w (Gives (FLN p) w) := by
  obtain ⟨r, h1, h2, h3⟩ := h
  exact (h3 w).mono fun e w' ⟨he, hw⟩ => by subst hw; exact ⟨_, he, Below.refl _ _, r, rfl, h1, h2⟩
theorem pur1 {f : FuncId} {x v : Value} (h : Pur f #[x] v) : ∀ w u, Is x u w → Calls Tryz.prog f #[u] w (Gives (IS v) w) := fun w u e => by obtain rfl : u = x := e; exact h.gives w
theorem pur2 {f : FuncId} {x y v : Value} (h : Pur f #[x, y] v) : ∀ w u u', Is x u w → Is y u' w → Calls Tryz.prog f #[u, u'] w (Gives (IS v) w) := fun w u u' e e' => by obtain rfl : u = x := e; obtain rfl : u' = y := e'; exact h.gives w
theorem purF1 {f : FuncId} {x : Value} {p : Option Int} (h : PurF f #[x] p) : ∀ w u, Is x u w → Calls Tryz.prog f #[u] w (Gives (FLN p) w) := fun w u e => by obtain rfl : u = x := e; exact h.gives w
theorem fl2 {f : FuncId} {p q : Option Int} {ψ : Nat → Pr} (h : ∀ w b c, b < 18446744073709551616 → plc b = p → c < 18446744073709551616 → plc c = q → Calls Tryz.prog f #[.float .f64 b, .float .f64 c] w (Gives ψ w)) : ∀ w u v, FL p u w → FL q v w → Calls Tryz.prog f #[u, v] w (Gives ψ w) := fun w u v ⟨b, e, hb, hp⟩ ⟨c, e', hc, hq⟩ => by rw [e, e']; exact h w b c hb hp hc hq
theorem ix1 {f : FuncId} {x y : Nat} {ψ : Nat → Pr} (h : ∀ w, Calls Tryz.prog f #[.agg #[.float .f64 x, .float .f64 y]] w (Gives ψ w)) : ∀ w u, SF [Is (.float .f64 x), Is (.float .f64 y)] u w → Calls Tryz.prog f #[u] w (Gives ψ w) := fun w u e => by rw [ix_eq e]; exact h w
theorem ix2 {f : FuncId} {x y x' y' : Nat} {ψ : Nat → Pr} (h : ∀ w, Calls Tryz.prog f #[.agg #[.float .f64 x, .float .f64 y], .agg #[.float .f64 x', .float .f64 y']] w (Gives ψ w)) : ∀ w u v, SF [Is (.float .f64 x), Is (.float .f64 y)] u w → SF [Is (.float .f64 x'), Is (.float .f64 y')] v w → Calls Tryz.prog f #[u, v] w (Gives ψ w) := fun w u v e e' => by rw [ix_eq e, ix_eq e']; exact h w

/-! The struct's rules. -/
theorem strct_ival : Strct 24 2 := ⟨⟨_, Tryz.underlying24, rfl⟩, by kernel_rfl⟩
theorem shp_i0 : Shp 2 (Is (.agg #[.float .f64 0, .float .f64 0])) := fun u w h => ⟨_, h, rfl, by simp [Value.oneCell']⟩
theorem shp_iv {p q : Pr} : Shp 2 (SF [p, q]) := shp_sf (ps := [p, q])
theorem alloc_ival (ρ : Operand → Value) (o : Oper) (w : World) : (execOp ρ { o with op := .alloc 24 }).run Tryz.prog w = .ok (.value (.pointer (some ⟨w.heap.size, 0, none⟩))) (w.alloc (.cells (Value.agg #[.float .f64 0, .float .f64 0]).cells 24 (0, 0))) := by
  unfold execOp
  go_simp
theorem box_ival {φ : Pr} (h : Shp 2 φ) (ρ : Operand → Value) (o : Oper) (x : Operand) (w : World) (hφ : φ (ρ x) w) : (execOp ρ { o with op := .box 24 x }).run Tryz.prog w = .ok (.value (.pointer (some ⟨w.heap.size, 0, none⟩))) (w.alloc (.cells (ρ x).cells 24 (0, 0))) := by
  obtain ⟨cs, e, h1, h2⟩ := h _ _ hφ
  unfold execOp
  rw [e]
  go_simp
theorem part_ival0 (ρ : Operand → Value) (o : Oper) (x : Operand) (w : World) (b f : Nat) (h : ρ x = .pointer (some ⟨b, f, none⟩)) : (execOp ρ { o with op := .fieldAddr 24 x 0 }).run Tryz.prog w = .ok (.value (.pointer (some ⟨b, f, none⟩))) w := by
  unfold execOp
  go_simp
theorem part_ival1 (ρ : Operand → Value) (o : Oper) (x : Operand) (w : World) (b f : Nat) (h : ρ x = .pointer (some ⟨b, f, none⟩)) : (execOp ρ { o with op := .fieldAddr 24 x 1 }).run Tryz.prog w = .ok (.value (.pointer (some ⟨b, f + 1, none⟩))) w := by
  unfold execOp
  go_simp
theorem load1_f64 : Load1 22 := fun ρ w o x b f u hx hc => by
  unfold execOp
  go_simp
theorem ploadI {ps : List Pr} {χ : Pr} {f : Nat} {T T' : TypeId} (hp : ps[f]? = some χ) (hL : Load1 T') (ρ : Operand → Value) (o : Oper) (x : Operand) (w : World) (b : Nat) (u : Value) (hφ : SF ps u w) (hx : ρ x = .pointer (some ⟨b, f, none⟩)) (hb : w.heap[b]? = some (.cells u.cells T (0, 0))) :
    ∃ v, (execOp ρ { o with op := .load T' x }).run Tryz.prog w = .ok (.value v) w ∧ ∀ w', SF ps u w' → χ v w' := by
  obtain ⟨cs, rfl, h1, h2, h3⟩ := hφ
  obtain ⟨v, hv, _⟩ := h3 f χ hp
  refine ⟨v, hL ρ w o x b f v hx (sf_cell hb hv), fun w' h' => ?_⟩
  obtain ⟨_, _, h4⟩ := h'.get
  obtain ⟨v', hv', hχ⟩ := h4 f χ hp
  rw [hv] at hv'
  cases hv'
  exact hχ
section
variable {ops : Array Oper} {l : List Kd} {bx : Bxs} {sl : List (Tmp × Pr)} {i : Nat} {o : Oper} {Q : Exit → Act → World → Prop} {a0 : Act} {n : Nat} {w0 : World}
theorem owe_build_iv {x y : Operand} {φ ψ : Pr} (ho : ops[i]? = some o) (hw : Wants ops l bx sl i o) (hop : o.op = .build 24 #[(0, x), (1, y)]) (hx : Opnd ops l bx sl i x φ) (hy : Opnd ops l bx sl i y ψ) (h1 : ∀ v w, φ v w → ∃ b, v = .float .f64 b) (h2 : ∀ v w, ψ v w → ∃ b, v = .float .f64 b) (hk : kdAt l i = .val (SF [φ, ψ])) : Owed Tryz.prog ops Q l bx sl a0 n w0 i :=
  owe_val ho hw hk fun vs B a w c => by
    have hxv := hx a0 n w0 vs B a w c
    have hyv := hy a0 n w0 vs B a w c
    obtain ⟨x', ex⟩ := h1 _ _ hxv.now
    obtain ⟨y', ey⟩ := h2 _ _ hyv.now
    refine ⟨.agg #[.float .f64 x', .float .f64 y'], ?_, fun w' ev => sf_mk (by rw [← ex]; exact hxv w' ev) (by rw [← ey]; exact hyv w' ev)⟩
    unfold execOp
    rw [hop]
    generalize a.eval = ρ at ex ey
    go_simp
theorem flt_fl {p : Option Int} : ∀ v w, FL p v w → ∃ b, v = .float .f64 b := fun v w ⟨b, e, _⟩ => ⟨b, e⟩
/-- A comparison. -/
theorem owe_fcmp {x y : Operand} {op : BinOp} {T T' : TypeId} {p q : Option Int} {r : Bool} (ho : ops[i]? = some o) (hw : Wants ops l bx sl i o) (hop : o.op = .binOp op T x y T') (hx : Opnd ops l bx sl i x (FL p)) (hy : Opnd ops l bx sl i y (FL q))
    (hr : match op with | .eql => (ordP p q == some .eq) = r | .neq => (ordP p q != some .eq) = r | .lss => (ordP p q == some .lt) = r | .leq => (ordP p q == some .lt || ordP p q == some .eq) = r | .gtr => (ordP p q == some .gt) = r | .geq => (ordP p q == some .gt || ordP p q == some .eq) = r | _ => False)
    (hk : kdAt l i = .val (Is (.bool r))) : Owed Tryz.prog ops Q l bx sl a0 n w0 i :=
  owe_is ho hw hk fun vs B a w c => by
    obtain ⟨x', ex, hx1, hx2⟩ := (hx a0 n w0 vs B a w c).now
    obtain ⟨y', ey, hy1, hy2⟩ := (hy a0 n w0 vs B a w c).now
    have hc := fo_plc x' y'
    rw [hx2, hy2] at hc
    have hb : (binOp op T (.float .f64 x') (.float .f64 y')).run Tryz.prog w = .ok (.bool r) w := by
      cases op <;> simp only at hr <;> (try exact hr.elim) <;> simp [binOp, Op.floatCmp, hc, ← hr]
    unfold execOp
    rw [hop]
    generalize a.eval = ρ at ex ey
    have hg : (eqGuard op T x y (.float .f64 x') (.float .f64 y')).run Tryz.prog w = .ok () w := by cases op <;> rfl
    simp [ex, ey, hb, hg]
/-- The place of a sum, a difference, a product. -/
def arP (op : BinOp) (x y : Nat) : Option Int := match floatBits op .f64 x y with | some r => plc r | none => none
theorem nan_cut (x y t : Nat) : plc (Question.cut (.nanBits .f64 x y) t) = none ∧ Question.cut (.nanBits .f64 x y) t < 18446744073709551616 := by
  have e : Question.cut (.nanBits .f64 x y) t = (t % 2) * 9223372036854775808 + 9218868437227405312 + 1 + (t / 2) % 4503599627370495 := rfl
  rw [e]
  have h1 : t / 2 % 4503599627370495 < 4503599627370495 := Nat.mod_lt _ (by decide)
  have h2 : t % 2 < 2 := Nat.mod_lt _ (by decide)
  generalize t / 2 % 4503599627370495 = A at h1 ⊢
  generalize t % 2 = B at h2 ⊢
  refine ⟨?_, by omega⟩
  unfold plc
  rw [if_neg (by omega)]
theorem owe_farith {x y : Operand} {op : BinOp} {T T' : TypeId} {a b : Nat} (hop' : op = .add ∨ op = .sub ∨ op = .mul) (ho : ops[i]? = some o) (hw : Wants ops l bx sl i o) (hop : o.op = .binOp op T x y T') (hx : Opnd ops l bx sl i x (Is (.float .f64 a))) (hy : Opnd ops l bx sl i y (Is (.float .f64 b)))
    (hk : kdAt l i = .val (FL (arP op a b))) : Owed Tryz.prog ops Q l bx sl a0 n w0 i :=
  owe_grow ho hw hk fun vs B ac w c => by
    have ex : ac.eval x = .float .f64 a := (hx a0 n w0 vs B ac w c).now
    have ey : ac.eval y = .float .f64 b := (hy a0 n w0 vs B ac w c).now
    cases hf : floatBits op .f64 a b with
    | some r =>
      refine ⟨.float .f64 r, w, ?_, Below.refl _ _, fun w' _ => ⟨r, rfl, ?_, ?_⟩⟩
      · unfold execOp
        rw [hop]
        generalize ac.eval = ρ at ex ey
        have := run_float_arith (P := Tryz.prog) w op T .f64 a b r hf
        have hg : (eqGuard op T x y (.float .f64 a) (.float .f64 b)).run Tryz.prog w = .ok () w := by cases op <;> rfl
        simp [ex, ey, this, hg]
      · have := floatBits_wf hf
        simpa [Lit.wf] using this
      · simp only [arP, hf]
    | none =>
      refine ⟨.float .f64 (Question.cut (.nanBits .f64 a b) (w.tape w.drawn (.nanBits .f64 a b))), { w with drawn := w.drawn + 1 }, ?_, ?_, fun w' _ => ⟨_, rfl, (nan_cut a b _).2, ?_⟩⟩
      · unfold execOp
        rw [hop]
        generalize ac.eval = ρ at ex ey
        have hg : (eqGuard op T x y (.float .f64 a) (.float .f64 b)).run Tryz.prog w = .ok () w := by cases op <;> rfl
        rcases hop' with rfl | rfl | rfl <;> simp only [floatBits] at hf <;> simp [ex, ey, binOp, Op.floatArith, hf, choose, Sem.run, Question.forced, hg]
      · exact ⟨rfl, rfl, rfl, Nat.le_refl _, fun _ _ => rfl⟩
      · rw [(nan_cut a b _).1]; simp only [arP, hf]
end
/-- A float made whole. -/
theorem run_cvtF (ρ : Operand → Value) (o : Oper) (x : Operand) (w : World) (b : Nat) (n : Int) (h : floatToIntVal .f64 b .i64 = some n) (h1 : ρ x = .float .f64 b) : (execOp ρ { o with op := .convert 22 2 x }).run Tryz.prog w = .ok (.value (.int .i64 n)) w := by
  have := run_convert_float_int (P := Tryz.prog) w 22 2 .f64 .i64 b n (by rw [Tryz.underlying22]; rfl) Tryz.underlying2 h
  unfold execOp
  simp [h1, this]
theorem pur1t {f : FuncId} {x a b : Value} (h : Pur f #[x] (.tuple #[a, b])) : ∀ w u, Is x u w → Calls Tryz.prog f #[u] w (Gives (TWO (IS a) (IS b)) w) := fun w u e => by
  obtain rfl : u = x := e
  exact (h w).mono fun e w' ⟨he, hw⟩ => by subst hw; exact ⟨_, he, Below.refl _ _, a, b, rfl, rfl, rfl⟩
end Go.Proofs.YtgalppimdmjdcabGreat

/-
  Arrays and lists of four floats; the least and the greatest of floats; a field of an interval written.
-/
namespace Go.Proofs.YtgalppimdmjdcabGreat
open Go Go.RowKit Nt
set_option linter.unusedSimpArgs false
set_option linter.unusedVariables false
set_option maxRecDepth 20000

/-- The least, the greatest of the first ones. -/
def mnP (P : Nat → Int) : Nat → Int
  | 0 => P 0
  | k + 1 => if P (k + 1) < mnP P k then P (k + 1) else mnP P k
def mxP (P : Nat → Int) : Nat → Int
  | 0 => P 0
  | k + 1 => if mxP P k < P (k + 1) then P (k + 1) else mxP P k
theorem min2_f (x y : Nat) (p q : Int) (hx : x < 18446744073709551616) (hy : y < 18446744073709551616) (hp : plc x = some p) (hq : plc y = some q) : ∃ r, r < 18446744073709551616 ∧ plc r = some (if q < p then q else p) ∧ Builtin.min2 (.float .f64 x) (.float .f64 y) = pure (.float .f64 r) := by
  have h : FloatKind.f64.format.order x y = some (compare p q) := by rw [fo_plc, hp, hq]; rfl
  have hc : compare p q = if p < q then .lt else if p = q then .eq else .gt := rfl
  simp only [Builtin.min2, h]
  by_cases h1 : p < q
  · rw [if_neg (by omega)]
    rw [if_pos h1] at hc
    simp only [hc]
    exact ⟨x, hx, hp, rfl⟩
  · rw [if_neg h1] at hc
    by_cases h2 : p = q
    · rw [if_pos h2] at hc
      simp only [hc]
      subst h2
      rw [if_neg (by omega)]
      split
      · exact ⟨x, hx, hp, rfl⟩
      · exact ⟨y, hy, hq, rfl⟩
    · rw [if_neg h2] at hc
      simp only [hc]
      rw [if_pos (by omega)]
      exact ⟨y, hy, hq, rfl⟩
theorem max2_f (x y : Nat) (p q : Int) (hx : x < 18446744073709551616) (hy : y < 18446744073709551616) (hp : plc x = some p) (hq : plc y = some q) : ∃ r, r < 18446744073709551616 ∧ plc r = some (if p < q then q else p) ∧ Builtin.max2 (.float .f64 x) (.float .f64 y) = pure (.float .f64 r) := by
  have h : FloatKind.f64.format.order x y = some (compare p q) := by rw [fo_plc, hp, hq]; rfl
  have hc : compare p q = if p < q then .lt else if p = q then .eq else .gt := rfl
  simp only [Builtin.max2, h]
  by_cases h1 : p < q
  · rw [if_pos h1]
    rw [if_pos h1] at hc
    simp only [hc]
    exact ⟨y, hy, hq, rfl⟩
  · rw [if_neg h1] at hc
    rw [if_neg h1]
    by_cases h2 : p = q
    · rw [if_pos h2] at hc
      simp only [hc]
      subst h2
      split
      · exact ⟨y, hy, hq, rfl⟩
      · exact ⟨x, hx, hp, rfl⟩
    · rw [if_neg h2] at hc
      simp only [hc]
      exact ⟨x, hx, hp, rfl⟩
/-- Three floats, four floats, by their places. -/
def q2 (p q : Int) : Nat → Int | 0 => p | _ => q
def q4 (p0 p1 p2 p3 : Int) : Nat → Int | 0 => p0 | 1 => p1 | 2 => p2 | _ => p3
section
variable {ops : Array Oper} {l : List Kd} {bx : Bxs} {sl : List (Tmp × Pr)} {i : Nat} {o : Oper} {Q : Exit → Act → World → Prop} {a0 : Act} {n : Nat} {w0 : World}
theorem owe_fmin2 {x y : Operand} {T T' : TypeId} {p q : Int} (ho : ops[i]? = some o) (hw : Wants ops l bx sl i o) (hop : o.op = .call { callee := .builtin .min, args := #[x, y], argTypes := #[T, T'] }) (hx : Opnd ops l bx sl i x (FL (some p))) (hy : Opnd ops l bx sl i y (FL (some q))) (hk : kdAt l i = .val (FL (some (mnP (q2 p q) 1)))) : Owed Tryz.prog ops Q l bx sl a0 n w0 i :=
  owe_val ho hw hk fun vs B a w c => by
    obtain ⟨x', ex, hx1, hx2⟩ := (hx a0 n w0 vs B a w c).now
    obtain ⟨y', ey, hy1, hy2⟩ := (hy a0 n w0 vs B a w c).now
    obtain ⟨r, h1, h2, h3⟩ := min2_f x' y' p q hx1 hy1 hx2 hy2
    refine ⟨.float .f64 r, ?_, fun _ _ => ⟨r, rfl, h1, h2⟩⟩
    unfold execOp
    rw [hop]
    generalize a.eval = ρ at ex ey
    go_simp
    simp [Builtin.min_, h3]
theorem owe_fmax2 {x y : Operand} {T T' : TypeId} {p q : Int} (ho : ops[i]? = some o) (hw : Wants ops l bx sl i o) (hop : o.op = .call { callee := .builtin .max, args := #[x, y], argTypes := #[T, T'] }) (hx : Opnd ops l bx sl i x (FL (some p))) (hy : Opnd ops l bx sl i y (FL (some q))) (hk : kdAt l i = .val (FL (some (mxP (q2 p q) 1)))) : Owed Tryz.prog ops Q l bx sl a0 n w0 i :=
  owe_val ho hw hk fun vs B a w c => by
    obtain ⟨x', ex, hx1, hx2⟩ := (hx a0 n w0 vs B a w c).now
    obtain ⟨y', ey, hy1, hy2⟩ := (hy a0 n w0 vs B a w c).now
    obtain ⟨r, h1, h2, h3⟩ := max2_f x' y' p q hx1 hy1 hx2 hy2
    refine ⟨.float .f64 r, ?_, fun _ _ => ⟨r, rfl, h1, h2⟩⟩
    unfold execOp
    rw [hop]
    generalize a.eval = ρ at ex ey
    go_simp
    simp [Builtin.max_, h3]
theorem owe_fmin4 {x y z t : Operand} {ts : Array TypeId} {p q r s : Int} (ho : ops[i]? = some o) (hw : Wants ops l bx sl i o) (hop : o.op = .call { callee := .builtin .min, args := #[x, y, z, t], argTypes := ts }) (hx : Opnd ops l bx sl i x (FL (some p))) (hy : Opnd ops l bx sl i y (FL (some q))) (hz : Opnd ops l bx sl i z (FL (some r))) (ht : Opnd ops l bx sl i t (FL (some s))) (hk : kdAt l i = .val (FL (some (mnP (q4 p q r s) 3)))) : Owed Tryz.prog ops Q l bx sl a0 n w0 i :=
  owe_val ho hw hk fun vs B a w c => by
    obtain ⟨x', ex, hx1, hx2⟩ := (hx a0 n w0 vs B a w c).now
    obtain ⟨y', ey, hy1, hy2⟩ := (hy a0 n w0 vs B a w c).now
    obtain ⟨z', ez, hz1, hz2⟩ := (hz a0 n w0 vs B a w c).now
    obtain ⟨t', et, ht1, ht2⟩ := (ht a0 n w0 vs B a w c).now
    obtain ⟨r1, a1, a2, a3⟩ := min2_f x' y' p q hx1 hy1 hx2 hy2
    obtain ⟨r2, b1, b2, b3⟩ := min2_f r1 z' _ r a1 hz1 a2 hz2
    obtain ⟨r3, c1, c2, c3⟩ := min2_f r2 t' _ s b1 ht1 b2 ht2
    refine ⟨.float .f64 r3, ?_, fun _ _ => ⟨r3, rfl, c1, c2⟩⟩
    unfold execOp
    rw [hop]
    generalize a.eval = ρ at ex ey ez et
    go_simp
    simp [Builtin.min_, a3, b3, c3]
theorem owe_fmax4 {x y z t : Operand} {ts : Array TypeId} {p q r s : Int} (ho : ops[i]? = some o) (hw : Wants ops l bx sl i o) (hop : o.op = .call { callee := .builtin .max, args := #[x, y, z, t], argTypes := ts }) (hx : Opnd ops l bx sl i x (FL (some p))) (hy : Opnd ops l bx sl i y (FL (some q))) (hz : Opnd ops l bx sl i z (FL (some r))) (ht : Opnd ops l bx sl i t (FL (some s))) (hk : kdAt l i = .val (FL (some (mxP (q4 p q r s) 3)))) : Owed Tryz.prog ops Q l bx sl a0 n w0 i :=
  owe_val ho hw hk fun vs B a w c => by
    obtain ⟨x', ex, hx1, hx2⟩ := (hx a0 n w0 vs B a w c).now
    obtain ⟨y', ey, hy1, hy2⟩ := (hy a0 n w0 vs B a w c).now
    obtain ⟨z', ez, hz1, hz2⟩ := (hz a0 n w0 vs B a w c).now
    obtain ⟨t', et, ht1, ht2⟩ := (ht a0 n w0 vs B a w c).now
    obtain ⟨r1, a1, a2, a3⟩ := max2_f x' y' p q hx1 hy1 hx2 hy2
    obtain ⟨r2, b1, b2, b3⟩ := max2_f r1 z' _ r a1 hz1 a2 hz2
    obtain ⟨r3, c1, c2, c3⟩ := max2_f r2 t' _ s b1 ht1 b2 ht2
    refine ⟨.float .f64 r3, ?_, fun _ _ => ⟨r3, rfl, c1, c2⟩⟩
    unfold execOp
    rw [hop]
    generalize a.eval = ρ at ex ey ez et
    go_simp
    simp [Builtin.max_, a3, b3, c3]
end
end Go.Proofs.YtgalppimdmjdcabGreat

/-
  Arrays and lists of four floats; a field of an interval written.
-/
namespace Go.Proofs.YtgalppimdmjdcabGreat
open Go Go.RowKit Nt
set_option linter.unusedSimpArgs false
set_option linter.unusedVariables false
set_option maxRecDepth 20000

theorem strct_f4 : Strct 52 4 := ⟨⟨_, Tryz.underlying52, rfl⟩, by kernel_rfl⟩
theorem shp_f40 : Shp 4 (Is (.agg #[.float .f64 0, .float .f64 0, .float .f64 0, .float .f64 0])) := fun u w h => ⟨_, h, rfl, by simp [Value.oneCell']⟩
theorem shp_f4 {p q r s : Pr} : Shp 4 (SF [p, q, r, s]) := shp_sf (ps := [p, q, r, s])
theorem alloc_f4 (ρ : Operand → Value) (o : Oper) (w : World) : (execOp ρ { o with op := .alloc 52 }).run Tryz.prog w = .ok (.value (.pointer (some ⟨w.heap.size, 0, none⟩))) (w.alloc (.cells (Value.agg #[.float .f64 0, .float .f64 0, .float .f64 0, .float .f64 0]).cells 52 (0, 0))) := by
  unfold execOp
  go_simp
section
variable {ops : Array Oper} {l : List Kd} {bx : Bxs} {sl : List (Tmp × Pr)} {i : Nat} {o : Oper} {Q : Exit → Act → World → Prop} {a0 : Act} {n : Nat} {w0 : World}
/-- An element of an array in a box. -/
theorem owe_ipart {t k : Nat} {y : Operand} {T' f : Nat} {φ : Pr} (ho : ops[i]? = some o) (hw : Wants ops l bx sl i o) (hop : o.op = .indexAddr 52 (.tmp t) y) (hy : Opnd ops l bx sl i y (iV (f : Nat))) (hf : f < 4) (hb : bx[k]? = some (t, .box T' φ)) (hn : (unturned ops l i (.inl t) && slotFree ops i t) = true) (hk : kdAt l i = .val (Part a0 t f)) : Owed Tryz.prog ops Q l bx sl a0 n w0 i :=
  owe_val ho hw hk fun vs B a w c => by
    simp only [Bool.and_eq_true] at hn
    obtain ⟨b, u, hp0, _, hu, hφ⟩ := c.box t _ (List.mem_of_getElem? hb) hn.1
    have hp := (c.slot t hn.2).trans hp0
    have hyv : a.eval y = .int .i64 (f : Nat) := (hy a0 n w0 vs B a w c).now
    have hp : a.eval (.tmp t) = .pointer (some ⟨b, 0, none⟩) := hp
    refine ⟨.pointer (some ⟨b, f, none⟩), ?_, fun _ _ => ⟨_, hp0, rfl⟩⟩
    unfold execOp
    rw [hop]
    generalize a.eval = ρ at hp hyv
    go_simp
    intro h
    omega
theorem owe_build_f4 {x y z t : Operand} {φ ψ χ θ : Pr} (ho : ops[i]? = some o) (hw : Wants ops l bx sl i o) (hop : o.op = .build 52 #[(0, x), (1, y), (2, z), (3, t)]) (hx : Opnd ops l bx sl i x φ) (hy : Opnd ops l bx sl i y ψ) (hz : Opnd ops l bx sl i z χ) (ht : Opnd ops l bx sl i t θ) (h1 : ∀ v w, φ v w → ∃ b, v = .float .f64 b) (h2 : ∀ v w, ψ v w → ∃ b, v = .float .f64 b) (h3 : ∀ v w, χ v w → ∃ b, v = .float .f64 b) (h4 : ∀ v w, θ v w → ∃ b, v = .float .f64 b) (hk : kdAt l i = .val (SF [φ, ψ, χ, θ])) : Owed Tryz.prog ops Q l bx sl a0 n w0 i :=
  owe_val ho hw hk fun vs B a w c => by
    have hxv := hx a0 n w0 vs B a w c
    have hyv := hy a0 n w0 vs B a w c
    have hzv := hz a0 n w0 vs B a w c
    have htv := ht a0 n w0 vs B a w c
    obtain ⟨x', ex⟩ := h1 _ _ hxv.now
    obtain ⟨y', ey⟩ := h2 _ _ hyv.now
    obtain ⟨z', ez⟩ := h3 _ _ hzv.now
    obtain ⟨t', et⟩ := h4 _ _ htv.now
    refine ⟨.agg #[.float .f64 x', .float .f64 y', .float .f64 z', .float .f64 t'], ?_, fun w' ev => ⟨_, rfl, rfl, by simp [Value.oneCell'], fun f q hq => ?_⟩⟩
    · unfold execOp
      rw [hop]
      generalize a.eval = ρ at ex ey ez et
      go_simp
    · match f, hq with
      | 0, hq => simp at hq; subst hq; exact ⟨_, rfl, by rw [← ex]; exact hxv w' ev⟩
      | 1, hq => simp at hq; subst hq; exact ⟨_, rfl, by rw [← ey]; exact hyv w' ev⟩
      | 2, hq => simp at hq; subst hq; exact ⟨_, rfl, by rw [← ez]; exact hzv w' ev⟩
      | 3, hq => simp at hq; subst hq; exact ⟨_, rfl, by rw [← et]; exact htv w' ev⟩
/-- A field is written. -/
theorem owe_pput {T : TypeId} {t k f : Nat} {x y : Operand} {ps : List Pr} {χ : Pr} (ho : ops[i]? = some o) (hw : Wants ops l bx sl i o) (hop : o.op = .store 22 x y) (hx : Opnd ops l bx sl i x (Part a0 t f)) (hb : bx[k]? = some (t, .box T (SF ps))) (hn : unturned ops l i (.inl t) = true) (hy : Opnd ops l bx sl i y χ) (h1 : ∀ v w, χ v w → ∃ b, v = .float .f64 b) (hf : f < ps.length) (hk : kdAt l i = .put (.inl t) (.box T (SF (ps.set f χ)))) : Owed Tryz.prog ops Q l bx sl a0 n w0 i := fun vs B a w c o' ho' => by
  obtain rfl : o = o' := Option.some.inj (ho.symm.trans ho')
  obtain ⟨b, u, hp0, hB, hu, hφ⟩ := c.box t _ (List.mem_of_getElem? hb) hn
  obtain ⟨b', hb0, hv0⟩ := (hx a0 n w0 vs B a w c).now
  rw [hp0] at hb0
  simp at hb0
  subst hb0
  have hv := hy a0 n w0 vs B a w c
  obtain ⟨z, ez⟩ := h1 _ _ hv.now
  obtain ⟨cs, rfl, h2, h3, h4⟩ := hφ.now
  obtain ⟨v, hcv, _⟩ := h4 f (ps[f]'hf) (by simp [hf])
  have hc := sf_cell hu hcv
  have hfz := sf_frozen (f := f) hu
  have h' : (execOp a.eval o).run Tryz.prog w = .ok .skip (w.setCell ⟨b, f, none⟩ (a.eval y)) := by
    unfold execOp
    rw [hop, ez]
    generalize a.eval = ρ at hv0 ez
    go_simp
    have hst : (store ⟨b, f, none⟩ (Value.float .f64 z)).run Tryz.prog w = .ok () (w.setCell ⟨b, f, none⟩ (.float .f64 z)) := by
      unfold store
      simp only [Sem.run, hc, hfz]
      rfl
    rw [hst]
    rfl
  simp only [wpOp, ho]
  rw [if_pos (hw a0 n w0 vs B a w c)]
  refine Or.inl ?_
  unfold Oper.wp
  rw [h', Oper.upon_skip]
  exact ⟨undef, rfl, by rw [hk]; exact sf_put (x := .inl t) (fun b h => idset_plain (x := .inl t) (List.mem_of_getElem? hb) rfl h) hp0 hB hu hφ hv (by rw [ez]; simp [Value.oneCell']) _⟩
end
end Go.Proofs.YtgalppimdmjdcabGreat

/-
  Sums and products of floats by their numbers: the answer is the nearest float.
-/
namespace Go.Proofs.YtgalppimdmjdcabGreat
open Go
set_option linter.unusedSimpArgs false
set_option linter.unusedVariables false
set_option maxRecDepth 20000

theorem plc_word (s : Bool) (R : Nat) (h : R ≤ 9218868437227405312) : plc (if s then 9223372036854775808 + R else R) = some (if s then -(R : Int) else (R : Int)) := by
  unfold plc
  cases s
  · simp only [Bool.false_eq_true, if_false]
    rw [if_pos (by omega), if_neg (by omega)]
    exact congrArg some (by omega)
  · simp only [if_true]
    rw [if_pos (by omega), if_pos (by omega)]
    exact congrArg some (by omega)
theorem Nearest.le {V R : Nat} (h : Nearest V R) : R ≤ 9218868437227405312 := by
  obtain ⟨L, K, e, _⟩ := h.pick
  omega
/-- The place of what is written. -/
theorem write_num (s : Bool) (m : Nat) (place : Int) (hp : -2148 ≤ place) : ∃ R : Nat, plc (Ieee.double.write (.number s m place)) = some (if s then -(R : Int) else (R : Int)) ∧ R ≤ 9218868437227405312 ∧ (m = 0 → R = 0) ∧ (m ≠ 0 → Nearest (m * 2 ^ (place + 2148).toNat) R) := by
  show ∃ R : Nat, plc (Ieee.double.nearest s m place) = _ ∧ _
  by_cases h : m = 0
  · subst h
    refine ⟨0, ?_, by decide, fun _ => rfl, fun h => absurd rfl h⟩
    have : Ieee.double.nearest s 0 place = (if s then 9223372036854775808 + 0 else 0) := by unfold Ieee.Format.nearest; rw [if_pos rfl]; rfl
    rw [this]
    exact plc_word s 0 (by decide)
  · obtain ⟨R, h1, h2⟩ := nearest_f64 s m place h hp
    refine ⟨R, ?_, h2.le, fun e => absurd e h, fun _ => h2⟩
    rw [h1]
    exact plc_word s R h2.le
theorem write_inf (s : Bool) : plc (Ieee.double.write (.infinity s)) = some (if s then -9218868437227405312 else 9218868437227405312) := by cases s <;> rfl
theorem vp_zero {p : Int} : vp p = 0 ↔ p = 0 := ⟨fun h => vp_inj.1 (h.trans (by rfl)), fun h => by rw [h]; rfl⟩
theorem vp_neg_iff {p : Int} : vp p < 0 ↔ p < 0 := by
  have := vp_lt (p := p) (q := 0)
  rwa [show vp 0 = 0 from rfl] at this
theorem abs_of {s : Bool} {M : Nat} {v : Int} (h : (if s then -(M : Int) else (M : Int)) = v) : v.natAbs = M ∧ (v ≠ 0 → (s = true ↔ v < 0)) := by
  subst h
  cases s
  · simp only [Bool.false_eq_true, if_false]; exact ⟨by omega, fun _ => by simp⟩
  · simp only [if_true]; exact ⟨by omega, fun h => by simp; omega⟩
/-- A place that is finite. -/
def Fin (p : Int) : Prop := -9218868437227405312 < p ∧ p < 9218868437227405312
theorem mul_sign {x y : Int} {s t : Bool} (hx : x ≠ 0) (hy : y ≠ 0) (hs : s = true ↔ x < 0) (ht : t = true ↔ y < 0) : (s ^^ t) = true ↔ x * y < 0 := by
  rcases Int.lt_or_le x 0 with h | h <;> rcases Int.lt_or_le y 0 with h' | h'
  · have := Int.mul_pos_of_neg_of_neg h h'
    have a := hs.2 h; have b := ht.2 h'; subst a b; simp; omega
  · have := Int.mul_neg_of_neg_of_pos h (show 0 < y by omega)
    have a := hs.2 h
    have b : t = false := by cases t with | false => rfl | true => have := ht.1 rfl; omega
    subst a b; simp; omega
  · have := Int.mul_neg_of_pos_of_neg (show 0 < x by omega) h'
    have b := ht.2 h'
    have a : s = false := by cases s with | false => rfl | true => have := hs.1 rfl; omega
    subst a b; simp; omega
  · have := Int.mul_pos (show 0 < x by omega) (show 0 < y by omega)
    have a : s = false := by cases s with | false => rfl | true => have := hs.1 rfl; omega
    have b : t = false := by cases t with | false => rfl | true => have := ht.1 rfl; omega
    subst a b; simp; omega
theorem fin_num {a : Nat} {p : Int} (ha : plc a = some p) (hp : Fin p) : ∃ s m i, Ieee.double.read a = .number s m (-1074 + ((i : Nat) : Int)) ∧ (if s then -((m * 2 ^ i : Nat) : Int) else ((m * 2 ^ i : Nat) : Int)) = vp p := by
  cases frd a with
  | nan s f hp' hr => rw [ha] at hp'; cases hp'
  | inf s hp' hr => rw [ha] at hp'; have := Option.some.inj hp'; unfold Fin at hp; cases s <;> simp at this <;> omega
  | num p' s m i hp' h1 h2 hr hv =>
    rw [ha] at hp'
    obtain rfl := Option.some.inj hp'
    exact ⟨s, m, i, hr, hv⟩
/-- A product of finite floats. -/
theorem mul_fin {a b : Nat} {p q : Int} (ha : plc a = some p) (hb : plc b = some q) (hp : Fin p) (hq : Fin q) : ∃ R : Nat, arP .mul a b = some (if vp p * vp q < 0 then -(R : Int) else (R : Int)) ∧ R ≤ 9218868437227405312 ∧ (vp p * vp q = 0 → R = 0) ∧ (vp p * vp q ≠ 0 → Nearest (vp p * vp q).natAbs R) := by
  obtain ⟨s, m, i, hr, hv⟩ := fin_num ha hp
  obtain ⟨t, n, j, hr', hv'⟩ := fin_num hb hq
  have hf : floatBits .mul .f64 a b = some (Ieee.double.write (.number (s ^^ t) (m * n) (-1074 + (i : Int) + (-1074 + (j : Int))))) := by
    show ((Ieee.double.read a).product (Ieee.double.read b)).map Ieee.double.write = _
    rw [hr, hr']; rfl
  obtain ⟨R, w1, w2, w3, w4⟩ := write_num (s ^^ t) (m * n) (-1074 + (i : Int) + (-1074 + (j : Int))) (by omega)
  rw [show (-1074 + (i : Int) + (-1074 + (j : Int)) + 2148).toNat = i + j from by omega] at w4
  have hm := abs_of hv
  have hn := abs_of hv'
  have hV : m * n * 2 ^ (i + j) = (vp p * vp q).natAbs := by rw [Int.natAbs_mul, hm.1, hn.1, Nat.pow_add, Nat.mul_mul_mul_comm]
  rw [hV] at w4
  have ar : arP .mul a b = some (if (s ^^ t) then -(R : Int) else (R : Int)) := by simp only [arP, hf]; exact w1
  have zero : vp p * vp q = 0 → R = 0 := fun h0 => w3 (by
    have : m * n * 2 ^ (i + j) = 0 := by rw [hV, h0]; rfl
    rcases Nat.mul_eq_zero.1 this with h | h
    · exact h
    · have := Nat.two_pow_pos (i + j); omega)
  refine ⟨R, ?_, w2, zero, fun h0 => w4 (fun h => h0 (by
    have : (vp p * vp q).natAbs = 0 := by rw [← hV, h, Nat.zero_mul]
    omega))⟩
  rw [ar]
  refine congrArg some ?_
  by_cases h0 : vp p * vp q = 0
  · rw [zero h0]; simp
  · have hp0 : vp p ≠ 0 := fun h => h0 (by rw [h, Int.zero_mul])
    have hq0 : vp q ≠ 0 := fun h => h0 (by rw [h, Int.mul_zero])
    have := mul_sign hp0 hq0 (hm.2 hp0) (hn.2 hq0)
    by_cases hb : (s ^^ t) = true
    · rw [if_pos hb, if_pos (this.1 hb)]
    · rw [if_neg hb, if_neg (fun h => hb (this.2 h))]
/-- A sum of finite floats. -/
theorem sum_fin {s t : Bool} {m n i j : Nat} {x y : Int} (hv : (if s then -((m * 2 ^ i : Nat) : Int) else ((m * 2 ^ i : Nat) : Int)) = x) (hv' : (if t then -((n * 2 ^ j : Nat) : Int) else ((n * 2 ^ j : Nat) : Int)) = y) :
    ∃ (d : Bool) (M : Nat) (k : Nat), (Ieee.Datum.number s m (-1074 + (i : Int))).sum (.number t n (-1074 + (j : Int))) = some (.number d M (-1074 + (k : Int))) ∧ M * 2 ^ k = (x + y).natAbs ∧ (x + y ≠ 0 → (d = true ↔ x + y < 0)) := by
  obtain ⟨k, hk⟩ : ∃ k, min i j = k := ⟨_, rfl⟩
  have e0 : min (-1074 + (i : Int)) (-1074 + (j : Int)) = -1074 + (k : Int) := by omega
  have e1 : (-1074 + (i : Int) - (-1074 + (k : Int))).toNat = i - k := by omega
  have e2 : (-1074 + (j : Int) - (-1074 + (k : Int))).toNat = j - k := by omega
  have s1 := scaled s m i k (by omega)
  have s2 := scaled t n j k (by omega)
  rw [hv] at s1
  rw [hv'] at s2
  refine ⟨_, _, k, by simp only [Ieee.Datum.sum]; rw [e0, e1, e2], ?_, ?_⟩
  · have : (Ieee.signed s m (i - k) + Ieee.signed t n (j - k)) * ((2 ^ k : Nat) : Int) = x + y := by rw [Int.add_mul, s1, s2]
    rw [← this, Int.natAbs_mul, Int.natAbs_natCast]
  · intro h0
    have : (Ieee.signed s m (i - k) + Ieee.signed t n (j - k)) * ((2 ^ k : Nat) : Int) = x + y := by rw [Int.add_mul, s1, s2]
    have hP : (0 : Int) < ((2 ^ k : Nat) : Int) := by have := Nat.two_pow_pos k; omega
    generalize Ieee.signed s m (i - k) + Ieee.signed t n (j - k) = X at this
    generalize ((2 ^ k : Nat) : Int) = P at this hP
    rw [← this] at h0 ⊢
    have hX : X ≠ 0 := fun h => h0 (by rw [h, Int.zero_mul])
    rw [if_neg hX, decide_eq_true_eq]
    constructor
    · intro h; exact Int.mul_neg_of_neg_of_pos h hP
    · intro h
      apply Classical.byContradiction
      intro hc
      have := Int.mul_nonneg (show 0 ≤ X by omega) (Int.le_of_lt hP)
      omega
theorem add_of {s t : Bool} {m n i j : Nat} {x y : Int} (hv : (if s then -((m * 2 ^ i : Nat) : Int) else ((m * 2 ^ i : Nat) : Int)) = x) (hv' : (if t then -((n * 2 ^ j : Nat) : Int) else ((n * 2 ^ j : Nat) : Int)) = y) :
    ∃ R : Nat, (((Ieee.Datum.number s m (-1074 + (i : Int))).sum (.number t n (-1074 + (j : Int)))).map Ieee.double.write).map plc = some (some (if x + y < 0 then -(R : Int) else (R : Int))) ∧ R ≤ 9218868437227405312 ∧ (x + y = 0 → R = 0) ∧ (x + y ≠ 0 → Nearest ((x + y).natAbs * uF) R) := by
  obtain ⟨d, M, k, h1, h2, h3⟩ := sum_fin hv hv'
  obtain ⟨R, w1, w2, w3, w4⟩ := write_num d M (-1074 + (k : Int)) (by omega)
  rw [show (-1074 + (k : Int) + 2148).toNat = k + 1074 from by omega, ← pow_uF, ← Nat.mul_assoc, h2] at w4
  have zero : x + y = 0 → R = 0 := fun h0 => w3 (by
    have : M * 2 ^ k = 0 := by rw [h2, h0]; rfl
    rcases Nat.mul_eq_zero.1 this with h | h
    · exact h
    · have := Nat.two_pow_pos k; omega)
  refine ⟨R, ?_, w2, zero, fun h0 => w4 (fun h => h0 (by
    have : (x + y).natAbs = 0 := by rw [← h2, h, Nat.zero_mul]
    omega))⟩
  rw [h1]
  show some (plc (Ieee.double.write _)) = _
  rw [w1]
  refine congrArg some (congrArg some ?_)
  by_cases h0 : x + y = 0
  · rw [zero h0]; simp
  · have := h3 h0
    by_cases hb : d = true
    · rw [if_pos hb, if_pos (this.1 hb)]
    · rw [if_neg hb, if_neg (fun h => hb (this.2 h))]
theorem add_fin {a b : Nat} {p q : Int} (ha : plc a = some p) (hb : plc b = some q) (hp : Fin p) (hq : Fin q) : ∃ R : Nat, arP .add a b = some (if vp p + vp q < 0 then -(R : Int) else (R : Int)) ∧ R ≤ 9218868437227405312 ∧ (vp p + vp q = 0 → R = 0) ∧ (vp p + vp q ≠ 0 → Nearest ((vp p + vp q).natAbs * uF) R) := by
  obtain ⟨s, m, i, hr, hv⟩ := fin_num ha hp
  obtain ⟨t, n, j, hr', hv'⟩ := fin_num hb hq
  obtain ⟨R, h1, h2⟩ := add_of hv hv'
  refine ⟨R, ?_, h2⟩
  have hf : floatBits .add .f64 a b = ((Ieee.Datum.number s m (-1074 + (i : Int))).sum (.number t n (-1074 + (j : Int)))).map Ieee.double.write := by
    show ((Ieee.double.read a).sum (Ieee.double.read b)).map Ieee.double.write = _
    rw [hr, hr']
  cases hc : floatBits .add .f64 a b with
  | none => rw [← hf, hc] at h1; cases h1
  | some r => rw [← hf, hc] at h1; simp only [arP, hc]; exact Option.some.inj h1
/-- An infinity. -/
theorem inf_num {a : Nat} {p : Int} (ha : plc a = some p) (hp : p = 9218868437227405312 ∨ p = -9218868437227405312) : ∃ s : Bool, Ieee.double.read a = .infinity s ∧ (s = true ↔ p < 0) := by
  cases frd a with
  | nan s f hp' hr => rw [ha] at hp'; cases hp'
  | inf s hp' hr => rw [ha] at hp'; have := Option.some.inj hp'; refine ⟨s, hr, ?_⟩; cases s <;> simp at this ⊢ <;> omega
  | num p' s m i hp' h1 h2 hr hv => rw [ha] at hp'; have := Option.some.inj hp'; omega
/-- A product with an infinity. -/
theorem mul_inf {a b : Nat} {p q : Int} (ha : plc a = some p) (hb : plc b = some q) (hp0 : p ≠ 0) (hq0 : q ≠ 0) (hi : ¬ (Fin p ∧ Fin q)) (hpr : p.natAbs ≤ 9218868437227405312) (hqr : q.natAbs ≤ 9218868437227405312) : arP .mul a b = some (if p * q < 0 then -9218868437227405312 else 9218868437227405312) := by
  have key : ∀ (s t : Bool), (s = true ↔ p < 0) → (t = true ↔ q < 0) → (if (s ^^ t) then (-9218868437227405312 : Int) else 9218868437227405312) = (if p * q < 0 then -9218868437227405312 else 9218868437227405312) := fun s t hs ht => by
    have := mul_sign hp0 hq0 hs ht
    by_cases hb : (s ^^ t) = true
    · rw [if_pos hb, if_pos (this.1 hb)]
    · rw [if_neg hb, if_neg (fun h => hb (this.2 h))]
  have fin_or : ∀ r : Int, r.natAbs ≤ 9218868437227405312 → Fin r ∨ (r = 9218868437227405312 ∨ r = -9218868437227405312) := fun r hr => by unfold Fin; omega
  have sgn : ∀ {c : Nat} {r : Int}, plc c = some r → Fin r → r ≠ 0 → ∃ (s : Bool) (m i : Nat), Ieee.double.read c = .number s m (-1074 + ((i : Nat) : Int)) ∧ m ≠ 0 ∧ (s = true ↔ r < 0) := fun {c r} hc hr hr0 => by
    obtain ⟨s, m, i, h1, hv⟩ := fin_num hc hr
    have h2 := abs_of hv
    have hv0 : vp r ≠ 0 := fun h => hr0 (vp_zero.1 h)
    refine ⟨s, m, i, h1, fun h => hv0 ?_, (h2.2 hv0).trans vp_neg_iff⟩
    have := h2.1
    rw [h, Nat.zero_mul] at this
    omega
  have fin : ∀ d, ((Ieee.double.read a).product (Ieee.double.read b)) = some (.infinity d) → arP .mul a b = some (if d then -9218868437227405312 else 9218868437227405312) := fun d h => by
    have hf : floatBits .mul .f64 a b = some (Ieee.double.write (.infinity d)) := by
      show ((Ieee.double.read a).product (Ieee.double.read b)).map Ieee.double.write = _
      rw [h]; rfl
    simp only [arP, hf]
    exact write_inf d
  rcases fin_or p hpr with h1 | h1
  · rcases fin_or q hqr with h2 | h2
    · exact absurd ⟨h1, h2⟩ hi
    · obtain ⟨s, m, i, r1, m0, hs⟩ := sgn ha h1 hp0
      obtain ⟨t, r2, ht⟩ := inf_num hb h2
      rw [fin (t ^^ s) (by rw [r1, r2]; simp only [Ieee.Datum.product]; rw [if_neg m0]), Bool.xor_comm, key s t hs ht]
  · obtain ⟨s, r1, hs⟩ := inf_num ha h1
    rcases fin_or q hqr with h2 | h2
    · obtain ⟨t, n, j, r2, n0, ht⟩ := sgn hb h2 hq0
      rw [fin (s ^^ t) (by rw [r1, r2]; simp only [Ieee.Datum.product]; rw [if_neg n0]), key s t hs ht]
    · obtain ⟨t, r2, ht⟩ := inf_num hb h2
      rw [fin (s ^^ t) (by rw [r1, r2]; rfl), key s t hs ht]
end Go.Proofs.YtgalppimdmjdcabGreat

/-
  Products of ends, 0 times an infinity being 0.
-/
namespace Go.Proofs.YtgalppimdmjdcabGreat
open Go
set_option linter.unusedSimpArgs false
set_option linter.unusedVariables false
set_option maxRecDepth 20000

def tmP (a b : Nat) : Option Int := if plc a = some 0 ∨ plc b = some 0 then some 0 else arP .mul a b
theorem tm_1 {a b : Nat} (h : plc a = some 0) : tmP a b = some 0 := by unfold tmP; rw [if_pos (Or.inl h)]
theorem tm_2 {a b : Nat} (h : plc b = some 0) : tmP a b = some 0 := by unfold tmP; rw [if_pos (Or.inr h)]
theorem tm_3 {a b : Nat} (h : plc a ≠ some 0) (h' : plc b ≠ some 0) : tmP a b = arP .mul a b := by unfold tmP; rw [if_neg (by simp [h, h'])]
theorem eq0_t {a : Nat} (h : plc a = some 0) : (ordP (plc a) (plc 0) == some .eq) = true := by rw [h]; rfl
theorem eq0_f {a : Nat} (h : plc a ≠ some 0) : (ordP (plc a) (plc 0) == some .eq) = false := by
  cases hp : plc a with
  | none => rfl
  | some p =>
    show (some (compare p 0) == some Ordering.eq) = false
    rw [cmp_eq]
    exact decide_eq_false (fun e => h (by rw [hp, e]))
theorem fin_or {r : Int} (hr : r.natAbs ≤ 9218868437227405312) : Fin r ∨ (r = 9218868437227405312 ∨ r = -9218868437227405312) := by unfold Fin; omega
theorem plc_le {a : Nat} {p : Int} (h : plc a = some p) : p.natAbs ≤ 9218868437227405312 := by
  unfold plc at h
  split at h
  · have := Option.some.inj h; split at this <;> omega
  · cases h
theorem tm_some {a b : Nat} {p q : Int} (ha : plc a = some p) (hb : plc b = some q) : ∃ r : Int, tmP a b = some r ∧ r.natAbs ≤ 9218868437227405312 := by
  by_cases h : p = 0
  · exact ⟨0, tm_1 (by rw [ha, h]), by decide⟩
  · by_cases h' : q = 0
    · exact ⟨0, tm_2 (by rw [hb, h']), by decide⟩
    · rw [tm_3 (by rw [ha]; simpa using h) (by rw [hb]; simpa using h')]
      by_cases hf : Fin p ∧ Fin q
      · obtain ⟨R, h1, h2, _⟩ := mul_fin ha hb hf.1 hf.2
        exact ⟨_, h1, by split <;> omega⟩
      · exact ⟨_, mul_inf ha hb h h' hf (plc_le ha) (plc_le hb), by split <;> decide⟩
theorem ok_some {x y : Nat} (h : (ordP (plc x) (plc y) == some .lt || ordP (plc x) (plc y) == some .eq) = true) : ∃ p q, plc x = some p ∧ plc y = some q ∧ p ≤ q := by
  cases hx : plc x with
  | none => rw [hx] at h; cases h
  | some p =>
    cases hy : plc y with
    | none => rw [hx, hy] at h; cases h
    | some q =>
      rw [hx, hy] at h
      refine ⟨p, q, rfl, rfl, ?_⟩
      simp only [ordP] at h
      rw [cmp_lt, cmp_eq] at h
      simp at h
      omega
end Go.Proofs.YtgalppimdmjdcabGreat
