import Derived.Test.YtgalppimdmjdcaaGreatStruct
import Derived.Test.YtgalppimdmjdcaaGreatFlA
import Derived.Test.YtgalppimdmjdcaaGreatSetQ
import Derived.Test.YtgalppimdmjdcaaGreatFlB
/-
  Floats and intervals in the logic of statements.
-/
namespace Go.Proofs.YtgalppimdmjdcaaGreat
open Go Go.RowKit Nt
set_option linter.unusedSimpArgs false
set_option linter.unusedVariables false
set_option maxRecDepth 20000

/-- A float of that place. -/
def FL (p : Option Int) : Pr := fun v _ => ∃ b, v = .float .f64 b ∧ b < 18446744073709551616 ∧ plc b = p
def FLN (p : Option Int) : Nat → Pr := fun _ => FL p
theorem fresh_fl (p : Option Int) : Fresh (FLN p) := ⟨fun _ _ _ _ _ h => h, fun _ _ _ _ _ _ h _ => h⟩
theorem sf_mk {φ ψ : Pr} {x y : Nat} {w : World} (h1 : φ (.float .f64 x) w) (h2 : ψ (.float .f64 y) w) : SF [φ, ψ] (.agg #[.float .f64 x, .float .f64 y]) w := by
  refine ⟨_, rfl, rfl, by simp [Value.oneCell'], fun f q hq => ?_⟩
  match f, hq with
  | 0, hq => simp at hq; subst hq; exact ⟨_, rfl, h1⟩
  | 1, hq => simp at hq; subst hq; exact ⟨_, rfl, h2⟩
theorem ix_mk {x y : Nat} {w : World} : SF [Is (.float .f64 x), Is (.float .f64 y)] (.agg #[.float .f64 x, .float .f64 y]) w := sf_mk rfl rfl
theorem ix_has {B : Nat → Prop} {w : World} {x y : Nat} : Has B w (SF [Is (.float .f64 x), Is (.float .f64 y)]) (.agg #[.float .f64 x, .float .f64 y]) := fun w' _ => ix_mk
theorem ix_eq {x y : Nat} {v : Value} {w : World} (h : SF [Is (.float .f64 x), Is (.float .f64 y)] v w) : v = .agg #[.float .f64 x, .float .f64 y] := by
  obtain ⟨cs, rfl, h1, h2, h3⟩ := h
  obtain ⟨u, hu, rfl⟩ := h3 0 _ rfl
  obtain ⟨u', hu', rfl⟩ := h3 1 _ rfl
  congr 1
  apply Array.ext
  · simpa using h1
  · intro i hi1 hi2
    have hi : i < 2 := by simpa using hi2
    match i, hi with
    | 0, _ => rw [Array.getElem?_eq_getElem hi1] at hu; exact Option.some.inj hu
    | 1, _ => rw [Array.getElem?_eq_getElem hi1] at hu'; exact Option.some.inj hu'
theorem fl_is {b : Nat} (hb : b < 18446744073709551616) : ∀ v w, Is (.float .f64 b) v w → FL (plc b) v w := fun v w e => ⟨b, e, hb, rfl⟩
/-! What calls give. -/
theorem Pur.gives {f : FuncId} {args : Array Value} {v : Value} (h : Pur f args v) (w : World) : Calls Tryz.prog f args w (Gives (IS v) w) := (h w).mono fun e w' ⟨he, hw⟩ => by subst hw; exact ⟨v, he, Below.refl _ _, rfl⟩
theorem PurF.gives {f : FuncId} {args : Array Value} {p : Option Int} (h : PurF f args p) (w : World) : Calls Tryz.prog f args w (Gives (FLN p) w) := by
  obtain ⟨r, h1, h2, h3⟩ := h
  exact (h3 w).mono fun e w' ⟨he, hw⟩ => by subst hw; exact ⟨_, he, Below.refl _ _, r, rfl, h1, h2⟩
theorem pur1 {f : FuncId} {x v : Value} (h : Pur f #[x] v) : ∀ w u, Is x u w → Calls Tryz.prog f #[u] w (Gives (IS v) w) := fun w u e => by obtain rfl : u = x := e; exact h.gives w
theorem pur2 {f : FuncId} {x y v : Value} (h : Pur f #[x, y] v) : ∀ w u u', Is x u w → Is y u' w → Calls Tryz.prog f #[u, u'] w (Gives (IS v) w) := fun w u u' e e' => by obtain rfl : u = x := e; obtain rfl : u' = y := e'; exact h.gives w
theorem purF1 {f : FuncId} {x : Value} {p : Option Int} (h : PurF f #[x] p) : ∀ w u, Is x u w → Calls Tryz.prog f #[u] w (Gives (FLN p) w) := fun w u e => by obtain rfl : u = x := e; exact h.gives w
theorem ix1 {f : FuncId} {x y : Nat} {ψ : Nat → Pr} (h : ∀ w, Calls Tryz.prog f #[.agg #[.float .f64 x, .float .f64 y]] w (Gives ψ w)) : ∀ w u, SF [Is (.float .f64 x), Is (.float .f64 y)] u w → Calls Tryz.prog f #[u] w (Gives ψ w) := fun w u e => by rw [ix_eq e]; exact h w
theorem ix2 {f : FuncId} {x y x' y' : Nat} {ψ : Nat → Pr} (h : ∀ w, Calls Tryz.prog f #[.agg #[.float .f64 x, .float .f64 y], .agg #[.float .f64 x', .float .f64 y']] w (Gives ψ w)) : ∀ w u v, SF [Is (.float .f64 x), Is (.float .f64 y)] u w → SF [Is (.float .f64 x'), Is (.float .f64 y')] v w → Calls Tryz.prog f #[u, v] w (Gives ψ w) := fun w u v e e' => by rw [ix_eq e, ix_eq e']; exact h w

/-! The struct's rules. -/
theorem strct_ival : Strct 38 2 := ⟨⟨_, Tryz.underlying38, rfl⟩, by kernel_rfl⟩
theorem shp_iv {p q : Pr} : Shp 2 (SF [p, q]) := shp_sf (ps := [p, q])
theorem box_ival {φ : Pr} (h : Shp 2 φ) (ρ : Operand → Value) (o : Oper) (x : Operand) (w : World) (hφ : φ (ρ x) w) : (execOp ρ { o with op := .box 38 x }).run Tryz.prog w = .ok (.value (.pointer (some ⟨w.heap.size, 0, none⟩))) (w.alloc (.cells (ρ x).cells 38 (0, 0))) := by
  obtain ⟨cs, e, h1, h2⟩ := h _ _ hφ
  unfold execOp
  rw [e]
  go_simp
theorem part_ival0 (ρ : Operand → Value) (o : Oper) (x : Operand) (w : World) (b f : Nat) (h : ρ x = .pointer (some ⟨b, f, none⟩)) : (execOp ρ { o with op := .fieldAddr 38 x 0 }).run Tryz.prog w = .ok (.value (.pointer (some ⟨b, f, none⟩))) w := by
  unfold execOp
  go_simp
theorem part_ival1 (ρ : Operand → Value) (o : Oper) (x : Operand) (w : World) (b f : Nat) (h : ρ x = .pointer (some ⟨b, f, none⟩)) : (execOp ρ { o with op := .fieldAddr 38 x 1 }).run Tryz.prog w = .ok (.value (.pointer (some ⟨b, f + 1, none⟩))) w := by
  unfold execOp
  go_simp
theorem load1_f64 : Load1 23 := fun ρ w o x b f u hx hc => by
  unfold execOp
  go_simp
theorem ploadI {ps : List Pr} {χ : Pr} {f : Nat} {T T' : TypeId} (hp : ps[f]? = some χ) (hL : Load1 T') (ρ : Operand → Value) (o : Oper) (x : Operand) (w : World) (b : Nat) (u : Value) (hφ : SF ps u w) (hx : ρ x = .pointer (some ⟨b, f, none⟩)) (hb : w.heap[b]? = some (.cells u.cells T (0, 0))) :
    ∃ v, (execOp ρ { o with op := .load T' x }).run Tryz.prog w = .ok (.value v) w ∧ ∀ w', SF ps u w' → χ v w' := by
  obtain ⟨cs, rfl, h1, h2, h3⟩ := hφ
  obtain ⟨v, hv, _⟩ := h3 f χ hp
  refine ⟨v, hL ρ w o x b f v hx (sf_cell hb hv), fun w' h' => ?_⟩
  obtain ⟨_, _, h4⟩ := h'.get
  obtain ⟨v', hv', hχ⟩ := h4 f χ hp
  rw [hv] at hv'
  cases hv'
  exact hχ
section
variable {ops : Array Oper} {l : List Kd} {bx : Bxs} {sl : List (Tmp × Pr)} {i : Nat} {o : Oper} {Q : Exit → Act → World → Prop} {a0 : Act} {n : Nat} {w0 : World}
/-- A comparison. -/
theorem owe_fcmp {x y : Operand} {op : BinOp} {T T' : TypeId} {p q : Option Int} {r : Bool} (ho : ops[i]? = some o) (hw : Wants ops l bx sl i o) (hop : o.op = .binOp op T x y T') (hx : Opnd ops l bx sl i x (FL p)) (hy : Opnd ops l bx sl i y (FL q))
    (hr : match op with | .eql => (ordP p q == some .eq) = r | .neq => (ordP p q != some .eq) = r | .lss => (ordP p q == some .lt) = r | .leq => (ordP p q == some .lt || ordP p q == some .eq) = r | .gtr => (ordP p q == some .gt) = r | .geq => (ordP p q == some .gt || ordP p q == some .eq) = r | _ => False)
    (hk : kdAt l i = .val (Is (.bool r))) : Owed Tryz.prog ops Q l bx sl a0 n w0 i :=
  owe_is ho hw hk fun vs B a w c => by
    obtain ⟨x', ex, hx1, hx2⟩ := (hx a0 n w0 vs B a w c).now
    obtain ⟨y', ey, hy1, hy2⟩ := (hy a0 n w0 vs B a w c).now
    have hc := fo_plc x' y'
    rw [hx2, hy2] at hc
    have hb : (binOp op T (.float .f64 x') (.float .f64 y')).run Tryz.prog w = .ok (.bool r) w := by
      cases op <;> simp only at hr <;> (try exact hr.elim) <;> simp [binOp, Op.floatCmp, hc, ← hr]
    unfold execOp
    rw [hop]
    generalize a.eval = ρ at ex ey
    have hg : (eqGuard op T x y (.float .f64 x') (.float .f64 y')).run Tryz.prog w = .ok () w := by cases op <;> rfl
    simp [ex, ey, hb, hg]
/-- The place of a sum, a difference, a product. -/
def arP (op : BinOp) (x y : Nat) : Option Int := match floatBits op .f64 x y with | some r => plc r | none => none
theorem nan_cut (x y t : Nat) : plc (Question.cut (.nanBits .f64 x y) t) = none ∧ Question.cut (.nanBits .f64 x y) t < 18446744073709551616 := by
  have e : Question.cut (.nanBits .f64 x y) t = (t % 2) * 9223372036854775808 + 9218868437227405312 + 1 + (t / 2) % 4503599627370495 := rfl
  rw [e]
  have h1 : t / 2 % 4503599627370495 < 4503599627370495 := Nat.mod_lt _ (by decide)
  have h2 : t % 2 < 2 := Nat.mod_lt _ (by decide)
  generalize t / 2 % 4503599627370495 = A at h1 ⊢
  generalize t % 2 = B at h2 ⊢
  refine ⟨?_, by omega⟩
  unfold plc
  rw [if_neg (by omega)]
theorem owe_farith {x y : Operand} {op : BinOp} {T T' : TypeId} {a b : Nat} (hop' : op = .add ∨ op = .sub ∨ op = .mul) (ho : ops[i]? = some o) (hw : Wants ops l bx sl i o) (hop : o.op = .binOp op T x y T') (hx : Opnd ops l bx sl i x (Is (.float .f64 a))) (hy : Opnd ops l bx sl i y (Is (.float .f64 b)))
    (hk : kdAt l i = .val (FL (arP op a b))) : Owed Tryz.prog ops Q l bx sl a0 n w0 i :=
  owe_grow ho hw hk fun vs B ac w c => by
    have ex : ac.eval x = .float .f64 a := (hx a0 n w0 vs B ac w c).now
    have ey : ac.eval y = .float .f64 b := (hy a0 n w0 vs B ac w c).now
    cases hf : floatBits op .f64 a b with
    | some r =>
      refine ⟨.float .f64 r, w, ?_, Below.refl _ _, fun w' _ => ⟨r, rfl, ?_, ?_⟩⟩
      · unfold execOp
        rw [hop]
        generalize ac.eval = ρ at ex ey
        have := run_float_arith (P := Tryz.prog) w op T .f64 a b r hf
        have hg : (eqGuard op T x y (.float .f64 a) (.float .f64 b)).run Tryz.prog w = .ok () w := by cases op <;> rfl
        simp [ex, ey, this, hg]
      · have := floatBits_wf hf
        simpa [Lit.wf] using this
      · simp only [arP, hf]
    | none =>
      refine ⟨.float .f64 (Question.cut (.nanBits .f64 a b) (w.tape w.drawn (.nanBits .f64 a b))), { w with drawn := w.drawn + 1 }, ?_, ?_, fun w' _ => ⟨_, rfl, (nan_cut a b _).2, ?_⟩⟩
      · unfold execOp
        rw [hop]
        generalize ac.eval = ρ at ex ey
        have hg : (eqGuard op T x y (.float .f64 a) (.float .f64 b)).run Tryz.prog w = .ok () w := by cases op <;> rfl
        rcases hop' with rfl | rfl | rfl <;> simp only [floatBits] at hf <;> simp [ex, ey, binOp, Op.floatArith, hf, choose, Sem.run, Question.forced, hg]
      · exact ⟨rfl, rfl, rfl, Nat.le_refl _, fun _ _ => rfl⟩
      · rw [(nan_cut a b _).1]; simp only [arP, hf]
end
/-- A float made whole. -/
theorem run_cvtF (ρ : Operand → Value) (o : Oper) (x : Operand) (w : World) (b : Nat) (n : Int) (h : floatToIntVal .f64 b .i64 = some n) (h1 : ρ x = .float .f64 b) : (execOp ρ { o with op := .convert 23 2 x }).run Tryz.prog w = .ok (.value (.int .i64 n)) w := by
  have := run_convert_float_int (P := Tryz.prog) w 23 2 .f64 .i64 b n (by rw [Tryz.underlying23]; rfl) Tryz.underlying2 h
  unfold execOp
  simp [h1, this]
theorem pur1t {f : FuncId} {x a b : Value} (h : Pur f #[x] (.tuple #[a, b])) : ∀ w u, Is x u w → Calls Tryz.prog f #[u] w (Gives (TWO (IS a) (IS b)) w) := fun w u e => by
  obtain rfl : u = x := e
  exact (h w).mono fun e w' ⟨he, hw⟩ => by subst hw; exact ⟨_, he, Below.refl _ _, a, b, rfl, rfl, rfl⟩
end Go.Proofs.YtgalppimdmjdcaaGreat

/-
  Arrays and lists of four floats; the least and the greatest of floats; a field of an interval written.
-/
namespace Go.Proofs.YtgalppimdmjdcaaGreat
open Go Go.RowKit Nt
set_option linter.unusedSimpArgs false
set_option linter.unusedVariables false
set_option maxRecDepth 20000

/-- Three floats, four floats, by their places. -/
def q2 (p q : Int) : Nat → Int | 0 => p | _ => q
def q4 (p0 p1 p2 p3 : Int) : Nat → Int | 0 => p0 | 1 => p1 | 2 => p2 | _ => p3
section
variable {ops : Array Oper} {l : List Kd} {bx : Bxs} {sl : List (Tmp × Pr)} {i : Nat} {o : Oper} {Q : Exit → Act → World → Prop} {a0 : Act} {n : Nat} {w0 : World}
end
end Go.Proofs.YtgalppimdmjdcaaGreat

/-
  Arrays and lists of four floats; a field of an interval written.
-/
namespace Go.Proofs.YtgalppimdmjdcaaGreat
open Go Go.RowKit Nt
set_option linter.unusedSimpArgs false
set_option linter.unusedVariables false
set_option maxRecDepth 20000

section
variable {ops : Array Oper} {l : List Kd} {bx : Bxs} {sl : List (Tmp × Pr)} {i : Nat} {o : Oper} {Q : Exit → Act → World → Prop} {a0 : Act} {n : Nat} {w0 : World}
end
end Go.Proofs.YtgalppimdmjdcaaGreat

/-
  Sums and products of floats by their numbers: the answer is the nearest float.
-/
namespace Go.Proofs.YtgalppimdmjdcaaGreat
open Go
set_option linter.unusedSimpArgs false
set_option linter.unusedVariables false
set_option maxRecDepth 20000

theorem plc_word (s : Bool) (R : Nat) (h : R ≤ 9218868437227405312) : plc (if s then 9223372036854775808 + R else R) = some (if s then -(R : Int) else (R : Int)) := by
  unfold plc
  cases s
  · simp only [Bool.false_eq_true, if_false]
    rw [if_pos (by omega), if_neg (by omega)]
    exact congrArg some (by omega)
  · simp only [if_true]
    rw [if_pos (by omega), if_pos (by omega)]
    exact congrArg some (by omega)
theorem Nearest.le {V R : Nat} (h : Nearest V R) : R ≤ 9218868437227405312 := by
  obtain ⟨L, K, e, _⟩ := h.pick
  omega
/-- The place of what is written. -/
theorem write_num (s : Bool) (m : Nat) (place : Int) (hp : -2148 ≤ place) : ∃ R : Nat, plc (Ieee.double.write (.number s m place)) = some (if s then -(R : Int) else (R : Int)) ∧ R ≤ 9218868437227405312 ∧ (m = 0 → R = 0) ∧ (m ≠ 0 → Nearest (m * 2 ^ (place + 2148).toNat) R) := by
  show ∃ R : Nat, plc (Ieee.double.nearest s m place) = _ ∧ _
  by_cases h : m = 0
  · subst h
    refine ⟨0, ?_, by decide, fun _ => rfl, fun h => absurd rfl h⟩
    have : Ieee.double.nearest s 0 place = (if s then 9223372036854775808 + 0 else 0) := by unfold Ieee.Format.nearest; rw [if_pos rfl]; rfl
    rw [this]
    exact plc_word s 0 (by decide)
  · obtain ⟨R, h1, h2⟩ := nearest_f64 s m place h hp
    refine ⟨R, ?_, h2.le, fun e => absurd e h, fun _ => h2⟩
    rw [h1]
    exact plc_word s R h2.le
/-- A place that is finite. -/
def Fin (p : Int) : Prop := -9218868437227405312 < p ∧ p < 9218868437227405312
theorem fin_num {a : Nat} {p : Int} (ha : plc a = some p) (hp : Fin p) : ∃ s m i, Ieee.double.read a = .number s m (-1074 + ((i : Nat) : Int)) ∧ (if s then -((m * 2 ^ i : Nat) : Int) else ((m * 2 ^ i : Nat) : Int)) = vp p := by
  cases frd a with
  | nan s f hp' hr => rw [ha] at hp'; cases hp'
  | inf s hp' hr => rw [ha] at hp'; have := Option.some.inj hp'; unfold Fin at hp; cases s <;> simp at this <;> omega
  | num p' s m i hp' h1 h2 hr hv =>
    rw [ha] at hp'
    obtain rfl := Option.some.inj hp'
    exact ⟨s, m, i, hr, hv⟩
/-- A sum of finite floats. -/
theorem sum_fin {s t : Bool} {m n i j : Nat} {x y : Int} (hv : (if s then -((m * 2 ^ i : Nat) : Int) else ((m * 2 ^ i : Nat) : Int)) = x) (hv' : (if t then -((n * 2 ^ j : Nat) : Int) else ((n * 2 ^ j : Nat) : Int)) = y) :
    ∃ (d : Bool) (M : Nat) (k : Nat), (Ieee.Datum.number s m (-1074 + (i : Int))).sum (.number t n (-1074 + (j : Int))) = some (.number d M (-1074 + (k : Int))) ∧ M * 2 ^ k = (x + y).natAbs ∧ (x + y ≠ 0 → (d = true ↔ x + y < 0)) := by
  obtain ⟨k, hk⟩ : ∃ k, min i j = k := ⟨_, rfl⟩
  have e0 : min (-1074 + (i : Int)) (-1074 + (j : Int)) = -1074 + (k : Int) := by omega
  have e1 : (-1074 + (i : Int) - (-1074 + (k : Int))).toNat = i - k := by omega
  have e2 : (-1074 + (j : Int) - (-1074 + (k : Int))).toNat = j - k := by omega
  have s1 := scaled s m i k (by omega)
  have s2 := scaled t n j k (by omega)
  rw [hv] at s1
  rw [hv'] at s2
  refine ⟨_, _, k, by simp only [Ieee.Datum.sum]; rw [e0, e1, e2], ?_, ?_⟩
  · have : (Ieee.signed s m (i - k) + Ieee.signed t n (j - k)) * ((2 ^ k : Nat) : Int) = x + y := by rw [Int.add_mul, s1, s2]
    rw [← this, Int.natAbs_mul, Int.natAbs_natCast]
  · intro h0
    have : (Ieee.signed s m (i - k) + Ieee.signed t n (j - k)) * ((2 ^ k : Nat) : Int) = x + y := by rw [Int.add_mul, s1, s2]
    have hP : (0 : Int) < ((2 ^ k : Nat) : Int) := by have := Nat.two_pow_pos k; omega
    generalize Ieee.signed s m (i - k) + Ieee.signed t n (j - k) = X at this
    generalize ((2 ^ k : Nat) : Int) = P at this hP
    rw [← this] at h0 ⊢
    have hX : X ≠ 0 := fun h => h0 (by rw [h, Int.zero_mul])
    rw [if_neg hX, decide_eq_true_eq]
    constructor
    · intro h; exact Int.mul_neg_of_neg_of_pos h hP
    · intro h
      apply Classical.byContradiction
      intro hc
      have := Int.mul_nonneg (show 0 ≤ X by omega) (Int.le_of_lt hP)
      omega
theorem add_of {s t : Bool} {m n i j : Nat} {x y : Int} (hv : (if s then -((m * 2 ^ i : Nat) : Int) else ((m * 2 ^ i : Nat) : Int)) = x) (hv' : (if t then -((n * 2 ^ j : Nat) : Int) else ((n * 2 ^ j : Nat) : Int)) = y) :
    ∃ R : Nat, (((Ieee.Datum.number s m (-1074 + (i : Int))).sum (.number t n (-1074 + (j : Int)))).map Ieee.double.write).map plc = some (some (if x + y < 0 then -(R : Int) else (R : Int))) ∧ R ≤ 9218868437227405312 ∧ (x + y = 0 → R = 0) ∧ (x + y ≠ 0 → Nearest ((x + y).natAbs * uF) R) := by
  obtain ⟨d, M, k, h1, h2, h3⟩ := sum_fin hv hv'
  obtain ⟨R, w1, w2, w3, w4⟩ := write_num d M (-1074 + (k : Int)) (by omega)
  rw [show (-1074 + (k : Int) + 2148).toNat = k + 1074 from by omega, ← pow_uF, ← Nat.mul_assoc, h2] at w4
  have zero : x + y = 0 → R = 0 := fun h0 => w3 (by
    have : M * 2 ^ k = 0 := by rw [h2, h0]; rfl
    rcases Nat.mul_eq_zero.1 this with h | h
    · exact h
    · have := Nat.two_pow_pos k; omega)
  refine ⟨R, ?_, w2, zero, fun h0 => w4 (fun h => h0 (by
    have : (x + y).natAbs = 0 := by rw [← h2, h, Nat.zero_mul]
    omega))⟩
  rw [h1]
  show some (plc (Ieee.double.write _)) = _
  rw [w1]
  refine congrArg some (congrArg some ?_)
  by_cases h0 : x + y = 0
  · rw [zero h0]; simp
  · have := h3 h0
    by_cases hb : d = true
    · rw [if_pos hb, if_pos (this.1 hb)]
    · rw [if_neg hb, if_neg (fun h => hb (this.2 h))]
theorem sub_fin {a b : Nat} {p q : Int} (ha : plc a = some p) (hb : plc b = some q) (hp : Fin p) (hq : Fin q) : ∃ R : Nat, arP .sub a b = some (if vp p - vp q < 0 then -(R : Int) else (R : Int)) ∧ R ≤ 9218868437227405312 ∧ (vp p - vp q = 0 → R = 0) ∧ (vp p - vp q ≠ 0 → Nearest ((vp p - vp q).natAbs * uF) R) := by
  obtain ⟨s, m, i, hr, hv⟩ := fin_num ha hp
  obtain ⟨t, n, j, hr', hv'⟩ := fin_num hb hq
  have hv2 : (if (!t) then -((n * 2 ^ j : Nat) : Int) else ((n * 2 ^ j : Nat) : Int)) = -vp q := by
    rw [← hv']; cases t <;> simp
  obtain ⟨R, h1, h2⟩ := add_of hv hv2
  rw [← Int.sub_eq_add_neg] at h1 h2
  refine ⟨R, ?_, h2⟩
  have hf : floatBits .sub .f64 a b = ((Ieee.Datum.number s m (-1074 + (i : Int))).sum (.number (!t) n (-1074 + (j : Int)))).map Ieee.double.write := by
    show ((Ieee.double.read a).sum (Ieee.double.read b).opposite).map Ieee.double.write = _
    rw [hr, hr']; rfl
  cases hc : floatBits .sub .f64 a b with
  | none => rw [← hf, hc] at h1; cases h1
  | some r => rw [← hf, hc] at h1; simp only [arP, hc]; exact Option.some.inj h1
/-- An infinity. -/
theorem inf_num {a : Nat} {p : Int} (ha : plc a = some p) (hp : p = 9218868437227405312 ∨ p = -9218868437227405312) : ∃ s : Bool, Ieee.double.read a = .infinity s ∧ (s = true ↔ p < 0) := by
  cases frd a with
  | nan s f hp' hr => rw [ha] at hp'; cases hp'
  | inf s hp' hr => rw [ha] at hp'; have := Option.some.inj hp'; refine ⟨s, hr, ?_⟩; cases s <;> simp at this ⊢ <;> omega
  | num p' s m i hp' h1 h2 hr hv => rw [ha] at hp'; have := Option.some.inj hp'; omega
end Go.Proofs.YtgalppimdmjdcaaGreat

/-
  Products of ends, 0 times an infinity being 0.
-/
namespace Go.Proofs.YtgalppimdmjdcaaGreat
open Go
set_option linter.unusedSimpArgs false
set_option linter.unusedVariables false
set_option maxRecDepth 20000

theorem fin_or {r : Int} (hr : r.natAbs ≤ 9218868437227405312) : Fin r ∨ (r = 9218868437227405312 ∨ r = -9218868437227405312) := by unfold Fin; omega
theorem plc_le {a : Nat} {p : Int} (h : plc a = some p) : p.natAbs ≤ 9218868437227405312 := by
  unfold plc at h
  split at h
  · have := Option.some.inj h; split at this <;> omega
  · cases h
theorem ok_some {x y : Nat} (h : (ordP (plc x) (plc y) == some .lt || ordP (plc x) (plc y) == some .eq) = true) : ∃ p q, plc x = some p ∧ plc y = some q ∧ p ≤ q := by
  cases hx : plc x with
  | none => rw [hx] at h; cases h
  | some p =>
    cases hy : plc y with
    | none => rw [hx, hy] at h; cases h
    | some q =>
      rw [hx, hy] at h
      refine ⟨p, q, rfl, rfl, ?_⟩
      simp only [ordP] at h
      rw [cmp_lt, cmp_eq] at h
      simp at h
      omega
end Go.Proofs.YtgalppimdmjdcaaGreat
