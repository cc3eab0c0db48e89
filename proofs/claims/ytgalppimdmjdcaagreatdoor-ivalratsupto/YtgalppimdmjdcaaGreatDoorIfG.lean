import Derived.Test.YtgalppimdmjdcaaGreatDoorSetY
import Derived.Test.YtgalppimdmjdcaaGreatDoorStruct
import Derived.Test.YtgalppimdmjdcaaGreatDoorArr
import Derived.Test.YtgalppimdmjdcaaGreatDoorFlB
import Derived.Test.YtgalppimdmjdcaaGreatDoorSetU
/-
  Words of 64 bits in the logic: rests, shifts, sums, comparisons; a list of two limbs.
-/
namespace Go.Proofs.YtgalppimdmjdcaaGreatDoor
open Go Go.RowKit Nt
set_option linter.unusedSimpArgs false
set_option linter.unusedVariables false
set_option maxRecDepth 20000

theorem u_add (ρ : Operand → Value) (o : Oper) (x y : Operand) (w : World) (a c : Nat) (h : a + c < 18446744073709551616) (h1 : ρ x = .int .u64 (a : Int)) (h2 : ρ y = .int .u64 (c : Int)) : (execOp ρ { o with op := .binOp .add 40 x y 40 }).run Tryz.prog w = .ok (.value (.int .u64 ((a + c : Nat) : Int))) w := by
  have h3 : IntKind.u64.wrap ((a : Int) + (c : Int)) = (a : Int) + (c : Int) := by rw [IntKind.wrap_u64]; omega
  clear h
  unfold execOp
  go_simp
theorem u_shr52 (ρ : Operand → Value) (o : Oper) (x y : Operand) (w : World) (a : Nat) (T : TypeId) (h1 : ρ x = .int .u64 (a : Int)) (h2 : ρ y = .int .u64 52) : (execOp ρ { o with op := .binOp .shr 40 x y T }).run Tryz.prog w = .ok (.value (.int .u64 ((a / 4503599627370496 : Nat) : Int))) w := by
  unfold execOp
  go_simp
theorem u_int (ρ : Operand → Value) (o : Oper) (x : Operand) (w : World) (a : Nat) (h : a < 9223372036854775808) (h1 : ρ x = .int .u64 (a : Int)) : (execOp ρ { o with op := .convert 40 3 x }).run Tryz.prog w = .ok (.value (.int .i64 (a : Int))) w := by
  have h3 : IntKind.i64.wrap (a : Int) = (a : Int) := by rw [IntKind.wrap_i64]; omega
  clear h
  unfold execOp
  go_simp
section
variable {ops : Array Oper} {l : List Kd} {bx : Bxs} {sl : List (Tmp × Pr)} {i : Nat} {o : Oper} {Q : Exit → Act → World → Prop} {a0 : Act} {n : Nat} {w0 : World}
end
end Go.Proofs.YtgalppimdmjdcaaGreatDoor

/-
  Calls of three and four arguments; limbs of a number read one by one; bit operations of words.
-/
namespace Go.Proofs.YtgalppimdmjdcaaGreatDoor
open Go Go.RowKit Nt
set_option linter.unusedSimpArgs false
set_option linter.unusedVariables false
set_option maxRecDepth 20000

section
variable {ops : Array Oper} {l : List Kd} {bx : Bxs} {sl : List (Tmp × Pr)} {i : Nat} {o : Oper} {Q : Exit → Act → World → Prop} {a0 : Act} {n : Nat} {w0 : World}
theorem owe_call3 {ψ : Nat → Pr} {f : FuncId} {x y z : Operand} {ts : Array TypeId} {φ φ' φ'' : Pr} (ho : ops[i]? = some o) (hw : Wants ops l bx sl i o) (hop : o.op = .call { callee := .value (.func f), args := #[x, y, z], argTypes := ts }) (hx : Opnd ops l bx sl i x φ) (hy : Opnd ops l bx sl i y φ') (hz : Opnd ops l bx sl i z φ'') (hF : Fresh ψ) (hk : kdAt l i = .val (ψ w0.heap.size))
    (hcf : ∀ args w, (callFunc f args).run Tryz.prog w = .ok (.enter f args) w) (C : ∀ w u v t, φ u w → φ' v w → φ'' t w → Calls Tryz.prog f #[u, v, t] w (Gives ψ w)) : Owed Tryz.prog ops Q l bx sl a0 n w0 i :=
  owe_call ho hw hop hF hk hcf fun vs B a w c => by
    rw [show (#[x, y, z] : Array Operand).map a.eval = #[a.eval x, a.eval y, a.eval z] from by simp]
    exact C w _ _ _ (hx a0 n w0 vs B a w c).now (hy a0 n w0 vs B a w c).now (hz a0 n w0 vs B a w c).now
theorem owe_call4 {ψ : Nat → Pr} {f : FuncId} {x y z t : Operand} {ts : Array TypeId} {φ φ' φ'' φ3 : Pr} (ho : ops[i]? = some o) (hw : Wants ops l bx sl i o) (hop : o.op = .call { callee := .value (.func f), args := #[x, y, z, t], argTypes := ts }) (hx : Opnd ops l bx sl i x φ) (hy : Opnd ops l bx sl i y φ') (hz : Opnd ops l bx sl i z φ'') (ht : Opnd ops l bx sl i t φ3) (hF : Fresh ψ) (hk : kdAt l i = .val (ψ w0.heap.size))
    (hcf : ∀ args w, (callFunc f args).run Tryz.prog w = .ok (.enter f args) w) (C : ∀ w u v t s, φ u w → φ' v w → φ'' t w → φ3 s w → Calls Tryz.prog f #[u, v, t, s] w (Gives ψ w)) : Owed Tryz.prog ops Q l bx sl a0 n w0 i :=
  owe_call ho hw hop hF hk hcf fun vs B a w c => by
    rw [show (#[x, y, z, t] : Array Operand).map a.eval = #[a.eval x, a.eval y, a.eval z, a.eval t] from by simp]
    exact C w _ _ _ _ (hx a0 n w0 vs B a w c).now (hy a0 n w0 vs B a w c).now (hz a0 n w0 vs B a w c).now (ht a0 n w0 vs B a w c).now
theorem owe_frbits {x : Operand} {ts : Array TypeId} {b : Nat} (ho : ops[i]? = some o) (hw : Wants ops l bx sl i o) (hop : o.op = .call { callee := .value (.func 63), args := #[x], argTypes := ts }) (hx : Opnd ops l bx sl i x (Is (.int .u64 ((b : Nat) : Int)))) (hk : kdAt l i = .val (Is (.float .f64 b))) : Owed Tryz.prog ops Q l bx sl a0 n w0 i :=
  owe_is ho hw hk fun vs B a w c => by
    have hxv : a.eval x = .int .u64 ((b : Nat) : Int) := (hx a0 n w0 vs B a w c).now
    have hr := run_frombits ((b : Nat) : Int) w
    have hf : a.eval (.func 63) = .func (.func 63) #[] #[] := rfl
    unfold execOp
    rw [hop]
    generalize a.eval = ρ at hf hxv
    go_simp
theorem owe_tobits {x : Operand} {ts : Array TypeId} {b : Nat} (ho : ops[i]? = some o) (hw : Wants ops l bx sl i o) (hop : o.op = .call { callee := .value (.func 61), args := #[x], argTypes := ts }) (hx : Opnd ops l bx sl i x (Is (.float .f64 b))) (hk : kdAt l i = .val (Is (.int .u64 ((b : Nat) : Int)))) : Owed Tryz.prog ops Q l bx sl a0 n w0 i :=
  owe_is ho hw hk fun vs B a w c => by
    have hxv : a.eval x = .float .f64 b := (hx a0 n w0 vs B a w c).now
    have hr := run_bits b w
    have hf : a.eval (.func 61) = .func (.func 61) #[] #[] := rfl
    unfold execOp
    rw [hop]
    generalize a.eval = ρ at hf hxv
    go_simp
/-- A product of floats whose answer is known. -/
theorem owe_fmul {x y : Operand} {T T' : TypeId} {a b r : Nat} (hf : floatBits .mul .f64 a b = some r) (ho : ops[i]? = some o) (hw : Wants ops l bx sl i o) (hop : o.op = .binOp .mul T x y T') (hx : Opnd ops l bx sl i x (Is (.float .f64 a))) (hy : Opnd ops l bx sl i y (Is (.float .f64 b)))
    (hk : kdAt l i = .val (Is (.float .f64 r))) : Owed Tryz.prog ops Q l bx sl a0 n w0 i :=
  owe_is ho hw hk fun vs B ac w c => by
    have ex : ac.eval x = .float .f64 a := (hx a0 n w0 vs B ac w c).now
    have ey : ac.eval y = .float .f64 b := (hy a0 n w0 vs B ac w c).now
    unfold execOp
    rw [hop]
    generalize ac.eval = ρ at ex ey
    have := run_float_arith (P := Tryz.prog) w .mul T .f64 a b r hf
    have hg : (eqGuard .mul T x y (.float .f64 a) (.float .f64 b)).run Tryz.prog w = .ok () w := rfl
    simp [ex, ey, this, hg]
end
theorem cel_is {v : Value} (h : v.oneCell' = true) : Cel 1 (Is v) := fun u w e => by rw [show u = v from e]; exact celv_one h
theorem idx_us : Idx 22 1 := fun ρ o x y w b k i n c hi hx hy => by
  rw [Nat.one_mul]
  unfold execOp
  go_simp
theorem ldr_u1 : Ldr 74 1 := fun ρ o x w b k u hu hc hx => by
  have hs := hu.siz
  have e : u.cells = #[u] ∧ u.oneCell' = true := by
    have h1 := hu.of
    have h2 := hu.one
    unfold ofCells at h1
    rw [if_pos rfl] at h1
    have e : u.cells = #[u] := by
      apply Array.ext
      · simpa using hs
      · intro j h3 h4
        have : j = 0 := by rw [hs] at h3; omega
        subst this
        have h5 : u.cells.getD 0 undef = u.cells[0] := by simp [Array.getD, hs]
        rw [h5] at h1
        exact h1.symm
    rw [e] at h2
    exact ⟨e, by simpa using h2⟩
  obtain ⟨e, h1⟩ := e
  have h2 : w.cell? ⟨b, k, none⟩ = some u := hc 0 u (by rw [e]; rfl)
  clear hc hu e hs
  unfold execOp
  go_simp
theorem nn_ar {m lo : Nat} : ∀ v w, NN m lo v w → Ar 1 (digs m).length ((digs m).map (fun d => Is (.int .u32 ((d : Nat) : Int)))) v w := fun v w ⟨r, c, e, h, _⟩ => by
  refine ⟨r, c, e, by simp, ⟨h.cap, h.max, h.nil⟩, fun i φ hφ => ?_⟩
  rw [List.getElem?_map] at hφ
  obtain ⟨d, hd, rfl⟩ := Option.map_eq_some_iff.1 hφ
  have hlt := (List.getElem?_eq_some_iff.1 hd).1
  obtain ⟨b, o, hr, hc⟩ := h.lie i hlt
  rw [show (digs m).getD i 0 = d by simp [List.getD, hd]] at hc
  refine ⟨b, o, .int .u32 ((d : Nat) : Int), hr, fun j x hx => ?_, rfl, rfl⟩
  have : j = 0 := by
    have := (Array.getElem?_eq_some_iff.1 hx).1
    simp [Value.cells] at this
    exact this
  subst this
  simp [Value.cells] at hx
  subst hx
  simpa using hc
/-- The limbs from a place on, as a word. -/
theorem top_step (q j : Nat) (hj : j < (digs q).length) : ∃ d, (digs q)[j]? = some d ∧ d < 4294967296 ∧ q / 4294967296 ^ (j + 1) * 4294967296 + d = q / 4294967296 ^ j := by
  refine ⟨(digs q)[j], List.getElem?_eq_getElem hj, (ok_digs q) _ (List.getElem_mem hj), ?_⟩
  have h1 := val_drop_div (ok_digs q) j
  have h2 := val_drop_div (ok_digs q) (j + 1)
  rw [val_digs] at h1 h2
  rw [← h1, ← h2, List.drop_eq_getElem_cons hj]
  simp [val]
  omega
theorem top_zero (q : Nat) : q / 4294967296 ^ (digs q).length = 0 := Nat.div_eq_of_lt (lt_pow_digs q)
end Go.Proofs.YtgalppimdmjdcaaGreatDoor
