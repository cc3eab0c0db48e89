import Derived.Test.YtgalppimdmjdcabGreatDoorSetY
import Derived.Test.YtgalppimdmjdcabGreatDoorStruct
import Derived.Test.YtgalppimdmjdcabGreatDoorArr
import Derived.Test.YtgalppimdmjdcabGreatDoorFlB
import Derived.Test.YtgalppimdmjdcabGreatDoorSetU
/-
  Words of 64 bits in the logic: rests, shifts, sums, comparisons; a list of two limbs.
-/
namespace Go.Proofs.YtgalppimdmjdcabGreatDoor
open Go Go.RowKit Nt
set_option linter.unusedSimpArgs false
set_option linter.unusedVariables false
set_option maxRecDepth 20000

theorem u_rem (ρ : Operand → Value) (o : Oper) (x y : Operand) (w : World) (a c : Nat) (hc : 0 < c) (h1 : ρ x = .int .u64 (a : Int)) (h2 : ρ y = .int .u64 (c : Int)) : (execOp ρ { o with op := .binOp .rem 27 x y 27 }).run Tryz.prog w = .ok (.value (.int .u64 ((a % c : Nat) : Int))) w := by
  have h8 : (c : Int) ≠ 0 := by omega
  have h9 : (a : Int).tmod (c : Int) = (a : Int) % (c : Int) := Int.tmod_eq_emod_of_nonneg (by omega)
  unfold execOp
  go_simp
  omega
theorem u_geq_t (ρ : Operand → Value) (o : Oper) (x y : Operand) (w : World) (a c : Int) (h : c ≤ a) (h1 : ρ x = .int .u64 a) (h2 : ρ y = .int .u64 c) : (execOp ρ { o with op := .binOp .geq 27 x y 27 }).run Tryz.prog w = .ok (.value (.bool true)) w := by
  have h' : (c ≤ a) = True := by simp [h]
  clear h
  unfold execOp
  go_simp
theorem u_geq_f (ρ : Operand → Value) (o : Oper) (x y : Operand) (w : World) (a c : Int) (h : a < c) (h1 : ρ x = .int .u64 a) (h2 : ρ y = .int .u64 c) : (execOp ρ { o with op := .binOp .geq 27 x y 27 }).run Tryz.prog w = .ok (.value (.bool false)) w := by
  have h' : (c ≤ a) = False := by simp [h]
  clear h
  unfold execOp
  go_simp
theorem u_geq (ρ : Operand → Value) (o : Oper) (x y : Operand) (w : World) (a c : Int) (h1 : ρ x = .int .u64 a) (h2 : ρ y = .int .u64 c) : (execOp ρ { o with op := .binOp .geq 27 x y 27 }).run Tryz.prog w = .ok (.value (.bool (decide (c ≤ a)))) w := by
  unfold execOp
  go_simp
theorem u_add (ρ : Operand → Value) (o : Oper) (x y : Operand) (w : World) (a c : Nat) (h : a + c < 18446744073709551616) (h1 : ρ x = .int .u64 (a : Int)) (h2 : ρ y = .int .u64 (c : Int)) : (execOp ρ { o with op := .binOp .add 27 x y 27 }).run Tryz.prog w = .ok (.value (.int .u64 ((a + c : Nat) : Int))) w := by
  have h3 : IntKind.u64.wrap ((a : Int) + (c : Int)) = (a : Int) + (c : Int) := by rw [IntKind.wrap_u64]; omega
  clear h
  unfold execOp
  go_simp
theorem u_shr52 (ρ : Operand → Value) (o : Oper) (x y : Operand) (w : World) (a : Nat) (T : TypeId) (h1 : ρ x = .int .u64 (a : Int)) (h2 : ρ y = .int .u64 52) : (execOp ρ { o with op := .binOp .shr 27 x y T }).run Tryz.prog w = .ok (.value (.int .u64 ((a / 4503599627370496 : Nat) : Int))) w := by
  unfold execOp
  go_simp
theorem u_shr32 (ρ : Operand → Value) (o : Oper) (x y : Operand) (w : World) (a : Nat) (T : TypeId) (h1 : ρ x = .int .u64 (a : Int)) (h2 : ρ y = .int .u64 32) : (execOp ρ { o with op := .binOp .shr 27 x y T }).run Tryz.prog w = .ok (.value (.int .u64 ((a / 4294967296 : Nat) : Int))) w := by
  unfold execOp
  go_simp
theorem u_int (ρ : Operand → Value) (o : Oper) (x : Operand) (w : World) (a : Nat) (h : a < 9223372036854775808) (h1 : ρ x = .int .u64 (a : Int)) : (execOp ρ { o with op := .convert 27 3 x }).run Tryz.prog w = .ok (.value (.int .i64 (a : Int))) w := by
  have h3 : IntKind.i64.wrap (a : Int) = (a : Int) := by rw [IntKind.wrap_i64]; omega
  clear h
  unfold execOp
  go_simp
theorem u_u32 (ρ : Operand → Value) (o : Oper) (x : Operand) (w : World) (a : Nat) (h : a < 4294967296) (h1 : ρ x = .int .u64 (a : Int)) : (execOp ρ { o with op := .convert 27 64 x }).run Tryz.prog w = .ok (.value (.int .u32 (a : Int))) w := by
  have h3 : IntKind.u32.wrap (a : Int) = (a : Int) := by rw [IntKind.wrap_u32]; omega
  clear h
  unfold execOp
  go_simp
section
variable {ops : Array Oper} {l : List Kd} {bx : Bxs} {sl : List (Tmp × Pr)} {i : Nat} {o : Oper} {Q : Exit → Act → World → Prop} {a0 : Act} {n : Nat} {w0 : World}
theorem owe_bint2 {x y : Operand} {b : Bool} {m k : Nat} (ho : ops[i]? = some o) (hw : Wants ops l bx sl i o) (hop : o.op = .build 24 #[(0, x), (1, y)]) (hx : Opnd ops l bx sl i x (Is (.bool b))) (hy : Opnd ops l bx sl i y (Nv m k)) (hk : kdAt l i = .val (Zv (sg b m) k)) : Owed Tryz.prog ops Q l bx sl a0 n w0 i :=
  owe_val ho hw hk fun vs B a w c => by
    have hxv : a.eval x = .bool b := (hx a0 n w0 vs B a w c).now
    have hY := hy a0 n w0 vs B a w c
    obtain ⟨p, n', c', xs, e, hs, hv, hn⟩ := hY.now
    refine ⟨.agg #[.bool b, .slice p n' c'], ?_, fun w' ev => ?_⟩
    · unfold execOp
      rw [hop]
      generalize a.eval = ρ at hxv e
      go_simp
    · obtain ⟨p2, n2, c2, xs2, e2, hs2, hv2, hn2⟩ := hY w' ev
      rw [e] at e2
      cases e2
      exact ⟨b, p, n', c', xs2, rfl, hs2, by rw [hv2], hn2⟩
theorem owe_bint1 {y : Operand} {m k : Nat} (ho : ops[i]? = some o) (hw : Wants ops l bx sl i o) (hop : o.op = .build 24 #[(1, y)]) (hy : Opnd ops l bx sl i y (Nv m k)) (hk : kdAt l i = .val (Zv (sg false m) k)) : Owed Tryz.prog ops Q l bx sl a0 n w0 i :=
  owe_val ho hw hk fun vs B a w c => by
    have hY := hy a0 n w0 vs B a w c
    obtain ⟨p, n', c', xs, e, hs, hv, hn⟩ := hY.now
    refine ⟨.agg #[.bool false, .slice p n' c'], ?_, fun w' ev => ?_⟩
    · unfold execOp
      rw [hop]
      generalize a.eval = ρ at e
      go_simp
    · obtain ⟨p2, n2, c2, xs2, e2, hs2, hv2, hn2⟩ := hY w' ev
      rw [e] at e2
      cases e2
      exact ⟨false, p, n', c', xs2, rfl, hs2, by rw [hv2], hn2⟩
/-- A row of two limbs, just made. -/
theorem owe_bs2 {x y : Operand} {a b M : Nat} (ho : ops[i]? = some o) (hw : Wants ops l bx sl i o) (hop : o.op = .buildSlice 22 2 #[(0, x), (1, y)]) (hx : Opnd ops l bx sl i x (Is (.int .u32 a))) (hy : Opnd ops l bx sl i y (Is (.int .u32 b))) (ha : a < 4294967296) (hb : b < 4294967296) (hM : a + 4294967296 * b = M) (hk : kdAt l i = .val (NW M 2 w0.heap.size)) : Owed Tryz.prog ops Q l bx sl a0 n w0 i :=
  owe_grow ho hw hk fun vs B ac w c => by
    have hx : ac.eval x = .int .u32 a := (hx a0 n w0 vs B ac w c).now
    have hy : ac.eval y = .int .u32 b := (hy a0 n w0 vs B ac w c).now
    have hbl : Below w.heap.size w (w.alloc (.cells (U [a, b]).toArray 64)) := (Below.refl _ _).alloc (Nat.le_refl _) _
    have hS : Sl (w.alloc (.cells (U [a, b]).toArray 64)) (some ⟨w.heap.size, 0, none⟩) 2 2 [a, b] := ⟨rfl, Nat.le_refl _, by unfold maxLen; omega, (fun e => by cases e), Ok.cons ha (Ok.cons hb Ok.nil), Blk.limbs (heap_alloc_last _ _)⟩
    refine ⟨.slice (some ⟨w.heap.size, 0, none⟩) 2 2, w.alloc (.cells (U [a, b]).toArray 64), ?_, hbl, fun w'' e'' => (fresh_nw _ _).mono _ _ _ _ c.lo ((fresh_nw _ _).ev w.heap.size _ _ w'' B (fun k hk => (c.bnd k hk).2) ⟨[a, b], ⟨some ⟨w.heap.size, 0, none⟩, 2, rfl, hS, fun b o e => ?_⟩, ?_, by simp⟩ e'')⟩
    · unfold execOp
      rw [hop]
      generalize ac.eval = ρ at hx hy
      simp only [U, List.map_cons, List.map_nil]
      go_simp
    · simp only [Option.some.injEq, Addr.mk.injEq] at e
      omega
    · rw [← hM]; simp [val]
/-- A struct by its fields. -/
theorem owe_bintS {x y : Operand} {b : Bool} {φ : Pr} (ho : ops[i]? = some o) (hw : Wants ops l bx sl i o) (hop : o.op = .build 24 #[(0, x), (1, y)]) (hx : Opnd ops l bx sl i x (Is (.bool b))) (hy : Opnd ops l bx sl i y φ) (h1 : ∀ v w, φ v w → ∃ p n c, v = .slice p n c) (hk : kdAt l i = .val (SF [Is (.bool b), φ])) : Owed Tryz.prog ops Q l bx sl a0 n w0 i :=
  owe_val ho hw hk fun vs B a w c => by
    have hxv : a.eval x = .bool b := (hx a0 n w0 vs B a w c).now
    have hY := hy a0 n w0 vs B a w c
    obtain ⟨p, n', c', e⟩ := h1 _ _ hY.now
    refine ⟨.agg #[.bool b, .slice p n' c'], ?_, fun w' ev => ⟨_, rfl, rfl, by simp [Value.oneCell'], fun f q hq => ?_⟩⟩
    · unfold execOp
      rw [hop]
      generalize a.eval = ρ at hxv e
      go_simp
    · match f, hq with
      | 0, hq => simp at hq; subst hq; exact ⟨_, rfl, rfl⟩
      | 1, hq => simp at hq; subst hq; exact ⟨_, rfl, by rw [← e]; exact hY w' ev⟩
end
theorem nw_sl {m k lo : Nat} : ∀ v w, NW m k lo v w → ∃ p n c, v = .slice p n c := fun v w ⟨xs, ⟨r, c, e, _⟩, _⟩ => ⟨_, _, _, e⟩
theorem sf_zv {b : Bool} {m k lo : Nat} : ∀ v w, SF [Is (.bool b), NW m k lo] v w → Zv (sg b m) k v w := fun v w ⟨cs, e, h1, h2, h3⟩ => by
  obtain ⟨u, hu, e1⟩ := h3 0 _ rfl
  obtain ⟨u', hu', hn⟩ := h3 1 _ rfl
  obtain ⟨p, n, c, xs, e2, hs, hv, hk⟩ := nw_nv _ _ hn
  refine ⟨b, p, n, c, xs, ?_, hs, by rw [hv], hk⟩
  rw [e]
  congr 1
  apply Array.ext
  · simpa using h1
  · intro i hi1 hi2
    have hi : i < 2 := by simpa using hi2
    match i, hi with
    | 0, _ => rw [Array.getElem?_eq_getElem hi1] at hu; rw [Option.some.inj hu]; exact e1
    | 1, _ => rw [Array.getElem?_eq_getElem hi1] at hu'; rw [Option.some.inj hu']; exact e2
theorem shp_bs {p q : Pr} : Shp 2 (SF [p, q]) := shp_sf (ps := [p, q])
end Go.Proofs.YtgalppimdmjdcabGreatDoor

/-
  Calls of three and four arguments; limbs of a number read one by one; bit operations of words.
-/
namespace Go.Proofs.YtgalppimdmjdcabGreatDoor
open Go Go.RowKit Nt
set_option linter.unusedSimpArgs false
set_option linter.unusedVariables false
set_option maxRecDepth 20000

section
variable {ops : Array Oper} {l : List Kd} {bx : Bxs} {sl : List (Tmp × Pr)} {i : Nat} {o : Oper} {Q : Exit → Act → World → Prop} {a0 : Act} {n : Nat} {w0 : World}
theorem owe_call4 {ψ : Nat → Pr} {f : FuncId} {x y z t : Operand} {ts : Array TypeId} {φ φ' φ'' φ3 : Pr} (ho : ops[i]? = some o) (hw : Wants ops l bx sl i o) (hop : o.op = .call { callee := .value (.func f), args := #[x, y, z, t], argTypes := ts }) (hx : Opnd ops l bx sl i x φ) (hy : Opnd ops l bx sl i y φ') (hz : Opnd ops l bx sl i z φ'') (ht : Opnd ops l bx sl i t φ3) (hF : Fresh ψ) (hk : kdAt l i = .val (ψ w0.heap.size))
    (hcf : ∀ args w, (callFunc f args).run Tryz.prog w = .ok (.enter f args) w) (C : ∀ w u v t s, φ u w → φ' v w → φ'' t w → φ3 s w → Calls Tryz.prog f #[u, v, t, s] w (Gives ψ w)) : Owed Tryz.prog ops Q l bx sl a0 n w0 i :=
  owe_call ho hw hop hF hk hcf fun vs B a w c => by
    rw [show (#[x, y, z, t] : Array Operand).map a.eval = #[a.eval x, a.eval y, a.eval z, a.eval t] from by simp]
    exact C w _ _ _ _ (hx a0 n w0 vs B a w c).now (hy a0 n w0 vs B a w c).now (hz a0 n w0 vs B a w c).now (ht a0 n w0 vs B a w c).now
theorem owe_frbits {x : Operand} {ts : Array TypeId} {b : Nat} (ho : ops[i]? = some o) (hw : Wants ops l bx sl i o) (hop : o.op = .call { callee := .value (.func 5), args := #[x], argTypes := ts }) (hx : Opnd ops l bx sl i x (Is (.int .u64 ((b : Nat) : Int)))) (hk : kdAt l i = .val (Is (.float .f64 b))) : Owed Tryz.prog ops Q l bx sl a0 n w0 i :=
  owe_is ho hw hk fun vs B a w c => by
    have hxv : a.eval x = .int .u64 ((b : Nat) : Int) := (hx a0 n w0 vs B a w c).now
    have hr := run_frombits ((b : Nat) : Int) w
    have hf : a.eval (.func 5) = .func (.func 5) #[] #[] := rfl
    unfold execOp
    rw [hop]
    generalize a.eval = ρ at hf hxv
    go_simp
theorem owe_tobits {x : Operand} {ts : Array TypeId} {b : Nat} (ho : ops[i]? = some o) (hw : Wants ops l bx sl i o) (hop : o.op = .call { callee := .value (.func 57), args := #[x], argTypes := ts }) (hx : Opnd ops l bx sl i x (Is (.float .f64 b))) (hk : kdAt l i = .val (Is (.int .u64 ((b : Nat) : Int)))) : Owed Tryz.prog ops Q l bx sl a0 n w0 i :=
  owe_is ho hw hk fun vs B a w c => by
    have hxv : a.eval x = .float .f64 b := (hx a0 n w0 vs B a w c).now
    have hr := run_bits b w
    have hf : a.eval (.func 57) = .func (.func 57) #[] #[] := rfl
    unfold execOp
    rw [hop]
    generalize a.eval = ρ at hf hxv
    go_simp
/-- A product of floats whose answer is known. -/
theorem owe_fmul {x y : Operand} {T T' : TypeId} {a b r : Nat} (hf : floatBits .mul .f64 a b = some r) (ho : ops[i]? = some o) (hw : Wants ops l bx sl i o) (hop : o.op = .binOp .mul T x y T') (hx : Opnd ops l bx sl i x (Is (.float .f64 a))) (hy : Opnd ops l bx sl i y (Is (.float .f64 b)))
    (hk : kdAt l i = .val (Is (.float .f64 r))) : Owed Tryz.prog ops Q l bx sl a0 n w0 i :=
  owe_is ho hw hk fun vs B ac w c => by
    have ex : ac.eval x = .float .f64 a := (hx a0 n w0 vs B ac w c).now
    have ey : ac.eval y = .float .f64 b := (hy a0 n w0 vs B ac w c).now
    unfold execOp
    rw [hop]
    generalize ac.eval = ρ at ex ey
    have := run_float_arith (P := Tryz.prog) w .mul T .f64 a b r hf
    have hg : (eqGuard .mul T x y (.float .f64 a) (.float .f64 b)).run Tryz.prog w = .ok () w := rfl
    simp [ex, ey, this, hg]
end
end Go.Proofs.YtgalppimdmjdcabGreatDoor
