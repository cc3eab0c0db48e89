/-
  Lists by what is said of their elements: read, made, written in place, handed on; functions as values.
-/
import Derived.Test.YtdhjgekbocnnkaaDoorTurn
namespace Go.Proofs.YtdhjgekbocnnkaaDoor
open Go Go.RowKit Nt
set_option linter.unusedSimpArgs false
set_option linter.unusedVariables false
set_option maxRecDepth 20000

/-- It holds, whatever is made beside it. -/
abbrev Hs (w : World) (φ : Pr) (v : Value) : Prop := Has (fun _ => False) w φ v
theorem Has.hs {B : Nat → Prop} {w : World} {φ : Pr} {v : Value} (h : Has B w φ v) : Hs w φ v := fun w' e => h w' (e.mono (fun _ h => h.elim))
theorem Hs.below {w w' : World} {φ : Pr} {v : Value} (h : Hs w φ v) (b : Below w.heap.size w w') : Hs w' φ v := h.go (Ev.of_below b) (fun _ _ h => h)

/-! Values of sz cells. -/
def ofCells (sz : Nat) (cs : Array Value) : Value := if sz = 1 then cs.getD 0 undef else .agg cs
/-- The value is one of sz cells. -/
structure Celv (sz : Nat) (u : Value) : Prop where
  of : u = ofCells sz u.cells
  siz : u.cells.size = sz
  one : u.cells.all (·.oneCell') = true
def Cel (sz : Nat) (φ : Pr) : Prop := ∀ u w, φ u w → Celv sz u
theorem celv_inj {sz : Nat} {u u' : Value} (h : Celv sz u) (h' : Celv sz u') (e : u.cells = u'.cells) : u = u' := by rw [h.of, h'.of, e]
theorem celv_agg {cs : Array Value} (h1 : cs.size ≠ 1) (h : cs.all (·.oneCell') = true) : Celv cs.size (.agg cs) := ⟨by simp [ofCells, h1, Value.cells], rfl, h⟩
theorem celv_one {u : Value} (h : u.oneCell' = true) : Celv 1 u := by
  have e : u.cells = #[u] := by cases u <;> first | rfl | simp [Value.oneCell'] at h
  exact ⟨by simp [ofCells, e], by simp [e], by simp [e, h]⟩
theorem cel_shp {n : Nat} {φ : Pr} (h1 : n ≠ 1) (h : Shp n φ) : Cel n φ := fun u w hφ => by
  obtain ⟨cs, rfl, rfl, h2⟩ := h u w hφ
  exact celv_agg h1 h2

/-- A pointer at a value that is so. -/
def AtE (sz : Nat) (φ : Pr) : Pr := fun v w => ∃ b o u, v = .pointer (some ⟨b, o, none⟩) ∧ (∀ (j : Nat) x, u.cells[j]? = some x → w.cell? ⟨b, o + j, none⟩ = some x) ∧ u.cells.size = sz ∧ φ u w
/-- A list of n values, each of sz cells; what is said of each. -/
def Ar (sz n : Nat) (φs : List Pr) : Pr := fun v w => ∃ p c, v = .slice p n c ∧ φs.length = n ∧ (n ≤ c ∧ c ≤ maxLen ∧ (p = none → c = 0)) ∧ ∀ (i : Nat) φ, φs[i]? = some φ → ∃ b o u, p = some ⟨b, o, none⟩ ∧ (∀ (j : Nat) x, u.cells[j]? = some x → w.cell? ⟨b, o + sz * i + j, none⟩ = some x) ∧ u.cells.size = sz ∧ φ u w
theorem ar_len {sz n : Nat} {φs : List Pr} : ∀ v w, Ar sz n φs v w → ∃ p c, v = .slice p n c := fun v w ⟨p, c, e, _⟩ => ⟨p, c, e⟩
theorem ar_imp {sz n : Nat} {φs φs' : List Pr} (hl : φs'.length = φs.length) (h : ∀ (i : Nat) φ φ', φs[i]? = some φ → φs'[i]? = some φ' → ∀ v w, φ v w → φ' v w) : ∀ v w, Ar sz n φs v w → Ar sz n φs' v w := fun v w ⟨p, c, e, l, b, a⟩ =>
  ⟨p, c, e, hl.trans l, b, fun i φ' hφ' => by
    obtain ⟨φ, hφ⟩ : ∃ φ, φs[i]? = some φ := ⟨φs[i]'(by rw [← hl]; exact (List.getElem?_eq_some_iff.1 hφ').1), List.getElem?_eq_getElem _⟩
    obtain ⟨b, o, u, e1, e2, e3, e4⟩ := a i φ hφ
    exact ⟨b, o, u, e1, e2, e3, h i φ φ' hφ hφ' u w e4⟩⟩
theorem ar_nil {sz : Nat} : ∀ w, Ar sz 0 [] (.slice none 0 0) w := fun w => ⟨none, 0, rfl, rfl, ⟨Nat.le_refl _, Nat.zero_le _, fun _ => rfl⟩, fun i φ h => by simp at h⟩

/-- The block that is read is none of those that may turn. -/
theorem not_turned {B : Nat → Prop} {w : World} {b o : Nat} {x : Value} (h : w.cell? ⟨b, o, none⟩ = some x) (hw : ∀ w', Ev B w w' → (w'.cell? ⟨b, o, none⟩).isSome = true) : ¬ B b := fun hB => by
  have hlt := cell_some_block h
  have ev : Ev B w { w with heap := w.heap.setIfInBounds b (.cells #[] 0 (0, 0)) } := ⟨rfl, rfl, rfl, by simp, fun k hk hn => by
    have : b ≠ k := fun e => hn (e ▸ hB)
    simp [Array.getElem?_setIfInBounds, this]⟩
  have := hw _ ev
  have hlt' : b < w.heap.size := hlt
  simp [World.cell?, Array.getElem?_setIfInBounds, hlt'] at this
theorem cell_ev' {B : Nat → Prop} {w w' : World} {a : Addr} {v : Value} (h : w.cell? a = some v) (hB : ¬ B a.block) (e : Ev B w w') : w'.cell? a = some v := by
  have hlt := cell_some_block h
  have hb := e.block a.block hlt hB
  unfold World.cell? at h ⊢
  rw [hb]
  exact h
theorem at_fix {B : Nat → Prop} {w : World} {sz : Nat} {φ : Pr} {v : Value} (hz : 0 < sz) (hc : Cel sz φ) (h : Has B w (AtE sz φ) v) :
    ∃ b o u, v = .pointer (some ⟨b, o, none⟩) ∧ (∀ (j : Nat) x, u.cells[j]? = some x → w.cell? ⟨b, o + j, none⟩ = some x) ∧ Celv sz u ∧ Has B w φ u := by
  obtain ⟨b, o, u, rfl, h1, h2, h3⟩ := h.now
  obtain ⟨x0, hx0⟩ : ∃ x, u.cells[0]? = some x := ⟨u.cells[0]'(by omega), Array.getElem?_eq_getElem _⟩
  have hn : ¬ B b := not_turned (h1 0 x0 hx0) (fun w' e => by
    obtain ⟨b', o', u', e', h1', h2', h3'⟩ := h w' e
    cases e'
    obtain ⟨x', hx'⟩ : ∃ x, u'.cells[0]? = some x := ⟨u'.cells[0]'(by omega), Array.getElem?_eq_getElem _⟩
    rw [h1' 0 x' hx']; rfl)
  refine ⟨b, o, u, rfl, h1, hc u w h3, fun w' e => ?_⟩
  obtain ⟨b', o', u', e', h1', h2', h3'⟩ := h w' e
  cases e'
  have : u' = u := celv_inj (hc _ _ h3') (hc _ _ h3) (by
    apply Array.ext
    · rw [h2, h2']
    · intro i hi hi'
      have a1 := h1 i _ (Array.getElem?_eq_getElem hi')
      have a2 := h1' i _ (Array.getElem?_eq_getElem hi)
      have a3 := cell_ev' a1 hn e
      rw [a3] at a2
      exact (Option.some.inj a2).symm)
  rw [← this]; exact h3'

/-! What the machine does. -/
def Idx (T sz : Nat) : Prop := ∀ (ρ : Operand → Value) (o : Oper) (x y : Operand) (w : World) (b k i n c : Nat), i < n → ρ x = .slice (some ⟨b, k, none⟩) n c → ρ y = .int .i64 (i : Nat) → (execOp ρ { o with op := .indexAddr T x y }).run Tryd.prog w = .ok (.value (.pointer (some ⟨b, k + sz * i, none⟩))) w
def Ldr (E sz : Nat) : Prop := ∀ (ρ : Operand → Value) (o : Oper) (x : Operand) (w : World) (b k : Nat) (u : Value), Celv sz u → (∀ (j : Nat) c, u.cells[j]? = some c → w.cell? ⟨b, k + j, none⟩ = some c) → ρ x = .pointer (some ⟨b, k, none⟩) → (execOp ρ { o with op := .load E x }).run Tryd.prog w = .ok (.value u) w
def Sto (E sz : Nat) : Prop := ∀ (ρ : Operand → Value) (o : Oper) (x y : Operand) (w : World) (b k : Nat) (u : Value), Celv sz u → w.there b k sz → ρ x = .pointer (some ⟨b, k, none⟩) → ρ y = u → (execOp ρ { o with op := .store E x y }).run Tryd.prog w = .ok .skip (w.setCells b k u.cells.toList)
theorem ldr_strct {E n : Nat} (h1 : n ≠ 1) (hT : Strct E n) : Ldr E n := fun ρ o x w b k u hu hc hx => by
  obtain ⟨⟨d, hd1, hd2⟩, hi⟩ := hT
  have e : u = .agg u.cells := by have := hu.of; rw [ofCells, if_neg h1] at this; exact this
  generalize hcs : u.cells = cs at *
  subst e
  unfold execOp
  simp only [hx, Sem.run_bind, run_loadAt_mid (P := Tryd.prog) w b k E cs.toList d (fun j v hv => hc j v (by simpa using hv)) hd1 hd2 (by rw [hi]; have := hu.siz; rw [hcs] at this; simp [this]), Result.andThen_ok, Sem.run_pure]
theorem sto_strct {E n : Nat} (h1 : n ≠ 1) (hT : Strct E n) : Sto E n := fun ρ o x y w b k u hu ht hx hy => by
  obtain ⟨_, hi⟩ := hT
  have e : u = .agg u.cells := by have := hu.of; rw [ofCells, if_neg h1] at this; exact this
  have h2 := hu.siz
  have h3 := hu.one
  generalize hcs : u.cells = cs at *
  subst e
  unfold execOp
  simp only [hx, hy, Sem.run_bind, run_storeAt_mid (P := Tryd.prog) w b k E cs (by rw [h2]; exact ht) (by rw [hi, h2]) h3, Result.andThen_ok, Sem.run_pure]
theorem idx_ints : Idx 23 2 := fun ρ o x y w b k i n c hi hx hy => by
  unfold execOp
  go_simp
theorem ldr_int : Ldr 36 2 := ldr_strct (by decide) strct_int
theorem sto_int : Sto 36 2 := sto_strct (by decide) strct_int

section
variable {ops : Array Oper} {l : List Kd} {bx : Bxs} {sl : List (Tmp × Pr)} {i : Nat} {o : Oper} {Q : Exit → Act → World → Prop} {a0 : Act} {n0 : Nat} {w0 : World}
/-! Elements are read. -/
theorem ar_at {B : Nat → Prop} {w : World} {sz n k : Nat} {φs : List Pr} {φ : Pr} {v : Value} (h : Has B w (Ar sz n φs) v) (he : φs[k]? = some φ) : ∃ b o c, v = .slice (some ⟨b, o, none⟩) n c ∧ k < n ∧ Has B w (AtE sz φ) (.pointer (some ⟨b, o + sz * k, none⟩)) := by
  obtain ⟨p, c, rfl, hl, hb, ha⟩ := h.now
  obtain ⟨b, o', u, rfl, _⟩ := ha k φ he
  refine ⟨b, o', c, rfl, by rw [← hl]; exact (List.getElem?_eq_some_iff.1 he).1, fun w' ev => ?_⟩
  obtain ⟨p', c', e, _, _, ha'⟩ := h w' ev
  obtain ⟨b', o'', u', rfl, h1, h2, h3⟩ := ha' k φ he
  cases e
  exact ⟨b, _, u', rfl, h1, h2, h3⟩
theorem owe_aindex {x y : Operand} {T sz n k : Nat} {φs : List Pr} {φ : Pr} (ho : ops[i]? = some o) (hw : Wants ops l bx sl i o) (hop : o.op = .indexAddr T x y) (hT : Idx T sz) (hx : Opnd ops l bx sl i x (Ar sz n φs)) (hy : Opnd ops l bx sl i y (Is (.int .i64 (k : Nat)))) (he : φs[k]? = some φ) (hk : kdAt l i = .val (AtE sz φ)) : Owed Tryd.prog ops Q l bx sl a0 n0 w0 i :=
  owe_val ho hw hk fun vs B a w cx => by
    have hyv : a.eval y = .int .i64 (k : Nat) := (hy a0 n0 w0 vs B a w cx).now
    obtain ⟨b, o', c, e1, hlt, hat⟩ := ar_at (hx a0 n0 w0 vs B a w cx) he
    refine ⟨_, ?_, hat⟩
    rw [← hT a.eval o x y w b o' k n c hlt e1 hyv]
    unfold execOp
    rw [hop]
theorem owe_aload {x : Operand} {E sz : Nat} {φ : Pr} (ho : ops[i]? = some o) (hw : Wants ops l bx sl i o) (hop : o.op = .load E x) (hE : Ldr E sz) (hz : 0 < sz) (hc : Cel sz φ) (hx : Opnd ops l bx sl i x (AtE sz φ)) (hk : kdAt l i = .val φ) : Owed Tryd.prog ops Q l bx sl a0 n0 w0 i :=
  owe_val ho hw hk fun vs B a w cx => by
    obtain ⟨b, o', u, e1, h1, h2, h3⟩ := at_fix hz hc (hx a0 n0 w0 vs B a w cx)
    refine ⟨u, ?_, h3⟩
    rw [← hE a.eval o x w b o' u h2 h1 e1]
    unfold execOp
    rw [hop]

/-! Calls whose contracts ask that what is handed in stays so. -/
theorem owe_callh1 {ψ : Nat → Pr} {f : FuncId} {x : Operand} {ts : Array TypeId} {φ : Pr} (ho : ops[i]? = some o) (hw : Wants ops l bx sl i o) (hop : o.op = .call { callee := .value (.func f), args := #[x], argTypes := ts }) (hx : Opnd ops l bx sl i x φ) (hF : Fresh ψ) (hk : kdAt l i = .val (ψ w0.heap.size))
    (hcf : ∀ args w, (callFunc f args).run Tryd.prog w = .ok (.enter f args) w) (C : ∀ w u, Hs w φ u → Calls Tryd.prog f #[u] w (Gives ψ w)) : Owed Tryd.prog ops Q l bx sl a0 n0 w0 i :=
  owe_call ho hw hop hF hk hcf fun vs B a w c => by
    rw [show (#[x] : Array Operand).map a.eval = #[a.eval x] from by simp]
    exact C w _ (hx a0 n0 w0 vs B a w c).hs
theorem owe_callh2 {ψ : Nat → Pr} {f : FuncId} {x y : Operand} {ts : Array TypeId} {φ φ' : Pr} (ho : ops[i]? = some o) (hw : Wants ops l bx sl i o) (hop : o.op = .call { callee := .value (.func f), args := #[x, y], argTypes := ts }) (hx : Opnd ops l bx sl i x φ) (hy : Opnd ops l bx sl i y φ') (hF : Fresh ψ) (hk : kdAt l i = .val (ψ w0.heap.size))
    (hcf : ∀ args w, (callFunc f args).run Tryd.prog w = .ok (.enter f args) w) (C : ∀ w u v, Hs w φ u → Hs w φ' v → Calls Tryd.prog f #[u, v] w (Gives ψ w)) : Owed Tryd.prog ops Q l bx sl a0 n0 w0 i :=
  owe_call ho hw hop hF hk hcf fun vs B a w c => by
    rw [show (#[x, y] : Array Operand).map a.eval = #[a.eval x, a.eval y] from by simp]
    exact C w _ _ (hx a0 n0 w0 vs B a w c).hs (hy a0 n0 w0 vs B a w c).hs
theorem owe_callh3 {ψ : Nat → Pr} {f : FuncId} {x y z : Operand} {ts : Array TypeId} {φ φ' φ'' : Pr} (ho : ops[i]? = some o) (hw : Wants ops l bx sl i o) (hop : o.op = .call { callee := .value (.func f), args := #[x, y, z], argTypes := ts }) (hx : Opnd ops l bx sl i x φ) (hy : Opnd ops l bx sl i y φ') (hz : Opnd ops l bx sl i z φ'') (hF : Fresh ψ) (hk : kdAt l i = .val (ψ w0.heap.size))
    (hcf : ∀ args w, (callFunc f args).run Tryd.prog w = .ok (.enter f args) w) (C : ∀ w u v t, Hs w φ u → Hs w φ' v → Hs w φ'' t → Calls Tryd.prog f #[u, v, t] w (Gives ψ w)) : Owed Tryd.prog ops Q l bx sl a0 n0 w0 i :=
  owe_call ho hw hop hF hk hcf fun vs B a w c => by
    rw [show (#[x, y, z] : Array Operand).map a.eval = #[a.eval x, a.eval y, a.eval z] from by simp]
    exact C w _ _ _ (hx a0 n0 w0 vs B a w c).hs (hy a0 n0 w0 vs B a w c).hs (hz a0 n0 w0 vs B a w c).hs
end

/-! Functions as values. -/
/-- What is called with one value of each of these kinds, and what it then gives. -/
def Fn1 (φs : List Pr) (ψs : List (Nat → Pr)) : Pr := fun F w => ∃ f caps, F = .func (.func f) #[] caps ∧ (∀ args w, (callFunc f args).run Tryd.prog w = .ok (.enter f args) w) ∧ ∀ (i : Nat) φ ψ, φs[i]? = some φ → ψs[i]? = some ψ → ∀ u, Hs w φ u → Calls Tryd.prog f (#[u] ++ caps) w (Gives ψ w)
def Fn2 (φs φs' : List Pr) (ψs : List (Nat → Pr)) : Pr := fun F w => ∃ f caps, F = .func (.func f) #[] caps ∧ (∀ args w, (callFunc f args).run Tryd.prog w = .ok (.enter f args) w) ∧ ∀ (i : Nat) φ φ' ψ, φs[i]? = some φ → φs'[i]? = some φ' → ψs[i]? = some ψ → ∀ u v, Hs w φ u → Hs w φ' v → Calls Tryd.prog f (#[u, v] ++ caps) w (Gives ψ w)
theorem is_fn1 {f : FuncId} {φs : List Pr} {ψs : List (Nat → Pr)} (hcf : ∀ args w, (callFunc f args).run Tryd.prog w = .ok (.enter f args) w) (C : ∀ (i : Nat) φ ψ, φs[i]? = some φ → ψs[i]? = some ψ → ∀ w u, Hs w φ u → Calls Tryd.prog f #[u] w (Gives ψ w)) : ∀ v w, Is (.func (.func f) #[] #[]) v w → Fn1 φs ψs v w := fun v w e =>
  ⟨f, #[], e, hcf, fun i φ ψ h1 h2 u hu => by simpa using C i φ ψ h1 h2 w u hu⟩
theorem is_fn2 {f : FuncId} {φs φs' : List Pr} {ψs : List (Nat → Pr)} (hcf : ∀ args w, (callFunc f args).run Tryd.prog w = .ok (.enter f args) w) (C : ∀ (i : Nat) φ φ' ψ, φs[i]? = some φ → φs'[i]? = some φ' → ψs[i]? = some ψ → ∀ w u v, Hs w φ u → Hs w φ' v → Calls Tryd.prog f #[u, v] w (Gives ψ w)) : ∀ v w, Is (.func (.func f) #[] #[]) v w → Fn2 φs φs' ψs v w := fun v w e =>
  ⟨f, #[], e, hcf, fun i φ φ' ψ h1 h2 h3 u u' hu hu' => by simpa using C i φ φ' ψ h1 h2 h3 w u u' hu hu'⟩
section
variable {ops : Array Oper} {l : List Kd} {bx : Bxs} {sl : List (Tmp × Pr)} {i : Nat} {o : Oper} {Q : Exit → Act → World → Prop} {a0 : Act} {n0 : Nat} {w0 : World}
theorem opnd_func (f : FuncId) : Opnd ops l bx sl i (.func f) (Is (.func (.func f) #[] #[])) := fun a0 n w0 vs B a w c w' e => rfl
/-- A call through a value. -/
theorem owe_callv {ψ : Nat → Pr} {x : Operand} {xs : Array Operand} {ts : Array TypeId} (ho : ops[i]? = some o) (hw : Wants ops l bx sl i o) (hop : o.op = .call { callee := .value x, args := xs, argTypes := ts }) (hF : Fresh ψ) (hk : kdAt l i = .val (ψ w0.heap.size))
    (h : ∀ vs B a w, Ctx ops l bx sl a0 n0 w0 i vs B a w → ∃ f caps, a.eval x = .func (.func f) #[] caps ∧ (∀ args w, (callFunc f args).run Tryd.prog w = .ok (.enter f args) w) ∧ Calls Tryd.prog f (xs.map a.eval ++ caps) w (Gives ψ w)) : Owed Tryd.prog ops Q l bx sl a0 n0 w0 i := fun vs B a w c o' ho' => by
  obtain rfl : o = o' := Option.some.inj (ho.symm.trans ho')
  obtain ⟨f, caps, hf, hcf, hC⟩ := h vs B a w c
  have hr : (execOp a.eval o).run Tryd.prog w = .ok (.enter f (xs.map a.eval ++ caps)) w := by
    unfold execOp
    rw [hop]
    generalize hxs : xs.map a.eval = ys
    simp only [resolve, hxs, hf]
    clear hxs hC h c
    go_simp
  simp only [wpOp, ho]
  rw [if_pos (hw a0 n0 w0 vs B a w c)]
  refine Or.inl ?_
  unfold Oper.wp
  rw [hr, Oper.upon_enter]
  refine hC.mono ?_
  rintro e w' ⟨v, rfl, hb, hψ⟩
  refine ⟨v, rfl, ?_⟩
  rw [hk]
  exact ⟨hb, fun w'' e'' => hF.mono _ _ _ _ c.lo (hF.ev _ _ _ _ B (fun k hk => (c.bnd k hk).2) hψ e'')⟩
theorem owe_callv1 {ψ : Nat → Pr} {x y : Operand} {ts : Array TypeId} {φs : List Pr} {ψs : List (Nat → Pr)} {φ : Pr} (k : Nat) (ho : ops[i]? = some o) (hw : Wants ops l bx sl i o) (hop : o.op = .call { callee := .value x, args := #[y], argTypes := ts }) (hx : Opnd ops l bx sl i x (Fn1 φs ψs)) (h1 : φs[k]? = some φ) (h2 : ψs[k]? = some ψ) (hy : Opnd ops l bx sl i y φ) (hF : Fresh ψ) (hk : kdAt l i = .val (ψ w0.heap.size)) : Owed Tryd.prog ops Q l bx sl a0 n0 w0 i :=
  owe_callv ho hw hop hF hk fun vs B a w c => by
    obtain ⟨f, caps, e, hcf, hC⟩ := (hx a0 n0 w0 vs B a w c).now
    exact ⟨f, caps, e, hcf, by simpa using hC k φ ψ h1 h2 _ (hy a0 n0 w0 vs B a w c).hs⟩
theorem owe_callv2 {ψ : Nat → Pr} {x y z : Operand} {ts : Array TypeId} {φs φs' : List Pr} {ψs : List (Nat → Pr)} {φ φ' : Pr} (k : Nat) (ho : ops[i]? = some o) (hw : Wants ops l bx sl i o) (hop : o.op = .call { callee := .value x, args := #[y, z], argTypes := ts }) (hx : Opnd ops l bx sl i x (Fn2 φs φs' ψs)) (h1 : φs[k]? = some φ) (h2 : φs'[k]? = some φ') (h3 : ψs[k]? = some ψ) (hy : Opnd ops l bx sl i y φ) (hz : Opnd ops l bx sl i z φ') (hF : Fresh ψ) (hk : kdAt l i = .val (ψ w0.heap.size)) : Owed Tryd.prog ops Q l bx sl a0 n0 w0 i :=
  owe_callv ho hw hop hF hk fun vs B a w c => by
    obtain ⟨f, caps, e, hcf, hC⟩ := (hx a0 n0 w0 vs B a w c).now
    exact ⟨f, caps, e, hcf, by simpa using hC k φ φ' ψ h1 h2 h3 _ _ (hy a0 n0 w0 vs B a w c).hs (hz a0 n0 w0 vs B a w c).hs⟩
/-- A closure is made. -/
theorem owe_mkfn1 {f : FuncId} {x : Operand} {χ : Pr} {φs : List Pr} {ψs : List (Nat → Pr)} (ho : ops[i]? = some o) (hw : Wants ops l bx sl i o) (hop : o.op = .makeFunc (.func f) #[] #[x]) (hx : Opnd ops l bx sl i x χ) (hk : kdAt l i = .val (Fn1 φs ψs))
    (hcf : ∀ args w, (callFunc f args).run Tryd.prog w = .ok (.enter f args) w) (C : ∀ (i : Nat) φ ψ, φs[i]? = some φ → ψs[i]? = some ψ → ∀ w u c, Hs w φ u → Hs w χ c → Calls Tryd.prog f #[u, c] w (Gives ψ w)) : Owed Tryd.prog ops Q l bx sl a0 n0 w0 i :=
  owe_val ho hw hk fun vs B a w c => by
    have h := hx a0 n0 w0 vs B a w c
    refine ⟨.func (.func f) #[] #[a.eval x], ?_, fun w' e => ⟨f, #[a.eval x], rfl, hcf, fun i φ ψ h1 h2 u hu => ?_⟩⟩
    · unfold execOp
      rw [hop]
      generalize a.eval = ρ
      go_simp
    · simpa using C i φ ψ h1 h2 w' u _ hu (h.go e (fun _ _ h => h)).hs
theorem owe_mkfn2 {f : FuncId} {x : Operand} {χ : Pr} {φs φs' : List Pr} {ψs : List (Nat → Pr)} (ho : ops[i]? = some o) (hw : Wants ops l bx sl i o) (hop : o.op = .makeFunc (.func f) #[] #[x]) (hx : Opnd ops l bx sl i x χ) (hk : kdAt l i = .val (Fn2 φs φs' ψs))
    (hcf : ∀ args w, (callFunc f args).run Tryd.prog w = .ok (.enter f args) w) (C : ∀ (i : Nat) φ φ' ψ, φs[i]? = some φ → φs'[i]? = some φ' → ψs[i]? = some ψ → ∀ w u v c, Hs w φ u → Hs w φ' v → Hs w χ c → Calls Tryd.prog f #[u, v, c] w (Gives ψ w)) : Owed Tryd.prog ops Q l bx sl a0 n0 w0 i :=
  owe_val ho hw hk fun vs B a w c => by
    have h := hx a0 n0 w0 vs B a w c
    refine ⟨.func (.func f) #[] #[a.eval x], ?_, fun w' e => ⟨f, #[a.eval x], rfl, hcf, fun i φ φ' ψ h1 h2 h3 u v hu hv => ?_⟩⟩
    · unfold execOp
      rw [hop]
      generalize a.eval = ρ
      go_simp
    · simpa using C i φ φ' ψ h1 h2 h3 w' u v _ hu hv (h.go e (fun _ _ h => h)).hs
end
end Go.Proofs.YtdhjgekbocnnkaaDoor
