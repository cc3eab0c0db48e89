import Derived.Test.YtnhfpekpdephjaaGreatSetQ
/-
 Calls that turn what their caller owns: the way in, the way out, and how the caller goes on.
-/
namespace Go.Proofs.YtnhfpekpdephjaaGreat
open Go Go.RowKit Nt
set_option linter.unusedSimpArgs false
set_option linter.unusedVariables false
set_option maxRecDepth 20000

section
variable {ops : Array Oper} {l : List Kd} {bx : Bxs} {sl : List (Tmp × Pr)} {i : Nat} {o : Oper} {Q : Exit → Act → World → Prop} {a0 : Act} {n : Nat} {w0 : World}
end

/-! A statement whose order is fixed, operation by operation. -/
section
variable {P : Program} {ops : Array Oper} {Q : Exit → Act → World → Prop} {a : Act} {W W' : World} {rest : List Oper} {o : Oper}
end
section
variable {w0 W W' : World} {n : Nat} {bx : Bxs} {sl : List (Tmp × Pr)} {B : Nat → Prop} {a : Act}
theorem Sta.put (S : Sta w0 n bx sl B a W) {d : Tmp} {v : Value} {φ : Pr} (hd : d < n) (hφ : Has B W φ v) (bx' : Bxs) (sl' : List (Tmp × Pr)) (hb : ∀ x ∈ bx', x ∈ bx ∧ x.1 ≠ d) (hs : ∀ x ∈ sl', x ∈ sl ∧ x.1 ≠ d) : Sta w0 n bx' ((d, φ) :: sl') B (a.put (some d) v) W := by
 have ev : ∀ t, t ≠ d → (a.put (some d) v).eval (.tmp t) = a.eval (.tmp t) := fun t ht => Act.eval_put (fun d' hd' e => by
  cases hd'
  simp at e
  first | exact ht e | exact ht e.symm)
 have self : (a.put (some d) v).eval (.tmp d) = v := by
  have : d < a.tmps.size := by rw [S.siz]; exact hd
  simp [Act.eval, Act.put, this]
 refine ⟨S.ent, S.bnd, by rw [put_size]; exact S.siz, by rw [put_defers']; exact S.dfr, fun x hx => ?_, fun x hx y hy b h1 h2 => ?_, fun x hx => ?_⟩
 ·rw [ev _ (hb x hx).2]
  exact S.box x (hb x hx).1
 ·rw [ev _ (hb x hx).2] at h1
  rw [ev _ (hb y hy).2] at h2
  exact S.sep x (hb x hx).1 y (hb y hy).1 b h1 h2
 ·rcases List.mem_cons.1 hx with rfl | hx
  ·rw [self]; exact hφ
  ·rw [ev _ (hs x hx).2]
   exact S.slt x (hs x hx).1
theorem Ev.mono {B B' : Nat → Prop} {w w' : World} (e : Ev B w w') (h : ∀ k, B k → B' k) : Ev B' w w' := ⟨e.os, e.tape, e.output, e.size, fun k hk hn => e.block k hk (fun hb => hn (h k hb))⟩
/-- Behind a call that turned things of the caller's own. -/
theorem Sta.turn (S : Sta w0 n bx sl B a W) {Sx : Nat → Prop} (e : Ev Sx W W') (hS : ∀ k, Sx k → B k) (bx' : Bxs) (h : ∀ x ∈ bx', (∃ r, (x.1, r) ∈ bx) ∧ x.2.at w0.heap.size B W' (a.eval (.tmp x.1))) (hpl : bx.all (fun x => x.2.plain) = true := by rfl) (hpl' : bx'.all (fun x => x.2.plain) = true := by rfl) : Sta w0 n bx' sl B a W' := by
 have eB : Ev B W W' := e.mono hS
 refine ⟨?_, fun k hk => ⟨(S.bnd k hk).1, Nat.lt_of_lt_of_le (S.bnd k hk).2 e.size⟩, S.siz, S.dfr, fun x hx => (h x hx).2, fun x hx y hy b h1 h2 => ?_, fun x hx => (S.slt x hx).go eB (fun _ _ h => h)⟩
 ·refine ⟨e.os.trans S.ent.os, e.tape.trans S.ent.tape, e.output.trans S.ent.output, Nat.le_trans S.ent.size e.size, fun k hk => ?_⟩
  have hk' : k < W.heap.size := Nat.lt_of_lt_of_le hk S.ent.size
  exact (eB.block k hk' (fun hb => by have := (S.bnd k hb).1; omega)).trans (S.ent.block k hk)
 ·obtain ⟨r, hr⟩ := (h x hx).1
  obtain ⟨r', hr'⟩ := (h y hy).1
  have p1 := List.all_eq_true.1 hpl _ hr
  have p2 := List.all_eq_true.1 hpl _ hr'
  have q1 := List.all_eq_true.1 hpl' x hx
  have q2 := List.all_eq_true.1 hpl' y hy
  exact S.sep (x.1, r) hr (y.1, r') hr' b ((Rk.set_plain p1 _ _).2 ((Rk.set_plain q1 _ _).1 h1)) ((Rk.set_plain p2 _ _).2 ((Rk.set_plain q2 _ _).1 h2))
end
end Go.Proofs.YtnhfpekpdephjaaGreat

/-
 Lists by what is said of their elements: read, made, written in place, handed on; functions as values.
-/
namespace Go.Proofs.YtnhfpekpdephjaaGreat
open Go Go.RowKit Nt
set_option linter.unusedSimpArgs false
set_option linter.unusedVariables false
set_option maxRecDepth 20000

/-- It holds, whatever is made beside it. -/
abbrev Hs (w : World) (φ : Pr) (v : Value) : Prop := Has (fun _ => False) w φ v
theorem Has.hs {B : Nat → Prop} {w : World} {φ : Pr} {v : Value} (h : Has B w φ v) : Hs w φ v := fun w' e => h w' (e.mono (fun _ h => h.elim))
theorem Hs.below {w w' : World} {φ : Pr} {v : Value} (h : Hs w φ v) (b : Below w.heap.size w w') : Hs w' φ v := h.go (Ev.of_below b) (fun _ _ h => h)

/-! Values of sz cells. -/
def ofCells (sz : Nat) (cs : Array Value) : Value := if sz = 1 then cs.getD 0 undef else .agg cs
/-- The value is one of sz cells. -/
structure Celv (sz : Nat) (u : Value) : Prop where
 of : u = ofCells sz u.cells
 siz : u.cells.size = sz
 one : u.cells.all (·.oneCell') = true
def Cel (sz : Nat) (φ : Pr) : Prop := ∀ u w, φ u w → Celv sz u
theorem celv_inj {sz : Nat} {u u' : Value} (h : Celv sz u) (h' : Celv sz u') (e : u.cells = u'.cells) : u = u' := by rw [h.of, h'.of, e]
theorem celv_agg {cs : Array Value} (h1 : cs.size ≠ 1) (h : cs.all (·.oneCell') = true) : Celv cs.size (.agg cs) := ⟨by simp [ofCells, h1, Value.cells], rfl, h⟩
theorem celv_one {u : Value} (h : u.oneCell' = true) : Celv 1 u := by
 have e : u.cells = #[u] := by cases u <;> first | rfl | simp [Value.oneCell'] at h
 exact ⟨by simp [ofCells, e], by simp [e], by simp [e, h]⟩
theorem cel_shp {n : Nat} {φ : Pr} (h1 : n ≠ 1) (h : Shp n φ) : Cel n φ := fun u w hφ => by
 obtain ⟨cs, rfl, rfl, h2⟩ := h u w hφ
 exact celv_agg h1 h2

/-- A pointer at a value that is so. -/
def AtE (sz : Nat) (φ : Pr) : Pr := fun v w => ∃ b o u, v = .pointer (some ⟨b, o, none⟩) ∧ (∀ (j : Nat) x, u.cells[j]? = some x → w.cell? ⟨b, o + j, none⟩ = some x) ∧ u.cells.size = sz ∧ φ u w
/-- A list of n values, each of sz cells; what is said of each. -/
def Ar (sz n : Nat) (φs : List Pr) : Pr := fun v w => ∃ p c, v = .slice p n c ∧ φs.length = n ∧ (n ≤ c ∧ c ≤ maxLen ∧ (p = none → c = 0)) ∧ ∀ (i : Nat) φ, φs[i]? = some φ → ∃ b o u, p = some ⟨b, o, none⟩ ∧ (∀ (j : Nat) x, u.cells[j]? = some x → w.cell? ⟨b, o + sz * i + j, none⟩ = some x) ∧ u.cells.size = sz ∧ φ u w
theorem ar_len {sz n : Nat} {φs : List Pr} : ∀ v w, Ar sz n φs v w → ∃ p c, v = .slice p n c := fun v w ⟨p, c, e, _⟩ => ⟨p, c, e⟩
theorem ar_imp {sz n : Nat} {φs φs' : List Pr} (hl : φs'.length = φs.length) (h : ∀ (i : Nat) φ φ', φs[i]? = some φ → φs'[i]? = some φ' → ∀ v w, φ v w → φ' v w) : ∀ v w, Ar sz n φs v w → Ar sz n φs' v w := fun v w ⟨p, c, e, l, b, a⟩ =>
 ⟨p, c, e, hl.trans l, b, fun i φ' hφ' => by
  obtain ⟨φ, hφ⟩ : ∃ φ, φs[i]? = some φ := ⟨φs[i]'(by rw [← hl]; exact (List.getElem?_eq_some_iff.1 hφ').1), List.getElem?_eq_getElem _⟩
  obtain ⟨b, o, u, e1, e2, e3, e4⟩ := a i φ hφ
  exact ⟨b, o, u, e1, e2, e3, h i φ φ' hφ hφ' u w e4⟩⟩
/-- The block that is read is none of those that may turn. -/
theorem not_turned {B : Nat → Prop} {w : World} {b o : Nat} {x : Value} (h : w.cell? ⟨b, o, none⟩ = some x) (hw : ∀ w', Ev B w w' → (w'.cell? ⟨b, o, none⟩).isSome = true) : ¬ B b := fun hB => by
 have hlt := cell_some_block h
 have ev : Ev B w { w with heap := w.heap.setIfInBounds b (.cells #[] 0 (0, 0)) } := ⟨rfl, rfl, rfl, by simp, fun k hk hn => by
  have : b ≠ k := fun e => hn (e ▸ hB)
  simp [Array.getElem?_setIfInBounds, this]⟩
 have := hw _ ev
 have hlt' : b < w.heap.size := hlt
 simp [World.cell?, Array.getElem?_setIfInBounds, hlt'] at this
theorem cell_ev' {B : Nat → Prop} {w w' : World} {a : Addr} {v : Value} (h : w.cell? a = some v) (hB : ¬ B a.block) (e : Ev B w w') : w'.cell? a = some v := by
 have hlt := cell_some_block h
 have hb := e.block a.block hlt hB
 unfold World.cell? at h ⊢
 rw [hb]
 exact h
theorem at_fix {B : Nat → Prop} {w : World} {sz : Nat} {φ : Pr} {v : Value} (hz : 0 < sz) (hc : Cel sz φ) (h : Has B w (AtE sz φ) v) :
  ∃ b o u, v = .pointer (some ⟨b, o, none⟩) ∧ (∀ (j : Nat) x, u.cells[j]? = some x → w.cell? ⟨b, o + j, none⟩ = some x) ∧ Celv sz u ∧ Has B w φ u := by
 obtain ⟨b, o, u, rfl, h1, h2, h3⟩ := h.now
 obtain ⟨x0, hx0⟩ : ∃ x, u.cells[0]? = some x := ⟨u.cells[0]'(by omega), Array.getElem?_eq_getElem _⟩
 have hn : ¬ B b := not_turned (h1 0 x0 hx0) (fun w' e => by
  obtain ⟨b', o', u', e', h1', h2', h3'⟩ := h w' e
  cases e'
  obtain ⟨x', hx'⟩ : ∃ x, u'.cells[0]? = some x := ⟨u'.cells[0]'(by omega), Array.getElem?_eq_getElem _⟩
  rw [h1' 0 x' hx']; rfl)
 refine ⟨b, o, u, rfl, h1, hc u w h3, fun w' e => ?_⟩
 obtain ⟨b', o', u', e', h1', h2', h3'⟩ := h w' e
 cases e'
 have : u' = u := celv_inj (hc _ _ h3') (hc _ _ h3) (by
  apply Array.ext
  ·rw [h2, h2']
  ·intro i hi hi'
   have a1 := h1 i _ (Array.getElem?_eq_getElem hi')
   have a2 := h1' i _ (Array.getElem?_eq_getElem hi)
   have a3 := cell_ev' a1 hn e
   rw [a3] at a2
   exact (Option.some.inj a2).symm)
 rw [← this]; exact h3'

/-! What the machine does. -/
def Idx (T sz : Nat) : Prop := ∀ (ρ : Operand → Value) (o : Oper) (x y : Operand) (w : World) (b k i n c : Nat), i < n → ρ x = .slice (some ⟨b, k, none⟩) n c → ρ y = .int .i64 (i : Nat) → (execOp ρ { o with op := .indexAddr T x y }).run Tryz.prog w = .ok (.value (.pointer (some ⟨b, k + sz * i, none⟩))) w
def Ldr (E sz : Nat) : Prop := ∀ (ρ : Operand → Value) (o : Oper) (x : Operand) (w : World) (b k : Nat) (u : Value), Celv sz u → (∀ (j : Nat) c, u.cells[j]? = some c → w.cell? ⟨b, k + j, none⟩ = some c) → ρ x = .pointer (some ⟨b, k, none⟩) → (execOp ρ { o with op := .load E x }).run Tryz.prog w = .ok (.value u) w
theorem ldr_strct {E n : Nat} (h1 : n ≠ 1) (hT : Strct E n) : Ldr E n := fun ρ o x w b k u hu hc hx => by
 obtain ⟨⟨d, hd1, hd2⟩, hi⟩ := hT
 have e : u = .agg u.cells := by have := hu.of; rw [ofCells, if_neg h1] at this; exact this
 generalize hcs : u.cells = cs at *
 subst e
 unfold execOp
 simp only [hx, Sem.run_bind, run_loadAt_mid (P := Tryz.prog) w b k E cs.toList d (fun j v hv => hc j v (by simpa using hv)) hd1 hd2 (by rw [hi]; have := hu.siz; rw [hcs] at this; simp [this]), Result.andThen_ok, Sem.run_pure]
theorem idx_ints : Idx 27 2 := fun ρ o x y w b k i n c hi hx hy => by
 unfold execOp
 go_simp
theorem ldr_int : Ldr 33 2 := ldr_strct (by decide) strct_int
section
variable {ops : Array Oper} {l : List Kd} {bx : Bxs} {sl : List (Tmp × Pr)} {i : Nat} {o : Oper} {Q : Exit → Act → World → Prop} {a0 : Act} {n0 : Nat} {w0 : World}
/-! Elements are read. -/
theorem ar_at {B : Nat → Prop} {w : World} {sz n k : Nat} {φs : List Pr} {φ : Pr} {v : Value} (h : Has B w (Ar sz n φs) v) (he : φs[k]? = some φ) : ∃ b o c, v = .slice (some ⟨b, o, none⟩) n c ∧ k < n ∧ Has B w (AtE sz φ) (.pointer (some ⟨b, o + sz * k, none⟩)) := by
 obtain ⟨p, c, rfl, hl, hb, ha⟩ := h.now
 obtain ⟨b, o', u, rfl, _⟩ := ha k φ he
 refine ⟨b, o', c, rfl, by rw [← hl]; exact (List.getElem?_eq_some_iff.1 he).1, fun w' ev => ?_⟩
 obtain ⟨p', c', e, _, _, ha'⟩ := h w' ev
 obtain ⟨b', o'', u', rfl, h1, h2, h3⟩ := ha' k φ he
 cases e
 exact ⟨b, _, u', rfl, h1, h2, h3⟩
theorem owe_aindex {x y : Operand} {T sz n k : Nat} {φs : List Pr} {φ : Pr} (ho : ops[i]? = some o) (hw : Wants ops l bx sl i o) (hop : o.op = .indexAddr T x y) (hT : Idx T sz) (hx : Opnd ops l bx sl i x (Ar sz n φs)) (hy : Opnd ops l bx sl i y (iV (k : Nat))) (he : φs[k]? = some φ) (hk : kdAt l i = .val (AtE sz φ)) : Owed Tryz.prog ops Q l bx sl a0 n0 w0 i :=
 owe_val ho hw hk fun vs B a w cx => by
  have hyv : a.eval y = .int .i64 (k : Nat) := (hy a0 n0 w0 vs B a w cx).now
  obtain ⟨b, o', c, e1, hlt, hat⟩ := ar_at (hx a0 n0 w0 vs B a w cx) he
  refine ⟨_, ?_, hat⟩
  rw [← hT a.eval o x y w b o' k n c hlt e1 hyv]
  unfold execOp
  rw [hop]
theorem owe_aload {x : Operand} {E sz : Nat} {φ : Pr} (ho : ops[i]? = some o) (hw : Wants ops l bx sl i o) (hop : o.op = .load E x) (hE : Ldr E sz) (hz : 0 < sz) (hc : Cel sz φ) (hx : Opnd ops l bx sl i x (AtE sz φ)) (hk : kdAt l i = .val φ) : Owed Tryz.prog ops Q l bx sl a0 n0 w0 i :=
 owe_val ho hw hk fun vs B a w cx => by
  obtain ⟨b, o', u, e1, h1, h2, h3⟩ := at_fix hz hc (hx a0 n0 w0 vs B a w cx)
  refine ⟨u, ?_, h3⟩
  rw [← hE a.eval o x w b o' u h2 h1 e1]
  unfold execOp
  rw [hop]

/-! Calls whose contracts ask that what is handed in stays so. -/
theorem owe_callh1 {ψ : Nat → Pr} {f : FuncId} {x : Operand} {ts : Array TypeId} {φ : Pr} (ho : ops[i]? = some o) (hw : Wants ops l bx sl i o) (hop : o.op = .call { callee := .value (.func f), args := #[x], argTypes := ts }) (hx : Opnd ops l bx sl i x φ) (hF : Fresh ψ) (hk : kdAt l i = .val (ψ w0.heap.size))
  (hcf : ∀ args w, (callFunc f args).run Tryz.prog w = .ok (.enter f args) w) (C : ∀ w u, Hs w φ u → CG f #[u] w ψ) : Owed Tryz.prog ops Q l bx sl a0 n0 w0 i :=
 owe_call ho hw hop hF hk hcf fun vs B a w c => by
  rw [show (#[x] : Array Operand).map a.eval = #[a.eval x] from by simp]
  exact C w _ (hx a0 n0 w0 vs B a w c).hs
theorem owe_callh2 {ψ : Nat → Pr} {f : FuncId} {x y : Operand} {ts : Array TypeId} {φ φ' : Pr} (ho : ops[i]? = some o) (hw : Wants ops l bx sl i o) (hop : o.op = .call { callee := .value (.func f), args := #[x, y], argTypes := ts }) (hx : Opnd ops l bx sl i x φ) (hy : Opnd ops l bx sl i y φ') (hF : Fresh ψ) (hk : kdAt l i = .val (ψ w0.heap.size))
  (hcf : ∀ args w, (callFunc f args).run Tryz.prog w = .ok (.enter f args) w) (C : ∀ w u v, Hs w φ u → Hs w φ' v → CG f #[u, v] w ψ) : Owed Tryz.prog ops Q l bx sl a0 n0 w0 i :=
 owe_call ho hw hop hF hk hcf fun vs B a w c => by
  rw [show (#[x, y] : Array Operand).map a.eval = #[a.eval x, a.eval y] from by simp]
  exact C w _ _ (hx a0 n0 w0 vs B a w c).hs (hy a0 n0 w0 vs B a w c).hs
theorem owe_callh3 {ψ : Nat → Pr} {f : FuncId} {x y z : Operand} {ts : Array TypeId} {φ φ' φ'' : Pr} (ho : ops[i]? = some o) (hw : Wants ops l bx sl i o) (hop : o.op = .call { callee := .value (.func f), args := #[x, y, z], argTypes := ts }) (hx : Opnd ops l bx sl i x φ) (hy : Opnd ops l bx sl i y φ') (hz : Opnd ops l bx sl i z φ'') (hF : Fresh ψ) (hk : kdAt l i = .val (ψ w0.heap.size))
  (hcf : ∀ args w, (callFunc f args).run Tryz.prog w = .ok (.enter f args) w) (C : ∀ w u v t, Hs w φ u → Hs w φ' v → Hs w φ'' t → CG f #[u, v, t] w ψ) : Owed Tryz.prog ops Q l bx sl a0 n0 w0 i :=
 owe_call ho hw hop hF hk hcf fun vs B a w c => by
  rw [show (#[x, y, z] : Array Operand).map a.eval = #[a.eval x, a.eval y, a.eval z] from by simp]
  exact C w _ _ _ (hx a0 n0 w0 vs B a w c).hs (hy a0 n0 w0 vs B a w c).hs (hz a0 n0 w0 vs B a w c).hs
end

section
variable {ops : Array Oper} {l : List Kd} {bx : Bxs} {sl : List (Tmp × Pr)} {i : Nat} {o : Oper} {Q : Exit → Act → World → Prop} {a0 : Act} {n0 : Nat} {w0 : World}
end

section
variable {ops : Array Oper} {l : List Kd} {bx : Bxs} {sl : List (Tmp × Pr)} {i : Nat} {o : Oper} {Q : Exit → Act → World → Prop} {a0 : Act} {n : Nat} {w0 : World}
theorem ch1 {ψ : Nat → Pr} {f : FuncId} {x : Operand} {ts : Array TypeId} {φ : Pr} (hw : Wants ops l bx sl i o) (hx : Opnd ops l bx sl i x φ) (hF : Fresh ψ) (C : ∀ w u, Hs w φ u → Calls Tryz.prog f #[u] w (Gives ψ w)) (ho : ops[i]? = some o := by exact rfl) (hop : o.op = .call { callee := .value (.func f), args := #[x], argTypes := ts } := by exact rfl) (hk : kdAt l i = .val (ψ w0.heap.size) := by exact rfl) (hcf : ∀ args w, (callFunc f args).run Tryz.prog w = .ok (.enter f args) w := by intro args w; go_simp) : Owed Tryz.prog ops Q l bx sl a0 n w0 i := owe_callh1 ho hw hop hx hF hk hcf C
theorem ch2 {ψ : Nat → Pr} {f : FuncId} {x y : Operand} {ts : Array TypeId} {φ φ' : Pr} (hw : Wants ops l bx sl i o) (hx : Opnd ops l bx sl i x φ) (hy : Opnd ops l bx sl i y φ') (hF : Fresh ψ) (C : ∀ w u v, Hs w φ u → Hs w φ' v → Calls Tryz.prog f #[u, v] w (Gives ψ w)) (ho : ops[i]? = some o := by exact rfl) (hop : o.op = .call { callee := .value (.func f), args := #[x, y], argTypes := ts } := by exact rfl) (hk : kdAt l i = .val (ψ w0.heap.size) := by exact rfl) (hcf : ∀ args w, (callFunc f args).run Tryz.prog w = .ok (.enter f args) w := by intro args w; go_simp) : Owed Tryz.prog ops Q l bx sl a0 n w0 i := owe_callh2 ho hw hop hx hy hF hk hcf C
theorem ch3 {ψ : Nat → Pr} {f : FuncId} {x y z : Operand} {ts : Array TypeId} {φ φ' φ'' : Pr} (hw : Wants ops l bx sl i o) (hx : Opnd ops l bx sl i x φ) (hy : Opnd ops l bx sl i y φ') (hz : Opnd ops l bx sl i z φ'') (hF : Fresh ψ) (C : ∀ w u v t, Hs w φ u → Hs w φ' v → Hs w φ'' t → Calls Tryz.prog f #[u, v, t] w (Gives ψ w)) (ho : ops[i]? = some o := by exact rfl) (hop : o.op = .call { callee := .value (.func f), args := #[x, y, z], argTypes := ts } := by exact rfl) (hk : kdAt l i = .val (ψ w0.heap.size) := by exact rfl) (hcf : ∀ args w, (callFunc f args).run Tryz.prog w = .ok (.enter f args) w := by intro args w; go_simp) : Owed Tryz.prog ops Q l bx sl a0 n w0 i := owe_callh3 ho hw hop hx hy hz hF hk hcf C
end
section
variable {ops : Array Oper} {l : List Kd} {bx : Bxs} {sl : List (Tmp × Pr)} {i : Nat} {o : Oper} {Q : Exit → Act → World → Prop} {a0 : Act} {n : Nat} {w0 : World}
theorem lnA {x : Operand} {T E L sz : Nat} {φs : List Pr} (hw : Wants ops l bx sl i o) (hx : Opnd ops l bx sl i x (Ar sz L φs)) (hT : Tryz.prog.underlying T = some (.slice E)) (ho : ops[i]? = some o := by exact rfl) (hop : o.op = .call { callee := .builtin .len, args := #[x], argTypes := #[T] } := by exact rfl) (hk : kdAt l i = .val (Is (.int .i64 L)) := by exact rfl) : Owed Tryz.prog ops Q l bx sl a0 n w0 i := owe_len ho hw hop hx ar_len hT hk
theorem alA {x : Operand} {E sz : Nat} {φ : Pr} (hw : Wants ops l bx sl i o) (hE : Ldr E sz) (hc : Cel sz φ) (hx : Opnd ops l bx sl i x (AtE sz φ)) (hz : 0 < sz := by decide) (ho : ops[i]? = some o := by exact rfl) (hop : o.op = .load E x := by exact rfl) (hk : kdAt l i = .val φ := by exact rfl) : Owed Tryz.prog ops Q l bx sl a0 n w0 i := owe_aload ho hw hop hE hz hc hx hk
theorem alC {x : Operand} {E sz : Nat} {φ : Pr} (hw : Wants ops l bx sl i o) (hE : Ldr E sz) (hc : Shp sz φ) (hx : Opnd ops l bx sl i x (AtE sz φ)) (hz : 0 < sz := by decide) (h1 : sz ≠ 1 := by decide) (ho : ops[i]? = some o := by exact rfl) (hop : o.op = .load E x := by exact rfl) (hk : kdAt l i = .val φ := by exact rfl) : Owed Tryz.prog ops Q l bx sl a0 n w0 i := owe_aload ho hw hop hE hz (cel_shp h1 hc) hx hk
theorem axA {x y : Operand} {T sz m k : Nat} {φs : List Pr} {φ : Pr} (hw : Wants ops l bx sl i o) (hT : Idx T sz) (hx : Opnd ops l bx sl i x (Ar sz m φs)) (hy : Opnd ops l bx sl i y (Is (.int .i64 (k : Nat)))) (he : φs[k]? = some φ) (hk : kdAt l i = .val (AtE sz φ)) (ho : ops[i]? = some o := by exact rfl) (hop : o.op = .indexAddr T x y := by exact rfl) : Owed Tryz.prog ops Q l bx sl a0 n w0 i := owe_aindex ho hw hop hT hx hy he hk
end
end Go.Proofs.YtnhfpekpdephjaaGreat

/-
 Rows of a call's own, by what is said of their elements: made, written in place, read, handed on.
-/
namespace Go.Proofs.YtnhfpekpdephjaaGreat
open Go Go.RowKit Nt
set_option linter.unusedSimpArgs false
set_option linter.unusedVariables false
set_option maxRecDepth 20000

/-- The cells of these values, one behind the other. -/
def cellsOf (us : List Value) : List Value := us.flatMap (·.cells.toList)
theorem cellsOf_len {sz : Nat} : ∀ {us : List Value}, (∀ u ∈ us, Celv sz u) → (cellsOf us).length = us.length * sz
 | [], _ => by simp [cellsOf]
 | u :: r, h => by
  have h1 := (h u (by simp)).siz
  have h2 := cellsOf_len (us := r) (fun v hv => h v (by simp [hv]))
  have e : cellsOf (u :: r) = u.cells.toList ++ cellsOf r := rfl
  rw [e, List.length_append, h2]
  simp only [Array.length_toList, h1, List.length_cons, Nat.add_mul, Nat.one_mul]
  omega
theorem cellsOf_append (us vs : List Value) : cellsOf (us ++ vs) = cellsOf us ++ cellsOf vs := by simp [cellsOf]
theorem cellsOf_drop {sz : Nat} {us : List Value} (h : ∀ u ∈ us, Celv sz u) (k : Nat) (hk : k ≤ us.length) : (cellsOf us).drop (k * sz) = cellsOf (us.drop k) := by
 have e : us = us.take k ++ us.drop k := (List.take_append_drop k us).symm
 have hl : (cellsOf (us.take k)).length = k * sz := by
  rw [cellsOf_len (sz := sz) (fun u hu => h u (List.mem_of_mem_take hu)), List.length_take, Nat.min_eq_left hk]
 conv => lhs; rw [e, cellsOf_append]
 rw [← hl, List.drop_left]
theorem cellsOf_get {sz : Nat} {us : List Value} (h : ∀ u ∈ us, Celv sz u) {k : Nat} {u : Value} (hk : us[k]? = some u) (j : Nat) (hj : j < sz) : (cellsOf us)[k * sz + j]? = u.cells[j]? := by
 have hlt := (List.getElem?_eq_some_iff.1 hk).1
 have h1 := cellsOf_drop h k (by omega)
 have : us.drop k = u :: us.drop (k + 1) := by
  rw [List.drop_eq_getElem_cons hlt]
  rw [(List.getElem?_eq_some_iff.1 hk).2]
 rw [this] at h1
 have h2 : ((cellsOf us).drop (k * sz))[j]? = (cellsOf us)[k * sz + j]? := by rw [List.getElem?_drop]
 rw [← h2, h1]
 have hs := (h u (List.mem_of_getElem? hk)).siz
 show (u.cells.toList ++ cellsOf _)[j]? = _
 rw [List.getElem?_append_left (by simp; omega)]
 simp
/-- Cells that hold values of which this is said, one by one. -/
def CE (sz : Nat) (φs : List Pr) : List Value → World → Prop := fun ys w => ∃ us, ys = cellsOf us ∧ us.length = φs.length ∧ (∀ u ∈ us, Celv sz u) ∧ ∀ (i : Nat) u φ, us[i]? = some u → φs[i]? = some φ → φ u w
/-- A list in new memory, and what its elements are. -/
def LF (sz n : Nat) (ψs : List (Nat → Pr)) : Nat → Pr := fun lo v w => Ar sz n (ψs.map (· lo)) v w ∧ ∀ b o n c, v = .slice (some ⟨b, o, none⟩) n c → lo ≤ b
theorem fresh_lf {sz n : Nat} {ψs : List (Nat → Pr)} (hz : 0 < sz) (h : ∀ (i : Nat) ψ, ψs[i]? = some ψ → Fresh ψ) : Fresh (LF sz n ψs) := by
 refine ⟨fun lo lo' v w hl ⟨⟨p, c, e, l, b, a⟩, hf⟩ => ⟨⟨p, c, e, by simpa using l, b, fun i φ hφ => ?_⟩, fun b o n c e => Nat.le_trans hl (hf b o n c e)⟩, fun lo v w w' B hB ⟨⟨p, c, e, l, hcc, a⟩, hf⟩ ev => ⟨⟨p, c, e, l, hcc, fun i φ hφ => ?_⟩, hf⟩⟩
 ·rw [List.getElem?_map] at hφ
  cases hψ : ψs[i]? with
  | none => simp [hψ] at hφ
  | some ψ =>
   simp [hψ] at hφ
   subst hφ
   obtain ⟨b, o, u, e1, e2, e3, e4⟩ := a i (ψ lo) (by rw [List.getElem?_map, hψ]; rfl)
   exact ⟨b, o, u, e1, e2, e3, (h i ψ hψ).mono _ _ _ _ hl e4⟩
 ·obtain ⟨b, o, u, e1, e2, e3, e4⟩ := a i φ hφ
  subst e1
  have hb := hf b o _ _ e
  refine ⟨b, o, u, rfl, fun j x hx => cell_ev' (e2 j x hx) (fun h => by have := hB b h; omega) ev, e3, ?_⟩
  rw [List.getElem?_map] at hφ
  cases hψ : ψs[i]? with
  | none => simp [hψ] at hφ
  | some ψ =>
   simp [hψ] at hφ
   subst hφ
   exact (h i ψ hψ).ev _ _ _ _ B hB e4 ev
/-- A list in new memory as a list of weaker words. -/
theorem lf_to {sz n lo : Nat} {ψs : List (Nat → Pr)} {φs : List Pr} (hl : φs.length = ψs.length) (h : ∀ (i : Nat) ψ φ, ψs[i]? = some ψ → φs[i]? = some φ → ∀ v w, ψ lo v w → φ v w) : ∀ v w, LF sz n ψs lo v w → Ar sz n φs v w := fun v w hv =>
 ar_imp (by simp [hl]) (fun i φ φ' h1 h2 => by
  rw [List.getElem?_map] at h1
  cases hψ : ψs[i]? with
  | none => simp [hψ] at h1
  | some ψ =>
   simp [hψ] at h1
   subst h1
   exact h i ψ φ' hψ h2) v w hv.1
theorem ce_count {sz n : Nat} {us : List Value} (hz : 0 < sz) (hcv : ∀ u ∈ us, Celv sz u) (hl : (cellsOf us).length = n * sz) : us.length = n := by
 rw [cellsOf_len hcv] at hl
 exact Nat.eq_of_mul_eq_mul_right hz hl
/-- The cells of an element of a row. -/
theorem row_cells {w : World} {sz n cap g E k : Nat} {cur : Array Value} {us : List Value} {u : Value} (hz : 0 < sz) (hcv : ∀ u ∈ us, Celv sz u) (hg : w.heap[g]? = some (.cells cur E (0, 0))) (htk : cur.toList.take (n * sz) = cellsOf us) (hn : us.length = n) (hk : us[k]? = some u) :
  ∀ (j : Nat) x, u.cells[j]? = some x → w.cell? ⟨g, sz * k + j, none⟩ = some x := fun j x hx => by
 have hlt := (List.getElem?_eq_some_iff.1 hk).1
 have hj : j < sz := by
  have := (Array.getElem?_eq_some_iff.1 hx).1
  rw [(hcv u (List.mem_of_getElem? hk)).siz] at this
  exact this
 have h1 := cellsOf_get hcv hk j hj
 have hlt' : k * sz + j < n * sz := by
  have : (k + 1) * sz ≤ n * sz := Nat.mul_le_mul_right _ (by omega)
  rw [Nat.add_mul] at this
  omega
 rw [← htk, List.getElem?_take, if_pos hlt', hx] at h1
 simp only [World.cell?, hg, Nat.mul_comm sz k]
 simpa using h1
theorem row_ar {sz n lo E : Nat} {φs : List Pr} (hz : 0 < sz) : ∀ v w ys, World.ownsRow w lo E sz v n ys → CE sz φs ys w → Ar sz n φs v w := by
 rintro v w ys ⟨hl, hown⟩ ⟨us, rfl, hul, hcv, hall⟩
 have hn := ce_count hz hcv hl
 rcases hown with ⟨rfl, h0⟩ | ⟨g, cap, cur, rfl, hg0, hg, hnc, hcm, hcs, htk⟩
 ·subst h0
  refine ⟨none, 0, rfl, by rw [← hul]; exact hn, ⟨Nat.le_refl _, Nat.zero_le _, fun _ => rfl⟩, fun i φ hφ => ?_⟩
  have := (List.getElem?_eq_some_iff.1 hφ).1
  omega
 ·refine ⟨_, cap, rfl, by rw [← hul]; exact hn, ⟨hnc, hcm, (fun e => by cases e)⟩, fun i φ hφ => ?_⟩
  have hlt := (List.getElem?_eq_some_iff.1 hφ).1
  obtain ⟨u, hu⟩ : ∃ u, us[i]? = some u := ⟨us[i]'(by omega), List.getElem?_eq_getElem _⟩
  refine ⟨g, 0, u, rfl, fun j x hx => ?_, (hcv u (List.mem_of_getElem? hu)).siz, hall i u φ hu hφ⟩
  rw [Nat.zero_add]
  exact row_cells (cap := cap) hz hcv hg htk hn hu j x hx
theorem row_lf {sz n lo E : Nat} {ψs : List (Nat → Pr)} (hz : 0 < sz) : ∀ v w ys, World.ownsRow w lo E sz v n ys → CE sz (ψs.map (· lo)) ys w → LF sz n ψs lo v w := by
 rintro v w ys hown hce
 refine ⟨row_ar hz v w ys hown hce, fun b o n c e => ?_⟩
 rcases hown.2 with ⟨rfl, h0⟩ | ⟨g, cap, cur, rfl, hg0, hg, hnc, hcm, hcs, htk⟩
 ·cases e
 ·cases e
  exact hg0

section
variable {ops : Array Oper} {l : List Kd} {bx : Bxs} {sl : List (Tmp × Pr)} {i : Nat} {o : Oper} {Q : Exit → Act → World → Prop} {a0 : Act} {n0 : Nat} {w0 : World}
end
end Go.Proofs.YtnhfpekpdephjaaGreat
