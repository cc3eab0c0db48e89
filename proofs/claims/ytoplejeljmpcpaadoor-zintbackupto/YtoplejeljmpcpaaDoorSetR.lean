import Derived.Test.YtoplejeljmpcpaaDoorSetQ
/-
  Calls that turn what their caller owns: the way in, the way out, and how the caller goes on.
-/
namespace Go.Proofs.YtoplejeljmpcpaaDoor
open Go Go.RowKit Nt
set_option linter.unusedSimpArgs false
set_option linter.unusedVariables false
set_option maxRecDepth 20000

/-- The world with its heap cut off. -/
def cutW (w : World) (lo : Nat) : World := { w with heap := w.heap.extract 0 lo }
theorem cutW_size {w : World} {lo : Nat} (h : lo ≤ w.heap.size) : (cutW w lo).heap.size = lo := by simp [cutW]; omega
theorem below_cut {w : World} {lo : Nat} (h : lo ≤ w.heap.size) : Below (cutW w lo).heap.size (cutW w lo) w := by
  rw [cutW_size h]
  refine ⟨rfl, rfl, rfl, by rw [cutW_size h]; exact h, fun k hk => ?_⟩
  simp only [cutW, Array.getElem?_extract]
  rw [if_pos (by omega), Nat.zero_add]
/-- All that was there stays but B. -/
def Keep (B : Nat → Prop) (w : World) : Pr := fun _ w' => Ev B w w'
theorem keep_has {B : Nat → Prop} {w : World} : ∀ v, Has B w (Keep B w) v := fun v w' e => e
theorem Sta.also {w0 W : World} {n : Nat} {bx : Bxs} {sl : List (Tmp × Pr)} {B : Nat → Prop} {a : Act} (S : Sta w0 n bx sl B a W) (t : Nat) {φ : Pr} (h : ∀ v, Has B W φ v) : Sta w0 n bx (sl ++ [(t, φ)]) B a W :=
  ⟨S.ent, S.bnd, S.siz, S.dfr, S.box, S.sep, fun x hx => by
    rcases List.mem_append.1 hx with h1 | h1
    · exact S.slt x h1
    · simp only [List.mem_singleton] at h1
      subst h1
      exact h _⟩
/-- Into a call that is handed things of its caller's own. -/
theorem calls_own {f : FuncId} {fn : Func} {c : Code} {args : Array Value} {w w0 : World} {R : Ending → World → Prop} {n : Nat} {bx : Bxs} {sl : List (Tmp × Pr)} {B : Nat → Prop} (hf : Tryd.prog.funcs[f]? = some fn) (hb : fn.body = some c) (hn : fn.ntmps = n) (hs : args.size ≤ n)
    (hcut : Below w0.heap.size w0 w) (hB : ∀ k, B k → w0.heap.size ≤ k ∧ k < w.heap.size)
    (hbx : ∀ x ∈ bx, ∃ v, args[x.1]? = some v ∧ x.2.at w0.heap.size B w v)
    (hsep : ∀ x ∈ bx, ∀ y ∈ bx, ∀ b, (args[x.1]?).bind vblock = some b → (args[y.1]?).bind vblock = some b → x.1 = y.1)
    (h : ∀ x ∈ sl, ∃ v, args[x.1]? = some v ∧ Has B w x.2 v) (k : ∀ a, Sta w0 n bx (sl ++ [(0, Keep B w)]) B a w → c.wp Tryd.prog (bodyPost Tryd.prog fn R) a w) (hpl : bx.all (fun x => x.2.plain) = true := by rfl) : Calls Tryd.prog f args w R := by
  have ev : ∀ (t : Nat) (v : Value), args[t]? = some v → (Act.eval { tmps := args ++ Array.replicate (fn.ntmps - args.size) undef, defers := [] } (.tmp t)) = v := fun t v hv => by
    have hlt : t < args.size := (Array.getElem?_eq_some_iff.1 hv).1
    simp only [Act.eval, Array.getD_eq_getD_getElem?, Array.getElem?_append_left hlt, hv, Option.getD_some]
  refine calls_of_wp hf hb (k _ (Sta.also ⟨hcut, hB, ?_, rfl, fun x hx => ?_, fun x hx y hy b h1 h2 => ?_, fun x hx => ?_⟩ 0 keep_has))
  · simp [hn]; omega
  · obtain ⟨v, hv, hh⟩ := hbx x hx
    rw [ev _ _ hv]
    exact hh
  · obtain ⟨v, hv, _⟩ := hbx x hx
    obtain ⟨u, hu, _⟩ := hbx y hy
    rw [ev _ _ hv] at h1
    rw [ev _ _ hu] at h2
    have p1 := List.all_eq_true.1 hpl x hx
    have p2 := List.all_eq_true.1 hpl y hy
    exact hsep x hx y hy b (by rw [hv]; exact (Rk.set_plain p1 _ _).1 h1) (by rw [hu]; exact (Rk.set_plain p2 _ _).1 h2)
  · obtain ⟨v, hv, hh⟩ := h x hx
    rw [ev _ _ hv]
    exact hh

section
variable {ops : Array Oper} {l : List Kd} {bx : Bxs} {sl : List (Tmp × Pr)} {i : Nat} {o : Oper} {Q : Exit → Act → World → Prop} {a0 : Act} {n : Nat} {w0 : World}
/-- A call, its answer in memory that is newer than all that was there when the present call began. -/
theorem owe_callK {ψ : Nat → Pr} {f : FuncId} {xs : Array Operand} {ts : Array TypeId} {w1 : World} {B1 : Nat → Prop} (ho : ops[i]? = some o) (hw : Wants ops l bx sl i o) (hop : o.op = .call { callee := .value (.func f), args := xs, argTypes := ts }) (hF : Fresh ψ) (hkp : Opnd ops l bx sl i (.tmp 0) (Keep B1 w1)) (hk : kdAt l i = .val (ψ w1.heap.size))
    (hcf : ∀ args w, (callFunc f args).run Tryd.prog w = .ok (.enter f args) w)
    (h : ∀ vs B a w, Ctx ops l bx sl a0 n w0 i vs B a w → Calls Tryd.prog f (xs.map a.eval) w (Gives ψ w)) : Owed Tryd.prog ops Q l bx sl a0 n w0 i := fun vs B a w c o' ho' => by
  obtain rfl : o = o' := Option.some.inj (ho.symm.trans ho')
  have hr : (execOp a.eval o).run Tryd.prog w = .ok (.enter f (xs.map a.eval)) w := by
    unfold execOp
    rw [hop]
    have hf : a.eval (.func f) = .func (.func f) #[] #[] := rfl
    generalize a.eval = ρ at hf
    go_simp
  have hsz : w1.heap.size ≤ w.heap.size := (hkp a0 n w0 vs B a w c).now.size
  simp only [wpOp, ho]
  rw [if_pos (hw a0 n w0 vs B a w c)]
  refine Or.inl ?_
  unfold Oper.wp
  rw [hr, Oper.upon_enter]
  refine (h vs B a w c).mono ?_
  rintro e w' ⟨v, rfl, hb, hψ⟩
  refine ⟨v, rfl, ?_⟩
  rw [hk]
  exact ⟨hb, fun w'' e'' => hF.mono _ _ _ _ hsz (hF.ev _ _ _ _ B (fun k hk => (c.bnd k hk).2) hψ e'')⟩
theorem owe_call1K {ψ : Nat → Pr} {f : FuncId} {x : Operand} {ts : Array TypeId} {φ : Pr} {w1 : World} {B1 : Nat → Prop} (ho : ops[i]? = some o) (hw : Wants ops l bx sl i o) (hop : o.op = .call { callee := .value (.func f), args := #[x], argTypes := ts }) (hx : Opnd ops l bx sl i x φ) (hF : Fresh ψ) (hkp : Opnd ops l bx sl i (.tmp 0) (Keep B1 w1)) (hk : kdAt l i = .val (ψ w1.heap.size))
    (hcf : ∀ args w, (callFunc f args).run Tryd.prog w = .ok (.enter f args) w) (C : ∀ w u, φ u w → Calls Tryd.prog f #[u] w (Gives ψ w)) : Owed Tryd.prog ops Q l bx sl a0 n w0 i :=
  owe_callK ho hw hop hF hkp hk hcf fun vs B a w c => by
    rw [show (#[x] : Array Operand).map a.eval = #[a.eval x] from by simp]
    exact C w _ (hx a0 n w0 vs B a w c).now
theorem owe_call2K {ψ : Nat → Pr} {f : FuncId} {x y : Operand} {ts : Array TypeId} {φ φ' : Pr} {w1 : World} {B1 : Nat → Prop} (ho : ops[i]? = some o) (hw : Wants ops l bx sl i o) (hop : o.op = .call { callee := .value (.func f), args := #[x, y], argTypes := ts }) (hx : Opnd ops l bx sl i x φ) (hy : Opnd ops l bx sl i y φ') (hF : Fresh ψ) (hkp : Opnd ops l bx sl i (.tmp 0) (Keep B1 w1)) (hk : kdAt l i = .val (ψ w1.heap.size))
    (hcf : ∀ args w, (callFunc f args).run Tryd.prog w = .ok (.enter f args) w) (C : ∀ w u v, φ u w → φ' v w → Calls Tryd.prog f #[u, v] w (Gives ψ w)) : Owed Tryd.prog ops Q l bx sl a0 n w0 i :=
  owe_callK ho hw hop hF hkp hk hcf fun vs B a w c => by
    rw [show (#[x, y] : Array Operand).map a.eval = #[a.eval x, a.eval y] from by simp]
    exact C w _ _ (hx a0 n w0 vs B a w c).now (hy a0 n w0 vs B a w c).now
end

/-! A statement whose order is fixed, operation by operation. -/
section
variable {P : Program} {ops : Array Oper} {Q : Exit → Act → World → Prop} {a : Act} {W W' : World} {rest : List Oper} {o : Oper}
theorem wpl_val {v : Value} (hg : o.guard = none) (h : (execOp a.eval o).run P W = .ok (.value v) W') (k : wpList P ops Q rest (a.put o.dst v) W') : wpList P ops Q (o :: rest) a W :=
  wpList_plain hg fun K hK => by unfold Oper.wp; rw [h, Oper.upon_value]; exact hK _ _ k
theorem wpl_call {f : FuncId} {args : Array Value} (hg : o.guard = none) (h : (execOp a.eval o).run P W = .ok (.enter f args) W) (C : Calls P f args W (fun e W' => ∃ v, e = .returned v ∧ wpList P ops Q rest (a.put o.dst v) W')) : wpList P ops Q (o :: rest) a W :=
  wpList_plain hg fun K hK => by
    unfold Oper.wp
    rw [h, Oper.upon_enter]
    refine C.mono ?_
    rintro e w' ⟨v, rfl, k⟩
    exact hK _ _ k
end
section
variable {w0 W W' : World} {n : Nat} {bx : Bxs} {sl : List (Tmp × Pr)} {B : Nat → Prop} {a : Act}
theorem Sta.put (S : Sta w0 n bx sl B a W) {d : Tmp} {v : Value} {φ : Pr} (hd : d < n) (hφ : Has B W φ v) (bx' : Bxs) (sl' : List (Tmp × Pr)) (hb : ∀ x ∈ bx', x ∈ bx ∧ x.1 ≠ d) (hs : ∀ x ∈ sl', x ∈ sl ∧ x.1 ≠ d) : Sta w0 n bx' ((d, φ) :: sl') B (a.put (some d) v) W := by
  have ev : ∀ t, t ≠ d → (a.put (some d) v).eval (.tmp t) = a.eval (.tmp t) := fun t ht => Act.eval_put (fun d' hd' e => by
    cases hd'
    simp at e
    first | exact ht e | exact ht e.symm)
  have self : (a.put (some d) v).eval (.tmp d) = v := by
    have : d < a.tmps.size := by rw [S.siz]; exact hd
    simp [Act.eval, Act.put, this]
  refine ⟨S.ent, S.bnd, by rw [put_size]; exact S.siz, by rw [put_defers']; exact S.dfr, fun x hx => ?_, fun x hx y hy b h1 h2 => ?_, fun x hx => ?_⟩
  · rw [ev _ (hb x hx).2]
    exact S.box x (hb x hx).1
  · rw [ev _ (hb x hx).2] at h1
    rw [ev _ (hb y hy).2] at h2
    exact S.sep x (hb x hx).1 y (hb y hy).1 b h1 h2
  · rcases List.mem_cons.1 hx with rfl | hx
    · rw [self]; exact hφ
    · rw [ev _ (hs x hx).2]
      exact S.slt x (hs x hx).1
theorem Ev.mono {B B' : Nat → Prop} {w w' : World} (e : Ev B w w') (h : ∀ k, B k → B' k) : Ev B' w w' := ⟨e.os, e.tape, e.output, e.size, fun k hk hn => e.block k hk (fun hb => hn (h k hb))⟩
/-- Behind a call that turned things of the caller's own. -/
theorem Sta.turn (S : Sta w0 n bx sl B a W) {Sx : Nat → Prop} (e : Ev Sx W W') (hS : ∀ k, Sx k → B k) (bx' : Bxs) (h : ∀ x ∈ bx', (∃ r, (x.1, r) ∈ bx) ∧ x.2.at w0.heap.size B W' (a.eval (.tmp x.1))) (hpl : bx.all (fun x => x.2.plain) = true := by rfl) (hpl' : bx'.all (fun x => x.2.plain) = true := by rfl) : Sta w0 n bx' sl B a W' := by
  have eB : Ev B W W' := e.mono hS
  refine ⟨?_, fun k hk => ⟨(S.bnd k hk).1, Nat.lt_of_lt_of_le (S.bnd k hk).2 e.size⟩, S.siz, S.dfr, fun x hx => (h x hx).2, fun x hx y hy b h1 h2 => ?_, fun x hx => (S.slt x hx).go eB (fun _ _ h => h)⟩
  · refine ⟨e.os.trans S.ent.os, e.tape.trans S.ent.tape, e.output.trans S.ent.output, Nat.le_trans S.ent.size e.size, fun k hk => ?_⟩
    have hk' : k < W.heap.size := Nat.lt_of_lt_of_le hk S.ent.size
    exact (eB.block k hk' (fun hb => by have := (S.bnd k hb).1; omega)).trans (S.ent.block k hk)
  · obtain ⟨r, hr⟩ := (h x hx).1
    obtain ⟨r', hr'⟩ := (h y hy).1
    have p1 := List.all_eq_true.1 hpl _ hr
    have p2 := List.all_eq_true.1 hpl _ hr'
    have q1 := List.all_eq_true.1 hpl' x hx
    have q2 := List.all_eq_true.1 hpl' y hy
    exact S.sep (x.1, r) hr (y.1, r') hr' b ((Rk.set_plain p1 _ _).2 ((Rk.set_plain q1 _ _).1 h1)) ((Rk.set_plain p2 _ _).2 ((Rk.set_plain q2 _ _).1 h2))
/-- What is not turned. -/
theorem Sta.still (S : Sta w0 n bx sl B a W) {Sx : Nat → Prop} (e : Ev Sx W W') (hS : ∀ k, Sx k → B k) {x : Tmp × Rk} (hx : x ∈ bx) (hn : ∀ b, x.2.set (a.eval (.tmp x.1)) b → ¬ Sx b) : x.2.at w0.heap.size B W' (a.eval (.tmp x.1)) :=
  Rk.go (S.box x hx) (fun b hb => e.block b (Rk.inB (S.box x hx) hb).2 (hn b hb)) (e.mono hS) (fun _ _ h => h) (fun _ h => h)
end
/-- What a box holds whose address is known. -/
theorem Sta.content_at {w0 W : World} {n : Nat} {bx : Bxs} {sl : List (Tmp × Pr)} {B : Nat → Prop} {a : Act} (S : Sta w0 n bx sl B a W) (k t : Nat) {T : TypeId} {φ : Pr} (h : bx[k]? = some (t, .box T φ)) (j : Nat) {b : Nat} (hs : sl[j]? = some (t, Is (.pointer (some ⟨b, 0, none⟩)))) : ∃ u, W.heap[b]? = some (.cells (Value.cells u) T (0, 0)) ∧ φ u W := by
  obtain ⟨b', u, hp, hu, hφ⟩ := S.content k t h
  have e : a.tmps.getD t undef = .pointer (some ⟨b, 0, none⟩) := S.slot j t hs
  rw [e] at hp
  simp at hp
  subst hp
  exact ⟨u, hu, hφ⟩
/-- Out of a call without an answer. -/
theorem end_none {w0 W : World} {n : Nat} {bx : Bxs} {sl : List (Tmp × Pr)} {B : Nat → Prop} {a : Act} {fn : Func} {R : Ending → World → Prop} (S : Sta w0 n bx sl B a W) (hr : fn.results = #[]) (h : R (.returned (.tuple #[])) W) : bodyPost Tryd.prog fn R .normal a W ∧ bodyPost Tryd.prog fn R .ret a W := by
  have : (results fn a.tmps).run Tryd.prog W = .ok (.tuple #[]) W := by
    rw [results_eq, hr]
    simp [Sem.run_bind]
  exact ⟨⟨S.dfr, _, this, h⟩, ⟨S.dfr, _, this, h⟩⟩
end Go.Proofs.YtoplejeljmpcpaaDoor

/-
  Lists by what is said of their elements: read, made, written in place, handed on; functions as values.
-/
namespace Go.Proofs.YtoplejeljmpcpaaDoor
open Go Go.RowKit Nt
set_option linter.unusedSimpArgs false
set_option linter.unusedVariables false
set_option maxRecDepth 20000

/-- It holds, whatever is made beside it. -/
abbrev Hs (w : World) (φ : Pr) (v : Value) : Prop := Has (fun _ => False) w φ v
theorem Has.hs {B : Nat → Prop} {w : World} {φ : Pr} {v : Value} (h : Has B w φ v) : Hs w φ v := fun w' e => h w' (e.mono (fun _ h => h.elim))
theorem Hs.below {w w' : World} {φ : Pr} {v : Value} (h : Hs w φ v) (b : Below w.heap.size w w') : Hs w' φ v := h.go (Ev.of_below b) (fun _ _ h => h)

/-! Values of sz cells. -/
def ofCells (sz : Nat) (cs : Array Value) : Value := if sz = 1 then cs.getD 0 undef else .agg cs
/-- The value is one of sz cells. -/
structure Celv (sz : Nat) (u : Value) : Prop where
  of : u = ofCells sz u.cells
  siz : u.cells.size = sz
  one : u.cells.all (·.oneCell') = true
def Cel (sz : Nat) (φ : Pr) : Prop := ∀ u w, φ u w → Celv sz u
theorem celv_inj {sz : Nat} {u u' : Value} (h : Celv sz u) (h' : Celv sz u') (e : u.cells = u'.cells) : u = u' := by rw [h.of, h'.of, e]
theorem celv_agg {cs : Array Value} (h1 : cs.size ≠ 1) (h : cs.all (·.oneCell') = true) : Celv cs.size (.agg cs) := ⟨by simp [ofCells, h1, Value.cells], rfl, h⟩
theorem celv_one {u : Value} (h : u.oneCell' = true) : Celv 1 u := by
  have e : u.cells = #[u] := by cases u <;> first | rfl | simp [Value.oneCell'] at h
  exact ⟨by simp [ofCells, e], by simp [e], by simp [e, h]⟩
theorem cel_shp {n : Nat} {φ : Pr} (h1 : n ≠ 1) (h : Shp n φ) : Cel n φ := fun u w hφ => by
  obtain ⟨cs, rfl, rfl, h2⟩ := h u w hφ
  exact celv_agg h1 h2

/-- A pointer at a value that is so. -/
def AtE (sz : Nat) (φ : Pr) : Pr := fun v w => ∃ b o u, v = .pointer (some ⟨b, o, none⟩) ∧ (∀ (j : Nat) x, u.cells[j]? = some x → w.cell? ⟨b, o + j, none⟩ = some x) ∧ u.cells.size = sz ∧ φ u w
/-- A list of n values, each of sz cells; what is said of each. -/
def Ar (sz n : Nat) (φs : List Pr) : Pr := fun v w => ∃ p c, v = .slice p n c ∧ φs.length = n ∧ (n ≤ c ∧ c ≤ maxLen ∧ (p = none → c = 0)) ∧ ∀ (i : Nat) φ, φs[i]? = some φ → ∃ b o u, p = some ⟨b, o, none⟩ ∧ (∀ (j : Nat) x, u.cells[j]? = some x → w.cell? ⟨b, o + sz * i + j, none⟩ = some x) ∧ u.cells.size = sz ∧ φ u w
theorem ar_len {sz n : Nat} {φs : List Pr} : ∀ v w, Ar sz n φs v w → ∃ p c, v = .slice p n c := fun v w ⟨p, c, e, _⟩ => ⟨p, c, e⟩
theorem ar_imp {sz n : Nat} {φs φs' : List Pr} (hl : φs'.length = φs.length) (h : ∀ (i : Nat) φ φ', φs[i]? = some φ → φs'[i]? = some φ' → ∀ v w, φ v w → φ' v w) : ∀ v w, Ar sz n φs v w → Ar sz n φs' v w := fun v w ⟨p, c, e, l, b, a⟩ =>
  ⟨p, c, e, hl.trans l, b, fun i φ' hφ' => by
    obtain ⟨φ, hφ⟩ : ∃ φ, φs[i]? = some φ := ⟨φs[i]'(by rw [← hl]; exact (List.getElem?_eq_some_iff.1 hφ').1), List.getElem?_eq_getElem _⟩
    obtain ⟨b, o, u, e1, e2, e3, e4⟩ := a i φ hφ
    exact ⟨b, o, u, e1, e2, e3, h i φ φ' hφ hφ' u w e4⟩⟩
theorem ar_nil {sz : Nat} : ∀ w, Ar sz 0 [] (.slice none 0 0) w := fun w => ⟨none, 0, rfl, rfl, ⟨Nat.le_refl _, Nat.zero_le _, fun _ => rfl⟩, fun i φ h => by simp at h⟩

/-- The block that is read is none of those that may turn. -/
theorem not_turned {B : Nat → Prop} {w : World} {b o : Nat} {x : Value} (h : w.cell? ⟨b, o, none⟩ = some x) (hw : ∀ w', Ev B w w' → (w'.cell? ⟨b, o, none⟩).isSome = true) : ¬ B b := fun hB => by
  have hlt := cell_some_block h
  have ev : Ev B w { w with heap := w.heap.setIfInBounds b (.cells #[] 0 (0, 0)) } := ⟨rfl, rfl, rfl, by simp, fun k hk hn => by
    have : b ≠ k := fun e => hn (e ▸ hB)
    simp [Array.getElem?_setIfInBounds, this]⟩
  have := hw _ ev
  have hlt' : b < w.heap.size := hlt
  simp [World.cell?, Array.getElem?_setIfInBounds, hlt'] at this
theorem cell_ev' {B : Nat → Prop} {w w' : World} {a : Addr} {v : Value} (h : w.cell? a = some v) (hB : ¬ B a.block) (e : Ev B w w') : w'.cell? a = some v := by
  have hlt := cell_some_block h
  have hb := e.block a.block hlt hB
  unfold World.cell? at h ⊢
  rw [hb]
  exact h
theorem at_fix {B : Nat → Prop} {w : World} {sz : Nat} {φ : Pr} {v : Value} (hz : 0 < sz) (hc : Cel sz φ) (h : Has B w (AtE sz φ) v) :
    ∃ b o u, v = .pointer (some ⟨b, o, none⟩) ∧ (∀ (j : Nat) x, u.cells[j]? = some x → w.cell? ⟨b, o + j, none⟩ = some x) ∧ Celv sz u ∧ Has B w φ u := by
  obtain ⟨b, o, u, rfl, h1, h2, h3⟩ := h.now
  obtain ⟨x0, hx0⟩ : ∃ x, u.cells[0]? = some x := ⟨u.cells[0]'(by omega), Array.getElem?_eq_getElem _⟩
  have hn : ¬ B b := not_turned (h1 0 x0 hx0) (fun w' e => by
    obtain ⟨b', o', u', e', h1', h2', h3'⟩ := h w' e
    cases e'
    obtain ⟨x', hx'⟩ : ∃ x, u'.cells[0]? = some x := ⟨u'.cells[0]'(by omega), Array.getElem?_eq_getElem _⟩
    rw [h1' 0 x' hx']; rfl)
  refine ⟨b, o, u, rfl, h1, hc u w h3, fun w' e => ?_⟩
  obtain ⟨b', o', u', e', h1', h2', h3'⟩ := h w' e
  cases e'
  have : u' = u := celv_inj (hc _ _ h3') (hc _ _ h3) (by
    apply Array.ext
    · rw [h2, h2']
    · intro i hi hi'
      have a1 := h1 i _ (Array.getElem?_eq_getElem hi')
      have a2 := h1' i _ (Array.getElem?_eq_getElem hi)
      have a3 := cell_ev' a1 hn e
      rw [a3] at a2
      exact (Option.some.inj a2).symm)
  rw [← this]; exact h3'

/-! What the machine does. -/
def Idx (T sz : Nat) : Prop := ∀ (ρ : Operand → Value) (o : Oper) (x y : Operand) (w : World) (b k i n c : Nat), i < n → ρ x = .slice (some ⟨b, k, none⟩) n c → ρ y = .int .i64 (i : Nat) → (execOp ρ { o with op := .indexAddr T x y }).run Tryd.prog w = .ok (.value (.pointer (some ⟨b, k + sz * i, none⟩))) w
def Ldr (E sz : Nat) : Prop := ∀ (ρ : Operand → Value) (o : Oper) (x : Operand) (w : World) (b k : Nat) (u : Value), Celv sz u → (∀ (j : Nat) c, u.cells[j]? = some c → w.cell? ⟨b, k + j, none⟩ = some c) → ρ x = .pointer (some ⟨b, k, none⟩) → (execOp ρ { o with op := .load E x }).run Tryd.prog w = .ok (.value u) w
def Sto (E sz : Nat) : Prop := ∀ (ρ : Operand → Value) (o : Oper) (x y : Operand) (w : World) (b k : Nat) (u : Value), Celv sz u → w.there b k sz → ρ x = .pointer (some ⟨b, k, none⟩) → ρ y = u → (execOp ρ { o with op := .store E x y }).run Tryd.prog w = .ok .skip (w.setCells b k u.cells.toList)
theorem ldr_strct {E n : Nat} (h1 : n ≠ 1) (hT : Strct E n) : Ldr E n := fun ρ o x w b k u hu hc hx => by
  obtain ⟨⟨d, hd1, hd2⟩, hi⟩ := hT
  have e : u = .agg u.cells := by have := hu.of; rw [ofCells, if_neg h1] at this; exact this
  generalize hcs : u.cells = cs at *
  subst e
  unfold execOp
  simp only [hx, Sem.run_bind, run_loadAt_mid (P := Tryd.prog) w b k E cs.toList d (fun j v hv => hc j v (by simpa using hv)) hd1 hd2 (by rw [hi]; have := hu.siz; rw [hcs] at this; simp [this]), Result.andThen_ok, Sem.run_pure]
theorem sto_strct {E n : Nat} (h1 : n ≠ 1) (hT : Strct E n) : Sto E n := fun ρ o x y w b k u hu ht hx hy => by
  obtain ⟨_, hi⟩ := hT
  have e : u = .agg u.cells := by have := hu.of; rw [ofCells, if_neg h1] at this; exact this
  have h2 := hu.siz
  have h3 := hu.one
  generalize hcs : u.cells = cs at *
  subst e
  unfold execOp
  simp only [hx, hy, Sem.run_bind, run_storeAt_mid (P := Tryd.prog) w b k E cs (by rw [h2]; exact ht) (by rw [hi, h2]) h3, Result.andThen_ok, Sem.run_pure]
theorem ldr_int : Ldr 24 2 := ldr_strct (by decide) strct_int
theorem sto_int : Sto 24 2 := sto_strct (by decide) strct_int

section
variable {ops : Array Oper} {l : List Kd} {bx : Bxs} {sl : List (Tmp × Pr)} {i : Nat} {o : Oper} {Q : Exit → Act → World → Prop} {a0 : Act} {n0 : Nat} {w0 : World}
/-! Elements are read. -/
theorem ar_at {B : Nat → Prop} {w : World} {sz n k : Nat} {φs : List Pr} {φ : Pr} {v : Value} (h : Has B w (Ar sz n φs) v) (he : φs[k]? = some φ) : ∃ b o c, v = .slice (some ⟨b, o, none⟩) n c ∧ k < n ∧ Has B w (AtE sz φ) (.pointer (some ⟨b, o + sz * k, none⟩)) := by
  obtain ⟨p, c, rfl, hl, hb, ha⟩ := h.now
  obtain ⟨b, o', u, rfl, _⟩ := ha k φ he
  refine ⟨b, o', c, rfl, by rw [← hl]; exact (List.getElem?_eq_some_iff.1 he).1, fun w' ev => ?_⟩
  obtain ⟨p', c', e, _, _, ha'⟩ := h w' ev
  obtain ⟨b', o'', u', rfl, h1, h2, h3⟩ := ha' k φ he
  cases e
  exact ⟨b, _, u', rfl, h1, h2, h3⟩
theorem owe_aindex {x y : Operand} {T sz n k : Nat} {φs : List Pr} {φ : Pr} (ho : ops[i]? = some o) (hw : Wants ops l bx sl i o) (hop : o.op = .indexAddr T x y) (hT : Idx T sz) (hx : Opnd ops l bx sl i x (Ar sz n φs)) (hy : Opnd ops l bx sl i y (Is (.int .i64 (k : Nat)))) (he : φs[k]? = some φ) (hk : kdAt l i = .val (AtE sz φ)) : Owed Tryd.prog ops Q l bx sl a0 n0 w0 i :=
  owe_val ho hw hk fun vs B a w cx => by
    have hyv : a.eval y = .int .i64 (k : Nat) := (hy a0 n0 w0 vs B a w cx).now
    obtain ⟨b, o', c, e1, hlt, hat⟩ := ar_at (hx a0 n0 w0 vs B a w cx) he
    refine ⟨_, ?_, hat⟩
    rw [← hT a.eval o x y w b o' k n c hlt e1 hyv]
    unfold execOp
    rw [hop]
theorem owe_aload {x : Operand} {E sz : Nat} {φ : Pr} (ho : ops[i]? = some o) (hw : Wants ops l bx sl i o) (hop : o.op = .load E x) (hE : Ldr E sz) (hz : 0 < sz) (hc : Cel sz φ) (hx : Opnd ops l bx sl i x (AtE sz φ)) (hk : kdAt l i = .val φ) : Owed Tryd.prog ops Q l bx sl a0 n0 w0 i :=
  owe_val ho hw hk fun vs B a w cx => by
    obtain ⟨b, o', u, e1, h1, h2, h3⟩ := at_fix hz hc (hx a0 n0 w0 vs B a w cx)
    refine ⟨u, ?_, h3⟩
    rw [← hE a.eval o x w b o' u h2 h1 e1]
    unfold execOp
    rw [hop]

/-! Calls whose contracts ask that what is handed in stays so. -/
theorem owe_callh1 {ψ : Nat → Pr} {f : FuncId} {x : Operand} {ts : Array TypeId} {φ : Pr} (ho : ops[i]? = some o) (hw : Wants ops l bx sl i o) (hop : o.op = .call { callee := .value (.func f), args := #[x], argTypes := ts }) (hx : Opnd ops l bx sl i x φ) (hF : Fresh ψ) (hk : kdAt l i = .val (ψ w0.heap.size))
    (hcf : ∀ args w, (callFunc f args).run Tryd.prog w = .ok (.enter f args) w) (C : ∀ w u, Hs w φ u → Calls Tryd.prog f #[u] w (Gives ψ w)) : Owed Tryd.prog ops Q l bx sl a0 n0 w0 i :=
  owe_call ho hw hop hF hk hcf fun vs B a w c => by
    rw [show (#[x] : Array Operand).map a.eval = #[a.eval x] from by simp]
    exact C w _ (hx a0 n0 w0 vs B a w c).hs
theorem owe_callh2 {ψ : Nat → Pr} {f : FuncId} {x y : Operand} {ts : Array TypeId} {φ φ' : Pr} (ho : ops[i]? = some o) (hw : Wants ops l bx sl i o) (hop : o.op = .call { callee := .value (.func f), args := #[x, y], argTypes := ts }) (hx : Opnd ops l bx sl i x φ) (hy : Opnd ops l bx sl i y φ') (hF : Fresh ψ) (hk : kdAt l i = .val (ψ w0.heap.size))
    (hcf : ∀ args w, (callFunc f args).run Tryd.prog w = .ok (.enter f args) w) (C : ∀ w u v, Hs w φ u → Hs w φ' v → Calls Tryd.prog f #[u, v] w (Gives ψ w)) : Owed Tryd.prog ops Q l bx sl a0 n0 w0 i :=
  owe_call ho hw hop hF hk hcf fun vs B a w c => by
    rw [show (#[x, y] : Array Operand).map a.eval = #[a.eval x, a.eval y] from by simp]
    exact C w _ _ (hx a0 n0 w0 vs B a w c).hs (hy a0 n0 w0 vs B a w c).hs
theorem owe_callh3 {ψ : Nat → Pr} {f : FuncId} {x y z : Operand} {ts : Array TypeId} {φ φ' φ'' : Pr} (ho : ops[i]? = some o) (hw : Wants ops l bx sl i o) (hop : o.op = .call { callee := .value (.func f), args := #[x, y, z], argTypes := ts }) (hx : Opnd ops l bx sl i x φ) (hy : Opnd ops l bx sl i y φ') (hz : Opnd ops l bx sl i z φ'') (hF : Fresh ψ) (hk : kdAt l i = .val (ψ w0.heap.size))
    (hcf : ∀ args w, (callFunc f args).run Tryd.prog w = .ok (.enter f args) w) (C : ∀ w u v t, Hs w φ u → Hs w φ' v → Hs w φ'' t → Calls Tryd.prog f #[u, v, t] w (Gives ψ w)) : Owed Tryd.prog ops Q l bx sl a0 n0 w0 i :=
  owe_call ho hw hop hF hk hcf fun vs B a w c => by
    rw [show (#[x, y, z] : Array Operand).map a.eval = #[a.eval x, a.eval y, a.eval z] from by simp]
    exact C w _ _ _ (hx a0 n0 w0 vs B a w c).hs (hy a0 n0 w0 vs B a w c).hs (hz a0 n0 w0 vs B a w c).hs
end

/-! Functions as values. -/
/-- What is called with one value of each of these kinds, and what it then gives. -/
def Fn1 (φs : List Pr) (ψs : List (Nat → Pr)) : Pr := fun F w => ∃ f caps, F = .func (.func f) #[] caps ∧ (∀ args w, (callFunc f args).run Tryd.prog w = .ok (.enter f args) w) ∧ ∀ (i : Nat) φ ψ, φs[i]? = some φ → ψs[i]? = some ψ → ∀ u, Hs w φ u → Calls Tryd.prog f (#[u] ++ caps) w (Gives ψ w)
def Fn2 (φs φs' : List Pr) (ψs : List (Nat → Pr)) : Pr := fun F w => ∃ f caps, F = .func (.func f) #[] caps ∧ (∀ args w, (callFunc f args).run Tryd.prog w = .ok (.enter f args) w) ∧ ∀ (i : Nat) φ φ' ψ, φs[i]? = some φ → φs'[i]? = some φ' → ψs[i]? = some ψ → ∀ u v, Hs w φ u → Hs w φ' v → Calls Tryd.prog f (#[u, v] ++ caps) w (Gives ψ w)
theorem is_fn1 {f : FuncId} {φs : List Pr} {ψs : List (Nat → Pr)} (hcf : ∀ args w, (callFunc f args).run Tryd.prog w = .ok (.enter f args) w) (C : ∀ (i : Nat) φ ψ, φs[i]? = some φ → ψs[i]? = some ψ → ∀ w u, Hs w φ u → Calls Tryd.prog f #[u] w (Gives ψ w)) : ∀ v w, Is (.func (.func f) #[] #[]) v w → Fn1 φs ψs v w := fun v w e =>
  ⟨f, #[], e, hcf, fun i φ ψ h1 h2 u hu => by simpa using C i φ ψ h1 h2 w u hu⟩
theorem is_fn2 {f : FuncId} {φs φs' : List Pr} {ψs : List (Nat → Pr)} (hcf : ∀ args w, (callFunc f args).run Tryd.prog w = .ok (.enter f args) w) (C : ∀ (i : Nat) φ φ' ψ, φs[i]? = some φ → φs'[i]? = some φ' → ψs[i]? = some ψ → ∀ w u v, Hs w φ u → Hs w φ' v → Calls Tryd.prog f #[u, v] w (Gives ψ w)) : ∀ v w, Is (.func (.func f) #[] #[]) v w → Fn2 φs φs' ψs v w := fun v w e =>
  ⟨f, #[], e, hcf, fun i φ φ' ψ h1 h2 h3 u u' hu hu' => by simpa using C i φ φ' ψ h1 h2 h3 w u u' hu hu'⟩
section
variable {ops : Array Oper} {l : List Kd} {bx : Bxs} {sl : List (Tmp × Pr)} {i : Nat} {o : Oper} {Q : Exit → Act → World → Prop} {a0 : Act} {n0 : Nat} {w0 : World}
theorem opnd_func (f : FuncId) : Opnd ops l bx sl i (.func f) (Is (.func (.func f) #[] #[])) := fun a0 n w0 vs B a w c w' e => rfl
/-- A call through a value. -/
theorem owe_callv {ψ : Nat → Pr} {x : Operand} {xs : Array Operand} {ts : Array TypeId} (ho : ops[i]? = some o) (hw : Wants ops l bx sl i o) (hop : o.op = .call { callee := .value x, args := xs, argTypes := ts }) (hF : Fresh ψ) (hk : kdAt l i = .val (ψ w0.heap.size))
    (h : ∀ vs B a w, Ctx ops l bx sl a0 n0 w0 i vs B a w → ∃ f caps, a.eval x = .func (.func f) #[] caps ∧ (∀ args w, (callFunc f args).run Tryd.prog w = .ok (.enter f args) w) ∧ Calls Tryd.prog f (xs.map a.eval ++ caps) w (Gives ψ w)) : Owed Tryd.prog ops Q l bx sl a0 n0 w0 i := fun vs B a w c o' ho' => by
  obtain rfl : o = o' := Option.some.inj (ho.symm.trans ho')
  obtain ⟨f, caps, hf, hcf, hC⟩ := h vs B a w c
  have hr : (execOp a.eval o).run Tryd.prog w = .ok (.enter f (xs.map a.eval ++ caps)) w := by
    unfold execOp
    rw [hop]
    generalize hxs : xs.map a.eval = ys
    simp only [resolve, hxs, hf]
    clear hxs hC h c
    go_simp
  simp only [wpOp, ho]
  rw [if_pos (hw a0 n0 w0 vs B a w c)]
  refine Or.inl ?_
  unfold Oper.wp
  rw [hr, Oper.upon_enter]
  refine hC.mono ?_
  rintro e w' ⟨v, rfl, hb, hψ⟩
  refine ⟨v, rfl, ?_⟩
  rw [hk]
  exact ⟨hb, fun w'' e'' => hF.mono _ _ _ _ c.lo (hF.ev _ _ _ _ B (fun k hk => (c.bnd k hk).2) hψ e'')⟩
theorem owe_callv1 {ψ : Nat → Pr} {x y : Operand} {ts : Array TypeId} {φs : List Pr} {ψs : List (Nat → Pr)} {φ : Pr} (k : Nat) (ho : ops[i]? = some o) (hw : Wants ops l bx sl i o) (hop : o.op = .call { callee := .value x, args := #[y], argTypes := ts }) (hx : Opnd ops l bx sl i x (Fn1 φs ψs)) (h1 : φs[k]? = some φ) (h2 : ψs[k]? = some ψ) (hy : Opnd ops l bx sl i y φ) (hF : Fresh ψ) (hk : kdAt l i = .val (ψ w0.heap.size)) : Owed Tryd.prog ops Q l bx sl a0 n0 w0 i :=
  owe_callv ho hw hop hF hk fun vs B a w c => by
    obtain ⟨f, caps, e, hcf, hC⟩ := (hx a0 n0 w0 vs B a w c).now
    exact ⟨f, caps, e, hcf, by simpa using hC k φ ψ h1 h2 _ (hy a0 n0 w0 vs B a w c).hs⟩
theorem owe_callv2 {ψ : Nat → Pr} {x y z : Operand} {ts : Array TypeId} {φs φs' : List Pr} {ψs : List (Nat → Pr)} {φ φ' : Pr} (k : Nat) (ho : ops[i]? = some o) (hw : Wants ops l bx sl i o) (hop : o.op = .call { callee := .value x, args := #[y, z], argTypes := ts }) (hx : Opnd ops l bx sl i x (Fn2 φs φs' ψs)) (h1 : φs[k]? = some φ) (h2 : φs'[k]? = some φ') (h3 : ψs[k]? = some ψ) (hy : Opnd ops l bx sl i y φ) (hz : Opnd ops l bx sl i z φ') (hF : Fresh ψ) (hk : kdAt l i = .val (ψ w0.heap.size)) : Owed Tryd.prog ops Q l bx sl a0 n0 w0 i :=
  owe_callv ho hw hop hF hk fun vs B a w c => by
    obtain ⟨f, caps, e, hcf, hC⟩ := (hx a0 n0 w0 vs B a w c).now
    exact ⟨f, caps, e, hcf, by simpa using hC k φ φ' ψ h1 h2 h3 _ _ (hy a0 n0 w0 vs B a w c).hs (hz a0 n0 w0 vs B a w c).hs⟩
/-- A closure is made. -/
theorem owe_mkfn1 {f : FuncId} {x : Operand} {χ : Pr} {φs : List Pr} {ψs : List (Nat → Pr)} (ho : ops[i]? = some o) (hw : Wants ops l bx sl i o) (hop : o.op = .makeFunc (.func f) #[] #[x]) (hx : Opnd ops l bx sl i x χ) (hk : kdAt l i = .val (Fn1 φs ψs))
    (hcf : ∀ args w, (callFunc f args).run Tryd.prog w = .ok (.enter f args) w) (C : ∀ (i : Nat) φ ψ, φs[i]? = some φ → ψs[i]? = some ψ → ∀ w u c, Hs w φ u → Hs w χ c → Calls Tryd.prog f #[u, c] w (Gives ψ w)) : Owed Tryd.prog ops Q l bx sl a0 n0 w0 i :=
  owe_val ho hw hk fun vs B a w c => by
    have h := hx a0 n0 w0 vs B a w c
    refine ⟨.func (.func f) #[] #[a.eval x], ?_, fun w' e => ⟨f, #[a.eval x], rfl, hcf, fun i φ ψ h1 h2 u hu => ?_⟩⟩
    · unfold execOp
      rw [hop]
      generalize a.eval = ρ
      go_simp
    · simpa using C i φ ψ h1 h2 w' u _ hu (h.go e (fun _ _ h => h)).hs
theorem owe_mkfn2 {f : FuncId} {x : Operand} {χ : Pr} {φs φs' : List Pr} {ψs : List (Nat → Pr)} (ho : ops[i]? = some o) (hw : Wants ops l bx sl i o) (hop : o.op = .makeFunc (.func f) #[] #[x]) (hx : Opnd ops l bx sl i x χ) (hk : kdAt l i = .val (Fn2 φs φs' ψs))
    (hcf : ∀ args w, (callFunc f args).run Tryd.prog w = .ok (.enter f args) w) (C : ∀ (i : Nat) φ φ' ψ, φs[i]? = some φ → φs'[i]? = some φ' → ψs[i]? = some ψ → ∀ w u v c, Hs w φ u → Hs w φ' v → Hs w χ c → Calls Tryd.prog f #[u, v, c] w (Gives ψ w)) : Owed Tryd.prog ops Q l bx sl a0 n0 w0 i :=
  owe_val ho hw hk fun vs B a w c => by
    have h := hx a0 n0 w0 vs B a w c
    refine ⟨.func (.func f) #[] #[a.eval x], ?_, fun w' e => ⟨f, #[a.eval x], rfl, hcf, fun i φ φ' ψ h1 h2 h3 u v hu hv => ?_⟩⟩
    · unfold execOp
      rw [hop]
      generalize a.eval = ρ
      go_simp
    · simpa using C i φ φ' ψ h1 h2 h3 w' u v _ hu hv (h.go e (fun _ _ h => h)).hs
end
end Go.Proofs.YtoplejeljmpcpaaDoor
