/-
  Calls that turn what their caller owns: the way in, the way out, and how the caller goes on.
-/
import Derived.Test.YtdhjgekbocnnkaaDoorSetQ
namespace Go.Proofs.YtdhjgekbocnnkaaDoor
open Go Go.RowKit Nt
set_option linter.unusedSimpArgs false
set_option linter.unusedVariables false
set_option maxRecDepth 20000

/-- The world with its heap cut off. -/
def cutW (w : World) (lo : Nat) : World := { w with heap := w.heap.extract 0 lo }
theorem cutW_size {w : World} {lo : Nat} (h : lo ≤ w.heap.size) : (cutW w lo).heap.size = lo := by simp [cutW]; omega
theorem below_cut {w : World} {lo : Nat} (h : lo ≤ w.heap.size) : Below (cutW w lo).heap.size (cutW w lo) w := by
  rw [cutW_size h]
  refine ⟨rfl, rfl, rfl, by rw [cutW_size h]; exact h, fun k hk => ?_⟩
  simp only [cutW, Array.getElem?_extract]
  rw [if_pos (by omega), Nat.zero_add]
/-- All that was there stays but B. -/
def Keep (B : Nat → Prop) (w : World) : Pr := fun _ w' => Ev B w w'
theorem keep_has {B : Nat → Prop} {w : World} : ∀ v, Has B w (Keep B w) v := fun v w' e => e
theorem Sta.also {w0 W : World} {n : Nat} {bx : Bxs} {sl : List (Tmp × Pr)} {B : Nat → Prop} {a : Act} (S : Sta w0 n bx sl B a W) (t : Nat) {φ : Pr} (h : ∀ v, Has B W φ v) : Sta w0 n bx (sl ++ [(t, φ)]) B a W :=
  ⟨S.ent, S.bnd, S.siz, S.dfr, S.box, S.sep, fun x hx => by
    rcases List.mem_append.1 hx with h1 | h1
    · exact S.slt x h1
    · simp only [List.mem_singleton] at h1
      subst h1
      exact h _⟩
/-- Into a call that is handed things of its caller's own. -/
theorem calls_own {f : FuncId} {fn : Func} {c : Code} {args : Array Value} {w w0 : World} {R : Ending → World → Prop} {n : Nat} {bx : Bxs} {sl : List (Tmp × Pr)} {B : Nat → Prop} (hf : Tryd.prog.funcs[f]? = some fn) (hb : fn.body = some c) (hn : fn.ntmps = n) (hs : args.size ≤ n)
    (hcut : Below w0.heap.size w0 w) (hB : ∀ k, B k → w0.heap.size ≤ k ∧ k < w.heap.size)
    (hbx : ∀ x ∈ bx, ∃ v, args[x.1]? = some v ∧ x.2.at w0.heap.size B w v)
    (hsep : ∀ x ∈ bx, ∀ y ∈ bx, ∀ b, (args[x.1]?).bind vblock = some b → (args[y.1]?).bind vblock = some b → x.1 = y.1)
    (h : ∀ x ∈ sl, ∃ v, args[x.1]? = some v ∧ Has B w x.2 v) (k : ∀ a, Sta w0 n bx (sl ++ [(0, Keep B w)]) B a w → c.wp Tryd.prog (bodyPost Tryd.prog fn R) a w) (hpl : bx.all (fun x => x.2.plain) = true := by rfl) : Calls Tryd.prog f args w R := by
  have ev : ∀ (t : Nat) (v : Value), args[t]? = some v → (Act.eval { tmps := args ++ Array.replicate (fn.ntmps - args.size) undef, defers := [] } (.tmp t)) = v := fun t v hv => by
    have hlt : t < args.size := (Array.getElem?_eq_some_iff.1 hv).1
    simp only [Act.eval, Array.getD_eq_getD_getElem?, Array.getElem?_append_left hlt, hv, Option.getD_some]
  refine calls_of_wp hf hb (k _ (Sta.also ⟨hcut, hB, ?_, rfl, fun x hx => ?_, fun x hx y hy b h1 h2 => ?_, fun x hx => ?_⟩ 0 keep_has))
  · simp [hn]; omega
  · obtain ⟨v, hv, hh⟩ := hbx x hx
    rw [ev _ _ hv]
    exact hh
  · obtain ⟨v, hv, _⟩ := hbx x hx
    obtain ⟨u, hu, _⟩ := hbx y hy
    rw [ev _ _ hv] at h1
    rw [ev _ _ hu] at h2
    have p1 := List.all_eq_true.1 hpl x hx
    have p2 := List.all_eq_true.1 hpl y hy
    exact hsep x hx y hy b (by rw [hv]; exact (Rk.set_plain p1 _ _).1 h1) (by rw [hu]; exact (Rk.set_plain p2 _ _).1 h2)
  · obtain ⟨v, hv, hh⟩ := h x hx
    rw [ev _ _ hv]
    exact hh

section
variable {ops : Array Oper} {l : List Kd} {bx : Bxs} {sl : List (Tmp × Pr)} {i : Nat} {o : Oper} {Q : Exit → Act → World → Prop} {a0 : Act} {n : Nat} {w0 : World}
/-- A call, its answer in memory that is newer than all that was there when the present call began. -/
theorem owe_callK {ψ : Nat → Pr} {f : FuncId} {xs : Array Operand} {ts : Array TypeId} {w1 : World} {B1 : Nat → Prop} (ho : ops[i]? = some o) (hw : Wants ops l bx sl i o) (hop : o.op = .call { callee := .value (.func f), args := xs, argTypes := ts }) (hF : Fresh ψ) (hkp : Opnd ops l bx sl i (.tmp 0) (Keep B1 w1)) (hk : kdAt l i = .val (ψ w1.heap.size))
    (hcf : ∀ args w, (callFunc f args).run Tryd.prog w = .ok (.enter f args) w)
    (h : ∀ vs B a w, Ctx ops l bx sl a0 n w0 i vs B a w → Calls Tryd.prog f (xs.map a.eval) w (Gives ψ w)) : Owed Tryd.prog ops Q l bx sl a0 n w0 i := fun vs B a w c o' ho' => by
  obtain rfl : o = o' := Option.some.inj (ho.symm.trans ho')
  have hr : (execOp a.eval o).run Tryd.prog w = .ok (.enter f (xs.map a.eval)) w := by
    unfold execOp
    rw [hop]
    have hf : a.eval (.func f) = .func (.func f) #[] #[] := rfl
    generalize a.eval = ρ at hf
    go_simp
  have hsz : w1.heap.size ≤ w.heap.size := (hkp a0 n w0 vs B a w c).now.size
  simp only [wpOp, ho]
  rw [if_pos (hw a0 n w0 vs B a w c)]
  refine Or.inl ?_
  unfold Oper.wp
  rw [hr, Oper.upon_enter]
  refine (h vs B a w c).mono ?_
  rintro e w' ⟨v, rfl, hb, hψ⟩
  refine ⟨v, rfl, ?_⟩
  rw [hk]
  exact ⟨hb, fun w'' e'' => hF.mono _ _ _ _ hsz (hF.ev _ _ _ _ B (fun k hk => (c.bnd k hk).2) hψ e'')⟩
theorem owe_call1K {ψ : Nat → Pr} {f : FuncId} {x : Operand} {ts : Array TypeId} {φ : Pr} {w1 : World} {B1 : Nat → Prop} (ho : ops[i]? = some o) (hw : Wants ops l bx sl i o) (hop : o.op = .call { callee := .value (.func f), args := #[x], argTypes := ts }) (hx : Opnd ops l bx sl i x φ) (hF : Fresh ψ) (hkp : Opnd ops l bx sl i (.tmp 0) (Keep B1 w1)) (hk : kdAt l i = .val (ψ w1.heap.size))
    (hcf : ∀ args w, (callFunc f args).run Tryd.prog w = .ok (.enter f args) w) (C : ∀ w u, φ u w → Calls Tryd.prog f #[u] w (Gives ψ w)) : Owed Tryd.prog ops Q l bx sl a0 n w0 i :=
  owe_callK ho hw hop hF hkp hk hcf fun vs B a w c => by
    rw [show (#[x] : Array Operand).map a.eval = #[a.eval x] from by simp]
    exact C w _ (hx a0 n w0 vs B a w c).now
theorem owe_call2K {ψ : Nat → Pr} {f : FuncId} {x y : Operand} {ts : Array TypeId} {φ φ' : Pr} {w1 : World} {B1 : Nat → Prop} (ho : ops[i]? = some o) (hw : Wants ops l bx sl i o) (hop : o.op = .call { callee := .value (.func f), args := #[x, y], argTypes := ts }) (hx : Opnd ops l bx sl i x φ) (hy : Opnd ops l bx sl i y φ') (hF : Fresh ψ) (hkp : Opnd ops l bx sl i (.tmp 0) (Keep B1 w1)) (hk : kdAt l i = .val (ψ w1.heap.size))
    (hcf : ∀ args w, (callFunc f args).run Tryd.prog w = .ok (.enter f args) w) (C : ∀ w u v, φ u w → φ' v w → Calls Tryd.prog f #[u, v] w (Gives ψ w)) : Owed Tryd.prog ops Q l bx sl a0 n w0 i :=
  owe_callK ho hw hop hF hkp hk hcf fun vs B a w c => by
    rw [show (#[x, y] : Array Operand).map a.eval = #[a.eval x, a.eval y] from by simp]
    exact C w _ _ (hx a0 n w0 vs B a w c).now (hy a0 n w0 vs B a w c).now
end

/-! A statement whose order is fixed, operation by operation. -/
section
variable {P : Program} {ops : Array Oper} {Q : Exit → Act → World → Prop} {a : Act} {W W' : World} {rest : List Oper} {o : Oper}
theorem wpl_val {v : Value} (hg : o.guard = none) (h : (execOp a.eval o).run P W = .ok (.value v) W') (k : wpList P ops Q rest (a.put o.dst v) W') : wpList P ops Q (o :: rest) a W :=
  wpList_plain hg fun K hK => by unfold Oper.wp; rw [h, Oper.upon_value]; exact hK _ _ k
theorem wpl_call {f : FuncId} {args : Array Value} (hg : o.guard = none) (h : (execOp a.eval o).run P W = .ok (.enter f args) W) (C : Calls P f args W (fun e W' => ∃ v, e = .returned v ∧ wpList P ops Q rest (a.put o.dst v) W')) : wpList P ops Q (o :: rest) a W :=
  wpList_plain hg fun K hK => by
    unfold Oper.wp
    rw [h, Oper.upon_enter]
    refine C.mono ?_
    rintro e w' ⟨v, rfl, k⟩
    exact hK _ _ k
end
section
variable {w0 W W' : World} {n : Nat} {bx : Bxs} {sl : List (Tmp × Pr)} {B : Nat → Prop} {a : Act}
theorem Sta.put (S : Sta w0 n bx sl B a W) {d : Tmp} {v : Value} {φ : Pr} (hd : d < n) (hφ : Has B W φ v) (bx' : Bxs) (sl' : List (Tmp × Pr)) (hb : ∀ x ∈ bx', x ∈ bx ∧ x.1 ≠ d) (hs : ∀ x ∈ sl', x ∈ sl ∧ x.1 ≠ d) : Sta w0 n bx' ((d, φ) :: sl') B (a.put (some d) v) W := by
  have ev : ∀ t, t ≠ d → (a.put (some d) v).eval (.tmp t) = a.eval (.tmp t) := fun t ht => Act.eval_put (fun d' hd' e => by
    cases hd'
    simp at e
    first | exact ht e | exact ht e.symm)
  have self : (a.put (some d) v).eval (.tmp d) = v := by
    have : d < a.tmps.size := by rw [S.siz]; exact hd
    simp [Act.eval, Act.put, this]
  refine ⟨S.ent, S.bnd, by rw [put_size]; exact S.siz, by rw [put_defers']; exact S.dfr, fun x hx => ?_, fun x hx y hy b h1 h2 => ?_, fun x hx => ?_⟩
  · rw [ev _ (hb x hx).2]
    exact S.box x (hb x hx).1
  · rw [ev _ (hb x hx).2] at h1
    rw [ev _ (hb y hy).2] at h2
    exact S.sep x (hb x hx).1 y (hb y hy).1 b h1 h2
  · rcases List.mem_cons.1 hx with rfl | hx
    · rw [self]; exact hφ
    · rw [ev _ (hs x hx).2]
      exact S.slt x (hs x hx).1
theorem Ev.mono {B B' : Nat → Prop} {w w' : World} (e : Ev B w w') (h : ∀ k, B k → B' k) : Ev B' w w' := ⟨e.os, e.tape, e.output, e.size, fun k hk hn => e.block k hk (fun hb => hn (h k hb))⟩
/-- Behind a call that turned things of the caller's own. -/
theorem Sta.turn (S : Sta w0 n bx sl B a W) {Sx : Nat → Prop} (e : Ev Sx W W') (hS : ∀ k, Sx k → B k) (bx' : Bxs) (h : ∀ x ∈ bx', (∃ r, (x.1, r) ∈ bx) ∧ x.2.at w0.heap.size B W' (a.eval (.tmp x.1))) (hpl : bx.all (fun x => x.2.plain) = true := by rfl) (hpl' : bx'.all (fun x => x.2.plain) = true := by rfl) : Sta w0 n bx' sl B a W' := by
  have eB : Ev B W W' := e.mono hS
  refine ⟨?_, fun k hk => ⟨(S.bnd k hk).1, Nat.lt_of_lt_of_le (S.bnd k hk).2 e.size⟩, S.siz, S.dfr, fun x hx => (h x hx).2, fun x hx y hy b h1 h2 => ?_, fun x hx => (S.slt x hx).go eB (fun _ _ h => h)⟩
  · refine ⟨e.os.trans S.ent.os, e.tape.trans S.ent.tape, e.output.trans S.ent.output, Nat.le_trans S.ent.size e.size, fun k hk => ?_⟩
    have hk' : k < W.heap.size := Nat.lt_of_lt_of_le hk S.ent.size
    exact (eB.block k hk' (fun hb => by have := (S.bnd k hb).1; omega)).trans (S.ent.block k hk)
  · obtain ⟨r, hr⟩ := (h x hx).1
    obtain ⟨r', hr'⟩ := (h y hy).1
    have p1 := List.all_eq_true.1 hpl _ hr
    have p2 := List.all_eq_true.1 hpl _ hr'
    have q1 := List.all_eq_true.1 hpl' x hx
    have q2 := List.all_eq_true.1 hpl' y hy
    exact S.sep (x.1, r) hr (y.1, r') hr' b ((Rk.set_plain p1 _ _).2 ((Rk.set_plain q1 _ _).1 h1)) ((Rk.set_plain p2 _ _).2 ((Rk.set_plain q2 _ _).1 h2))
/-- What is not turned. -/
theorem Sta.still (S : Sta w0 n bx sl B a W) {Sx : Nat → Prop} (e : Ev Sx W W') (hS : ∀ k, Sx k → B k) {x : Tmp × Rk} (hx : x ∈ bx) (hn : ∀ b, x.2.set (a.eval (.tmp x.1)) b → ¬ Sx b) : x.2.at w0.heap.size B W' (a.eval (.tmp x.1)) :=
  Rk.go (S.box x hx) (fun b hb => e.block b (Rk.inB (S.box x hx) hb).2 (hn b hb)) (e.mono hS) (fun _ _ h => h) (fun _ h => h)
end
/-- What a box holds whose address is known. -/
theorem Sta.content_at {w0 W : World} {n : Nat} {bx : Bxs} {sl : List (Tmp × Pr)} {B : Nat → Prop} {a : Act} (S : Sta w0 n bx sl B a W) (k t : Nat) {T : TypeId} {φ : Pr} (h : bx[k]? = some (t, .box T φ)) (j : Nat) {b : Nat} (hs : sl[j]? = some (t, Is (.pointer (some ⟨b, 0, none⟩)))) : ∃ u, W.heap[b]? = some (.cells (Value.cells u) T (0, 0)) ∧ φ u W := by
  obtain ⟨b', u, hp, hu, hφ⟩ := S.content k t h
  have e : a.tmps.getD t undef = .pointer (some ⟨b, 0, none⟩) := S.slot j t hs
  rw [e] at hp
  simp at hp
  subst hp
  exact ⟨u, hu, hφ⟩
/-- Out of a call without an answer. -/
theorem end_none {w0 W : World} {n : Nat} {bx : Bxs} {sl : List (Tmp × Pr)} {B : Nat → Prop} {a : Act} {fn : Func} {R : Ending → World → Prop} (S : Sta w0 n bx sl B a W) (hr : fn.results = #[]) (h : R (.returned (.tuple #[])) W) : bodyPost Tryd.prog fn R .normal a W ∧ bodyPost Tryd.prog fn R .ret a W := by
  have : (results fn a.tmps).run Tryd.prog W = .ok (.tuple #[]) W := by
    rw [results_eq, hr]
    simp [Sem.run_bind]
  exact ⟨⟨S.dfr, _, this, h⟩, ⟨S.dfr, _, this, h⟩⟩
end Go.Proofs.YtdhjgekbocnnkaaDoor
