import Derived.Test.YtdhjgekbocnnkaaDoorSetR
import Derived.Test.YtdhjgekbocnnkaaDoorVec
/-
  Blocks of the call's own that no slot leads to: the cells of a matrix whose rows lie in one block.
-/
namespace Go.Proofs.YtdhjgekbocnnkaaDoor
open Go Go.RowKit Nt
set_option linter.unusedSimpArgs false
set_option linter.unusedVariables false
set_option maxRecDepth 20000

/-- Block g, of elements of sz cells each; what is said of each. -/
abbrev Gr (g T sz : Nat) (φs : List Pr) : Rk := .own (fun b => b = g) T (fun C w => CE sz φs (C g) w)
section
variable {ops : Array Oper} {l : List Kd} {bx : Bxs} {sl : List (Tmp × Pr)} {i : Nat} {o : Oper} {Q : Exit → Act → World → Prop} {a0 : Act} {n0 : Nat} {w0 : World}
theorem owe_kindex {x y : Operand} {T sz g off n c k r : Nat} (ho : ops[i]? = some o) (hw : Wants ops l bx sl i o) (hop : o.op = .indexAddr T x y) (hT : Idx T sz) (hx : Opnd ops l bx sl i x (Is (.slice (some ⟨g, off, none⟩) n c))) (hy : Opnd ops l bx sl i y (Is (.int .i64 (k : Nat)))) (hlt : k < n) (hr : off + sz * k = r) (hk : kdAt l i = .val (Is (.pointer (some ⟨g, r, none⟩)))) : Owed Tryd.prog ops Q l bx sl a0 n0 w0 i :=
  owe_is ho hw hk fun vs B a w cx => by
    have hxv : a.eval x = _ := (hx a0 n0 w0 vs B a w cx).now
    have hyv : a.eval y = _ := (hy a0 n0 w0 vs B a w cx).now
    subst hr
    rw [← hT a.eval o x y w g off k n c hlt hxv hyv]
    unfold execOp
    rw [hop]
theorem ce_at {sz : Nat} {φs : List Pr} {ys : List Value} {w : World} (h : CE sz φs ys w) {idx : Nat} {φ : Pr} (hφ : φs[idx]? = some φ) : ∃ us u, ys = cellsOf us ∧ us.length = φs.length ∧ (∀ u ∈ us, Celv sz u) ∧ us[idx]? = some u ∧ φ u w := by
  obtain ⟨us, e, l, c, a⟩ := h
  obtain ⟨u, hu⟩ : ∃ u, us[idx]? = some u := ⟨us[idx]'(by rw [l]; exact (List.getElem?_eq_some_iff.1 hφ).1), List.getElem?_eq_getElem _⟩
  exact ⟨us, u, e, l, c, hu, a idx u φ hu hφ⟩
theorem owe_gload {x : Operand} {T sz g t k idx : Nat} {φs : List Pr} {φ : Pr} (ho : ops[i]? = some o) (hw : Wants ops l bx sl i o) (hop : o.op = .load T x) (hE : Ldr T sz) (hz : 0 < sz) (hx : Opnd ops l bx sl i x (Is (.pointer (some ⟨g, sz * idx, none⟩)))) (hb : bx[k]? = some (t, Gr g T sz φs)) (hn : unturned ops l i (.inl t) = true) (hφ : φs[idx]? = some φ) (hk : kdAt l i = .val φ) : Owed Tryd.prog ops Q l bx sl a0 n0 w0 i :=
  owe_val ho hw hk fun vs B a w c => by
    have hxv : a.eval x = _ := (hx a0 n0 w0 vs B a w c).now
    obtain ⟨C, h1, h2⟩ := c.box t _ (List.mem_of_getElem? hb) hn
    have hg := (h1 g rfl).2
    obtain ⟨us, u, e, hl, hcv, hu, _⟩ := ce_at (h2 w (Ev.refl _ _)) hφ
    refine ⟨u, ?_, fun w' ev => ?_⟩
    · rw [← hE a.eval o x w g (sz * idx) u (hcv u (List.mem_of_getElem? hu)) (row_cells (cap := us.length) (n := us.length) (cur := (C g).toArray) hz hcv hg (by rw [e, ← cellsOf_len hcv]; simp) rfl hu) hxv]
      unfold execOp
      rw [hop]
    · obtain ⟨us', u', e', _, hcv', hu', hφ'⟩ := ce_at (h2 w' ev) hφ
      have : us' = us := cellsOf_inj hz hcv' hcv (by rw [← e', e])
      subst this
      rw [hu] at hu'
      cases hu'
      exact hφ'
theorem owe_gstore {x y : Operand} {T sz g t k idx : Nat} {φs : List Pr} {ψ : Pr} (ho : ops[i]? = some o) (hw : Wants ops l bx sl i o) (hop : o.op = .store T x y) (hE : Sto T sz) (hz : 0 < sz) (hx : Opnd ops l bx sl i x (Is (.pointer (some ⟨g, sz * idx, none⟩)))) (hb : bx[k]? = some (t, Gr g T sz φs)) (hn : unturned ops l i (.inl t) = true) (hy : Opnd ops l bx sl i y ψ) (hc : Cel sz ψ) (hlt : idx < φs.length) (hk : kdAt l i = .put (.inl t) (Gr g T sz (φs.set idx ψ))) : Owed Tryd.prog ops Q l bx sl a0 n0 w0 i := fun vs B a w c o' ho' => by
  obtain rfl : o = o' := Option.some.inj (ho.symm.trans ho')
  have hxv : a.eval x = _ := (hx a0 n0 w0 vs B a w c).now
  have hyv := hy a0 n0 w0 vs B a w c
  have hcy := hc _ _ hyv.now
  have hmem := List.mem_of_getElem? hb
  obtain ⟨C, h1, h2⟩ := c.box t _ hmem hn
  obtain ⟨hBg, hg⟩ := h1 g rfl
  obtain ⟨us, e, hul, hcv, hall⟩ := h2 w (Ev.refl _ _)
  have hlen := cellsOf_len hcv
  have hsz : (C g).toArray.size = us.length * sz := by rw [← hlen, ← e]; simp
  have hfit : (idx + 1) * sz ≤ us.length * sz := Nat.mul_le_mul_right _ (by omega)
  rw [Nat.add_mul, Nat.one_mul] at hfit
  have hthere : w.there g (sz * idx) sz := fun j hj => by
    refine ⟨?_, by simp [World.frozen?, hg]⟩
    simp only [World.cell?, hg]
    rw [Nat.mul_comm sz idx]
    have h3 : idx * sz + j < (C g).toArray.size := by omega
    simp at h3
    simp [h3]
  have hlenu : (a.eval y).cells.toList.length = sz := by simp [hcy.siz]
  have h : (execOp a.eval o).run Tryd.prog w = .ok .skip (w.setRow g (setsFrom (C g).toArray (sz * idx) (a.eval y).cells.toList)) := by
    rw [← setCells_row g _ _ w _ hg, ← hE a.eval o x y w g (sz * idx) _ hcy hthere hxv rfl]
    unfold execOp
    rw [hop]
  have hnew : setsFrom (C g).toArray (sz * idx) (a.eval y).cells.toList = (cellsOf (us.set idx (a.eval y))).toArray := by
    apply Array.toList_inj.1
    rw [setsFrom_list _ _ _ (by rw [hlenu, hsz, Nat.mul_comm]; omega), hlenu, Nat.mul_comm sz idx, List.set_eq_take_append_cons_drop, if_pos (by omega), cellsOf_append]
    have e1 : cellsOf (a.eval y :: us.drop (idx + 1)) = (a.eval y).cells.toList ++ cellsOf (us.drop (idx + 1)) := rfl
    rw [e1, ← cellsOf_take hcv idx (by omega), ← cellsOf_drop hcv (idx + 1) (by omega), ← e, Nat.add_mul, Nat.one_mul]
    simp
  simp only [wpOp, ho]
  rw [if_pos (hw a0 n0 w0 vs B a w c)]
  refine Or.inl ?_
  unfold Oper.wp
  rw [h, Oper.upon_skip]
  refine ⟨undef, rfl, ?_⟩
  rw [hk, hnew]
  have hcv' : ∀ u ∈ us.set idx (a.eval y), Celv sz u := fun u hu => by
    rcases List.mem_or_eq_of_mem_set hu with h | h
    · exact hcv u h
    · rw [h]; exact hcy
  have hid : ∀ b, b = g → idset l bx a0 vs (.inl t) b := fun b hb' => ⟨_, hmem, hb'⟩
  have hev : ∀ w', Ev B (w.setRow g (cellsOf (us.set idx (a.eval y))).toArray) w' → Ev B w w' := fun w' ev => (show Ev B w (w.setRow g (cellsOf (us.set idx (a.eval y))).toArray) from ⟨rfl, rfl, rfl, Nat.le_of_eq (setRow_size _ _ _).symm, fun k _ hn' => setRow_other _ _ _ _ (fun e => hn' (e ▸ hBg))⟩).back (fun _ _ h => h) ev
  refine ⟨⟨rfl, rfl, rfl, Nat.le_of_eq (setRow_size _ _ _).symm, fun k _ hn' => setRow_other _ _ _ _ (fun e => hn' (hid k e))⟩, ⟨fun _ => cellsOf (us.set idx (a.eval y)), fun b hb' => ?_, fun w' ev => ?_⟩, hid⟩
  · subst hb'
    exact ⟨hBg, setRow_heap w _ _ _ _ _ hg⟩
  · obtain ⟨us', e', hul', hcv2, hall'⟩ := h2 w' (hev w' ev)
    have : us' = us := cellsOf_inj hz hcv2 hcv (by rw [← e', e])
    subst this
    refine ⟨_, rfl, by simp [hul], hcv', fun j u φ hu hφ => ?_⟩
    by_cases hj : j = idx
    · subst hj
      rw [List.getElem?_set_self (by omega)] at hu hφ
      cases hu
      cases hφ
      exact hyv w' (hev w' ev)
    · rw [List.getElem?_set_ne (Ne.symm hj)] at hu hφ
      exact hall' j u φ hu hφ
end
/-- What was owned becomes a plain value together with what a slot holds. -/
theorem Sta.thaw {w0 W : World} {n : Nat} {bx bx' : Bxs} {sl : List (Tmp × Pr)} {B : Nat → Prop} {a : Act} (S : Sta w0 n bx sl B a W) (k j : Nat) {t t' e : Nat} {S0 : Nat → Prop} {χ : (Nat → List Value) → World → Prop} {φ θ : Pr} (h : bx[k]? = some (t, .own S0 e χ)) (hj : sl[j]? = some (t', φ)) (hs : ∀ x ∈ bx', x ∈ bx ∧ x.1 ≠ t)
    (hθ : ∀ v w C, φ v w → (∀ b, S0 b → w0.heap.size ≤ b ∧ w.heap[b]? = some (.cells (C b).toArray e (0, 0))) → χ C w → θ v w) :
    Sta w0 n bx' ((t', θ) :: sl) (fun b => B b ∧ ¬ S0 b) a W := by
  have hm := List.mem_of_getElem? h
  obtain ⟨C, h1, h2⟩ := S.box _ hm
  have sub : ∀ w', Ev (fun b => B b ∧ ¬ S0 b) W w' → Ev B W w' := fun w' e => ⟨e.os, e.tape, e.output, e.size, fun k hk hn => e.block k hk (fun h' => hn h'.1)⟩
  refine ⟨S.ent, fun k hk => S.bnd k hk.1, S.siz, S.dfr, fun x hx => ?_, fun x hx y hy => S.sep x (hs x hx).1 y (hs y hy).1, fun x hx => ?_⟩
  · obtain ⟨hx1, hx2⟩ := hs x hx
    have hat := S.box x hx1
    have hin : ∀ b, x.2.set (a.eval (.tmp x.1)) b → B b ∧ ¬ S0 b := fun b hb => ⟨(Rk.inB hat hb).1, fun h' => hx2 (S.sep x hx1 _ hm b hb h')⟩
    obtain ⟨xt, xr⟩ := x
    cases xr with
    | own S1 e1 χ1 =>
      obtain ⟨C1, g1, g2⟩ := hat
      exact ⟨C1, fun b hb => ⟨hin b hb, (g1 b hb).2⟩, fun w' e => g2 w' (sub w' e)⟩
    | box T ψ =>
      obtain ⟨b, u, g1, g2, g3, g4⟩ := hat
      exact ⟨b, u, g1, hin b (by show vblock (a.eval (.tmp xt)) = _; rw [g1]; rfl), g3, fun w' e => g4 w' (sub w' e)⟩
    | row e' s' n'' χ' =>
      obtain ⟨ys, g1, g2, g3⟩ := hat
      exact ⟨ys, g1, hin, fun w' e => g3 w' (sub w' e)⟩
  · rcases List.mem_cons.1 hx with rfl | hx
    · intro w' ew
      refine hθ _ w' C (S.slt _ (List.mem_of_getElem? hj) w' (sub w' ew)) (fun b hb => ⟨(S.bnd b (h1 b hb).1).1, ?_⟩) (h2 w' (sub w' ew))
      exact (ew.block b (Array.getElem?_eq_some_iff.1 (h1 b hb).2).1 (fun h' => h'.2 hb)).trans (h1 b hb).2
    · exact fun w' e => S.slt x hx w' (sub w' e)
/-- New blocks that nobody else knows become the call's own. -/
theorem Sta.ghost {w0 W W' : World} {n : Nat} {bx : Bxs} {sl sl' : List (Tmp × Pr)} {B : Nat → Prop} {a a' : Act} (S : Sta w0 n bx sl B a W) (hb : Below W.heap.size W W') (t : Nat) {e : Nat} {S0 : Nat → Prop} {χ : (Nat → List Value) → World → Prop} {C : Nat → List Value}
    (hsz : a'.tmps.size = n) (hdf : a'.defers = []) (hbx : ∀ x ∈ bx, a'.eval (.tmp x.1) = a.eval (.tmp x.1) ∧ x.1 ≠ t)
    (hS0 : ∀ b, S0 b → W.heap.size ≤ b ∧ W'.heap[b]? = some (.cells (C b).toArray e (0, 0))) (hχ : ∀ w', Ev (fun b => B b ∨ S0 b) W' w' → χ C w')
    (hsl : ∀ x ∈ sl', (x ∈ sl ∧ a'.eval (.tmp x.1) = a.eval (.tmp x.1)) ∨ Has (fun b => B b ∨ S0 b) W' x.2 (a'.eval (.tmp x.1))) :
    Sta w0 n ((t, .own S0 e χ) :: bx) sl' (fun b => B b ∨ S0 b) a' W' := by
  have hWl := hb.size
  have back : ∀ w', Ev (fun b => B b ∨ S0 b) W' w' → Ev B W w' := fun w' ev => ⟨ev.os.trans hb.os, ev.tape.trans hb.tape, ev.output.trans hb.output, Nat.le_trans hWl ev.size, fun k hk hn => (ev.block k (Nat.lt_of_lt_of_le hk hWl) (fun h => by rcases h with h | h; exact hn h; have := (hS0 k h).1; omega)).trans (hb.block k hk)⟩
  have hlt : ∀ b, S0 b → b < W'.heap.size := fun b h => (Array.getElem?_eq_some_iff.1 (hS0 b h).2).1
  have hold : ∀ x ∈ bx, ∀ b, x.2.set (a.eval (.tmp x.1)) b → B b ∧ b < W.heap.size := fun x hx b h => Rk.inB (S.box x hx) h
  refine ⟨S.ent.trans (hb.mono S.ent.size), fun k hk => ?_, hsz, hdf, fun x hx => ?_, fun x hx y hy b h1 h2 => ?_, fun x hx => ?_⟩
  · rcases hk with h | h
    · exact ⟨(S.bnd k h).1, Nat.lt_of_lt_of_le (S.bnd k h).2 hWl⟩
    · exact ⟨Nat.le_trans S.ent.size (hS0 k h).1, hlt k h⟩
  · rcases List.mem_cons.1 hx with rfl | hx
    · exact ⟨C, fun b h => ⟨Or.inr h, (hS0 b h).2⟩, hχ⟩
    · rw [(hbx x hx).1]
      exact Rk.go (S.box x hx) (fun b h => hb.block b (hold x hx b h).2) (Ev.of_below hb) (fun k hk h => by rcases h with h | h; exact h; have := (hS0 k h).1; omega) (fun _ h => Or.inl h)
  · rcases List.mem_cons.1 hx with rfl | hx <;> rcases List.mem_cons.1 hy with rfl | hy
    · rfl
    · rw [(hbx y hy).1] at h2
      have := (hold y hy b h2).2
      have := (hS0 b h1).1
      omega
    · rw [(hbx x hx).1] at h1
      have := (hold x hx b h1).2
      have := (hS0 b h2).1
      omega
    · rw [(hbx x hx).1] at h1
      rw [(hbx y hy).1] at h2
      exact S.sep x hx y hy b h1 h2
  · rcases hsl x hx with ⟨h1, h2⟩ | h
    · intro w' ev
      rw [h2]
      exact S.slt x h1 w' (back w' ev)
    · exact h

/-! Calls that turn a block of their caller's. -/
/-- Into a call that is handed blocks of its caller's own that no argument leads to. -/
theorem calls_ghost {f : FuncId} {fn : Func} {c : Code} {args : Array Value} {w w0 : World} {R : Ending → World → Prop} {n : Nat} {sl : List (Tmp × Pr)} (t : Tmp) {S0 : Nat → Prop} {e : Nat} {χ : (Nat → List Value) → World → Prop} {C : Nat → List Value} (hf : Tryd.prog.funcs[f]? = some fn) (hb : fn.body = some c) (hn : fn.ntmps = n) (hs : args.size ≤ n)
    (hcut : Below w0.heap.size w0 w) (hS : ∀ b, S0 b → w0.heap.size ≤ b ∧ w.heap[b]? = some (.cells (C b).toArray e (0, 0))) (hχ : ∀ w', Ev S0 w w' → χ C w')
    (h : ∀ x ∈ sl, ∃ v, args[x.1]? = some v ∧ Has S0 w x.2 v) (k : ∀ a, Sta w0 n [(t, .own S0 e χ)] (sl ++ [(0, Keep S0 w)]) S0 a w → c.wp Tryd.prog (bodyPost Tryd.prog fn R) a w) : Calls Tryd.prog f args w R := by
  have ev : ∀ (t : Nat) (v : Value), args[t]? = some v → (Act.eval { tmps := args ++ Array.replicate (fn.ntmps - args.size) undef, defers := [] } (.tmp t)) = v := fun t v hv => by
    have hlt : t < args.size := (Array.getElem?_eq_some_iff.1 hv).1
    simp only [Act.eval, Array.getD_eq_getD_getElem?, Array.getElem?_append_left hlt, hv, Option.getD_some]
  refine calls_of_wp hf hb (k _ (Sta.also ⟨hcut, fun b hb => ⟨(hS b hb).1, (Array.getElem?_eq_some_iff.1 (hS b hb).2).1⟩, ?_, rfl, fun x hx => ?_, fun x hx y hy b h1 h2 => ?_, fun x hx => ?_⟩ 0 keep_has))
  · simp [hn]; omega
  · simp only [List.mem_singleton] at hx
    subst hx
    exact ⟨C, fun b hb => ⟨hb, (hS b hb).2⟩, hχ⟩
  · simp only [List.mem_singleton] at hx hy
    rw [hx, hy]
  · obtain ⟨v, hv, hh⟩ := h x hx
    rw [ev _ _ hv]
    exact hh
/-- Out of such a call, with one answer. -/
theorem end_ghost {w0 w W : World} {n : Nat} {bx : Bxs} {sl : List (Tmp × Pr)} {B S0 : Nat → Prop} {a : Act} {fn : Func} {R : Ending → World → Prop} {t : Nat} {φ : Pr} (S : Sta w0 n bx sl B a W) (hr : fn.results = #[.tmp t]) (k j : Nat) (h : sl[k]? = some (t, φ)) (hj : sl[j]? = some (0, Keep S0 w)) (hR : ∀ v, φ v W → Ev S0 w W → R (.returned v) W) : bodyPost Tryd.prog fn R .ret a W := by
  obtain ⟨v, h1, h2⟩ := res_tmp S k t h
  exact bodyPost_ret (results_one hr h1) S.dfr (hR v h2 (S.slt _ (List.mem_of_getElem? hj)).now)
section
variable {ops : Array Oper} {l : List Kd} {bx : Bxs} {sl : List (Tmp × Pr)} {i : Nat} {o : Oper} {Q : Exit → Act → World → Prop} {a0 : Act} {n0 : Nat} {w0 : World}
/-- A call that turns blocks of the call's own. -/
theorem owe_callT {xs : Array Operand} {x : Operand} {ts : Array TypeId} {t k e : Nat} {S0 : Nat → Prop} {χ χ' : (Nat → List Value) → World → Prop} {φ : Pr} (ho : ops[i]? = some o) (hw : Wants ops l bx sl i o) (hop : o.op = .call { callee := .value x, args := xs, argTypes := ts }) (hb : bx[k]? = some (t, .own S0 e χ)) (hn : unturned ops l i (.inl t) = true) (hk : kdAt l i = .turn (.inl t) (.own S0 e χ') φ)
    (h : ∀ vs B a w, Ctx ops l bx sl a0 n0 w0 i vs B a w → ∀ C, (∀ b, S0 b → B b ∧ w.heap[b]? = some (.cells (C b).toArray e (0, 0))) → (∀ w', Ev B w w' → χ C w') → ∃ f caps, a.eval x = .func (.func f) #[] caps ∧ (∀ args w, (callFunc f args).run Tryd.prog w = .ok (.enter f args) w) ∧
      Calls Tryd.prog f (xs.map a.eval ++ caps) w fun e' w' => ∃ v C', e' = .returned v ∧ Chg S0 w w' ∧ (∀ b, S0 b → w'.heap[b]? = some (.cells (C' b).toArray e (0, 0))) ∧ (∀ w'', Ev B w' w'' → χ' C' w'') ∧ Has B w' φ v) : Owed Tryd.prog ops Q l bx sl a0 n0 w0 i := fun vs B a w c o' ho' => by
  obtain rfl : o = o' := Option.some.inj (ho.symm.trans ho')
  have hmem := List.mem_of_getElem? hb
  obtain ⟨C, h1, h2⟩ := c.box t _ hmem hn
  obtain ⟨f, caps, hf, hcf, hC⟩ := h vs B a w c C h1 h2
  have hr : (execOp a.eval o).run Tryd.prog w = .ok (.enter f (xs.map a.eval ++ caps)) w := by
    unfold execOp
    rw [hop]
    generalize hxs : xs.map a.eval = ys
    simp only [resolve, hxs, hf]
    clear hxs hC h c
    go_simp
  simp only [wpOp, ho]
  rw [if_pos (hw a0 n0 w0 vs B a w c)]
  refine Or.inl ?_
  unfold Oper.wp
  rw [hr, Oper.upon_enter]
  refine hC.mono ?_
  rintro e' w' ⟨v, C', rfl, hc, hs, hχ', hφ⟩
  refine ⟨v, rfl, ?_⟩
  rw [hk]
  have hid : ∀ b, S0 b → idset l bx a0 vs (.inl t) b := fun b hb' => ⟨_, hmem, hb'⟩
  exact ⟨⟨⟨hc.os, hc.tape, hc.output, hc.size, fun k hk' hn' => hc.block k hk' (fun h' => hn' (hid k h'))⟩, ⟨C', fun b hb' => ⟨(h1 b hb').1, hs b hb'⟩, hχ'⟩, hid⟩, hφ⟩
end
/-- A row that is grown no more becomes a plain value; it is none of certain blocks. -/
theorem Sta.freezeX {w0 W : World} {n : Nat} {bx bx' : Bxs} {sl : List (Tmp × Pr)} {B : Nat → Prop} {a : Act} (S : Sta w0 n bx sl B a W) (k : Nat) {t e size n' : Nat} {χ : List Value → World → Prop} (h : bx[k]? = some (t, .row e size n' χ)) (hs : ∀ x ∈ bx', x ∈ bx ∧ x.1 ≠ t) (k1 : Nat) {t1 e1 : Nat} {S1 : Nat → Prop} {χ1 : (Nat → List Value) → World → Prop} (h1 : bx[k1]? = some (t1, .own S1 e1 χ1)) (hne : t1 ≠ t) {φ : Pr} (hφ : ∀ v w xs, w.ownsRow w0.heap.size e size v n' xs → (∀ b, vblock v = some b → ¬ S1 b) → χ xs w → φ v w) :
    Sta w0 n bx' ((t, φ) :: sl) (fun j => B j ∧ vblock (a.eval (.tmp t)) ≠ some j) a W := by
  have hx : ∀ b, vblock (a.eval (.tmp t)) = some b → ¬ S1 b := fun b hb hS => hne (S.sep _ (List.mem_of_getElem? h1) _ (List.mem_of_getElem? h) b hS hb)
  have S2 := S.freeze (bx' := bx') k h hs (φ := fun v w => (∃ xs, w.ownsRow w0.heap.size e size v n' xs ∧ χ xs w)) (fun v w xs h1 h2 => ⟨xs, h1, h2⟩)
  refine ⟨S2.ent, S2.bnd, S2.siz, S2.dfr, S2.box, S2.sep, fun x hx' => ?_⟩
  rcases List.mem_cons.1 hx' with rfl | hx'
  · intro w' ew
    obtain ⟨xs, g1, g2⟩ := S2.slt _ (List.mem_cons_self ..) w' ew
    exact hφ _ w' xs g1 hx g2
  · exact S2.slt x (List.mem_cons_of_mem _ hx')
end Go.Proofs.YtdhjgekbocnnkaaDoor

/-
  mat.cut's closure: the next row is cut off the list; boxes of one cell.
-/
namespace Go.Proofs.YtdhjgekbocnnkaaDoor
open Go Go.RowKit Nt
set_option linter.unusedSimpArgs false
set_option linter.unusedVariables false
set_option maxRecDepth 20000

theorem ldr_mat1 : Ldr 22 1 := fun ρ o x w b k u hu hc hx => by
  obtain ⟨e, h1⟩ := celv1 hu
  have h2 : w.cell? ⟨b, k, none⟩ = some u := hc 0 u (by rw [e]; rfl)
  clear hc hu e
  unfold execOp
  go_simp
theorem loads_ldr {T sz : Nat} (hE : Ldr T sz) {φ : Pr} (hc : Cel sz φ) : Loads T φ := fun ρ w o x b u hφ hx hb hop => by
  have := hE ρ o x w b 0 u (hc u w hφ) (fun j c hj => by simp only [World.cell?, hb, Nat.zero_add]; simpa using hj) hx
  rw [← this]
  unfold execOp
  rw [hop]
theorem stores_sto {T sz : Nat} (hE : Sto T sz) {φ ψ : Pr} (hc : Cel sz φ) (hc' : Cel sz ψ) : Stores T φ ψ := fun ρ w o x y b u hφ hb hx hψ hop => by
  have h1 := hc u w hφ
  have h2 := hc' _ w hψ
  have := hE ρ o x y w b 0 _ h2 (there_of hb h1.siz) hx rfl
  rw [set_all hb (by rw [h1.siz, h2.siz])] at this
  rw [← this]
  unfold execOp
  rw [hop]
theorem bx1_row (ρ : Operand → Value) (o : Oper) (x : Operand) (w : World) (hu : Celv 1 (ρ x)) : (execOp ρ { o with op := .box 23 x }).run Tryd.prog w = .ok (.value (.pointer (some ⟨w.heap.size, 0, none⟩))) (w.alloc (.cells (ρ x).cells 23 (0, 0))) := by
  obtain ⟨e, h1⟩ := celv1 hu
  rw [e]
  clear hu e
  generalize hx : ρ x = u at *
  cases u <;> first | (simp [Value.oneCell'] at h1; done) | (unfold execOp; go_simp; done)
theorem bx1_mat (ρ : Operand → Value) (o : Oper) (x : Operand) (w : World) (hu : Celv 1 (ρ x)) : (execOp ρ { o with op := .box 22 x }).run Tryd.prog w = .ok (.value (.pointer (some ⟨w.heap.size, 0, none⟩))) (w.alloc (.cells (ρ x).cells 22 (0, 0))) := by
  obtain ⟨e, h1⟩ := celv1 hu
  rw [e]
  clear hu e
  generalize hx : ρ x = u at *
  cases u <;> first | (simp [Value.oneCell'] at h1; done) | (unfold execOp; go_simp; done)
theorem bx1_i (ρ : Operand → Value) (o : Oper) (x : Operand) (w : World) (hu : Celv 1 (ρ x)) : (execOp ρ { o with op := .box 3 x }).run Tryd.prog w = .ok (.value (.pointer (some ⟨w.heap.size, 0, none⟩))) (w.alloc (.cells (ρ x).cells 3 (0, 0))) := by
  obtain ⟨e, h1⟩ := celv1 hu
  rw [e]
  clear hu e
  generalize hx : ρ x = u at *
  cases u <;> first | (simp [Value.oneCell'] at h1; done) | (unfold execOp; go_simp; done)

/-- Where the list goes on behind a row of s. -/
def nextAt (g o C s : Nat) : Nat := if C = s then o else o + 2 * s
set_option maxHeartbeats 1000000 in
theorem cut1_c (w : World) (bb g o N C s : Nat) (hb : w.heap[bb]? = some (.cells #[.slice (some ⟨g, o, none⟩) N C] 23 (0, 0))) (h1 : s ≤ N) (h2 : N ≤ C) (h3 : C ≤ maxLen) :
    Calls Tryd.prog 82 #[.int .i64 (s : Nat), .pointer (some ⟨bb, 0, none⟩)] w fun e w' => e = .returned (.slice (some ⟨g, o, none⟩) s s) ∧ w' = w.setRow bb #[.slice (some ⟨g, nextAt g o C s, none⟩) (N - s) (C - s)] := by
  have hc : w.cell? ⟨bb, 0, none⟩ = some (.slice (some ⟨g, o, none⟩) N C) := by simp [World.cell?, hb]
  have hf : w.frozen? ⟨bb, 0, none⟩ = false := by simp [World.frozen?, hb]
  have hset : w.setCell ⟨bb, 0, none⟩ (.slice (some ⟨g, nextAt g o C s, none⟩) (N - s) (C - s)) = w.setRow bb #[.slice (some ⟨g, nextAt g o C s, none⟩) (N - s) (C - s)] := by
    rw [setCell_eq_setRow w bb 0 _ _ _ _ hb]
    rfl
  have hC : s ≤ C := Nat.le_trans h1 h2
  unfold maxLen at h3
  rw [← hset]
  clear hset hb
  unfold nextAt
  by_cases e : C = s
  · subst e
    obtain rfl : N = C := by omega
    go_enter Tryd.func82, Tryd.ntmps82
    go_wp2
    exact bodyPost_ret (by simp [results, Tryd.results82, go_sem]; try rfl) rfl ⟨rfl, rfl⟩
  · go_enter Tryd.func82, Tryd.ntmps82
    go_wp2
    exact bodyPost_ret (by simp [results, Tryd.results82, go_sem]; try rfl) rfl ⟨rfl, by rw [Nat.mul_comm s 2]⟩

/-! The rows that are cut off: how many numbers stand ahead of each. -/
def ahead (ss : List Nat) (k : Nat) : Nat := (ss.take k).sum
theorem ahead_succ {ss : List Nat} {k s : Nat} (h : ss[k]? = some s) : ahead ss (k + 1) = ahead ss k + s := by
  unfold ahead
  rw [List.take_add_one, h]
  simp
theorem ahead_le (ss : List Nat) (k : Nat) : ahead ss k ≤ ss.sum := by
  unfold ahead
  have : ss.sum = (ss.take k).sum + (ss.drop k).sum := by rw [← List.sum_append_nat, List.take_append_drop]
  omega
/-- What the list is when k rows are cut off: its place does not go beyond its end. -/
def stAt (o : Nat) (ss : List Nat) (C : Nat) : Nat → Nat
  | 0 => o
  | k + 1 => nextAt 0 (stAt o ss C k) (C - ahead ss k) (ss.getD k 0)
def stV (g o N C : Nat) (ss : List Nat) (k : Nat) : Value := .slice (some ⟨g, stAt o ss C k, none⟩) (N - ahead ss k) (C - ahead ss k)
/-- The row number k. -/
def rowV (g o C : Nat) (ss : List Nat) (k : Nat) : Value := .slice (some ⟨g, stAt o ss C k, none⟩) (ss.getD k 0) (ss.getD k 0)
/-- Its place, where it has a number. -/
theorem stAt_pos {o C : Nat} {ss : List Nat} (hC : ss.sum ≤ C) : ∀ {k : Nat}, ahead ss k < C → stAt o ss C k = o + 2 * ahead ss k
  | 0, _ => by simp [stAt, ahead]
  | k + 1, h => by
    have hk : ahead ss k ≤ ahead ss (k + 1) := by
      cases hs : ss[k]? with
      | none => unfold ahead; rw [List.take_add_one, hs]; simp
      | some s => rw [ahead_succ hs]; omega
    have ih := stAt_pos (o := o) hC (k := k) (by omega)
    show nextAt 0 (stAt o ss C k) (C - ahead ss k) (ss.getD k 0) = _
    cases hs : ss[k]? with
    | none =>
      have e : ahead ss (k + 1) = ahead ss k := by unfold ahead; rw [List.take_add_one, hs]; simp
      rw [e] at h ⊢
      simp only [nextAt, List.getD_eq_getElem?_getD, hs, Option.getD_none, ih]
      rw [if_neg (by omega)]
      omega
    | some s =>
      rw [ahead_succ hs] at h ⊢
      simp only [nextAt, List.getD_eq_getElem?_getD, hs, Option.getD_some, ih]
      rw [if_neg (by omega)]
      omega
theorem cut1_at (w : World) (bb g o N C : Nat) (ss : List Nat) (k s : Nat) (hk : ss[k]? = some s) (hN : ss.sum ≤ N) (hC : N ≤ C) (hm : C ≤ maxLen) (hb : w.heap[bb]? = some (.cells #[stV g o N C ss k] 23 (0, 0))) :
    Calls Tryd.prog 82 #[.int .i64 (s : Nat), .pointer (some ⟨bb, 0, none⟩)] w fun e w' => e = .returned (rowV g o C ss k) ∧ w' = w.setRow bb #[stV g o N C ss (k + 1)] := by
  have h1 := ahead_succ hk
  have h2 := ahead_le ss (k + 1)
  have hg : ss.getD k 0 = s := by rw [List.getD_eq_getElem?_getD, hk]; rfl
  have := cut1_c w bb g (stAt o ss C k) (N - ahead ss k) (C - ahead ss k) s hb (by omega) (by omega) (by omega)
  have e1 : rowV g o C ss k = .slice (some ⟨g, stAt o ss C k, none⟩) s s := by unfold rowV; rw [hg]
  have e2 : stV g o N C ss (k + 1) = .slice (some ⟨g, nextAt g (stAt o ss C k) (C - ahead ss k) s, none⟩) (N - ahead ss k - s) (C - ahead ss k - s) := by
    unfold stV
    rw [show stAt o ss C (k + 1) = nextAt 0 (stAt o ss C k) (C - ahead ss k) (ss.getD k 0) from rfl, hg, h1, Nat.sub_sub, Nat.sub_sub]
    rfl
  rw [e1, e2]
  exact this

theorem owe_callCut {ops : Array Oper} {l : List Kd} {bx : Bxs} {sl : List (Tmp × Pr)} {i : Nat} {oo : Oper} {Q : Exit → Act → World → Prop} {a0 : Act} {n0 : Nat} {w0 : World} {x y : Operand} {ts : Array TypeId} {t kk bb g o N C k s : Nat} {ss : List Nat} (ho : ops[i]? = some oo) (hw : Wants ops l bx sl i oo) (hop : oo.op = .call { callee := .value x, args := #[y], argTypes := ts })
    (hb : bx[kk]? = some (t, .own (fun b => b = bb) 23 (fun C' w => C' bb = [stV g o N C ss k]))) (hn : unturned ops l i (.inl t) = true) (hx : Opnd ops l bx sl i x (Is (.func (.func 82) #[] #[.pointer (some ⟨bb, 0, none⟩)]))) (hy : Opnd ops l bx sl i y (Is (.int .i64 (s : Nat)))) (hs : ss[k]? = some s) (hN : ss.sum ≤ N) (hC : N ≤ C) (hm : C ≤ maxLen)
    (hk : kdAt l i = .turn (.inl t) (.own (fun b => b = bb) 23 (fun C' w => C' bb = [stV g o N C ss (k + 1)])) (Is (rowV g o C ss k))) : Owed Tryd.prog ops Q l bx sl a0 n0 w0 i :=
  owe_callT ho hw hop hb hn hk fun vs B a w c C' h1 h2 => by
    have hxv := (hx a0 n0 w0 vs B a w c).now
    have hyv : a.eval y = _ := (hy a0 n0 w0 vs B a w c).now
    have hst : C' bb = [stV g o N C ss k] := h2 w (Ev.refl _ _)
    obtain ⟨hBb, hg⟩ := h1 bb rfl
    rw [hst] at hg
    refine ⟨_, _, hxv, fun args w => by go_simp, ?_⟩
    rw [show (#[y] : Array Operand).map a.eval ++ #[.pointer (some ⟨bb, 0, none⟩)] = #[a.eval y, .pointer (some ⟨bb, 0, none⟩)] from by simp, hyv]
    refine (cut1_at w bb g o N C ss k s hs hN hC hm hg).mono ?_
    rintro e' w' ⟨rfl, rfl⟩
    refine ⟨_, fun _ => [stV g o N C ss (k + 1)], rfl, ⟨rfl, rfl, rfl, Nat.le_of_eq (setRow_size _ _ _).symm, fun k _ hn' => setRow_other _ _ _ _ (fun e => hn' e)⟩, fun b hb' => ?_, fun _ _ => rfl, fun _ _ => rfl⟩
    subst hb'
    exact setRow_heap w _ _ _ _ _ hg
end Go.Proofs.YtdhjgekbocnnkaaDoor
