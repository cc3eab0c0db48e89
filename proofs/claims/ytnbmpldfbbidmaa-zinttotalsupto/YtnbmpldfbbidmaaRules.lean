/-
  The rules of the logic of statements, one a kind of operation.
-/
import Derived.Test.YtnbmpldfbbidmaaHoare
import Derived.Test.YtnbmpldfbbidmaaChecked
import Derived.WalkKit
import Derived.Handy
namespace Go.Proofs.Ytnbmpldfbbidmaa
open Go Go.RowKit
set_option linter.unusedSimpArgs false
set_option linter.unusedVariables false

/-- Just this value. -/
def Is (u : Value) : Pr := fun v _ => v = u
/-- What is made from a block on: it holds from an earlier one on too, and does not hang on blocks ahead of it. -/
structure Fresh (ψ : Nat → Pr) : Prop where
  mono : ∀ lo lo' v w, lo' ≤ lo → ψ lo v w → ψ lo' v w
  ev : ∀ lo v w w' (B : Nat → Prop), (∀ k, B k → k < lo) → ψ lo v w → Ev B w w' → ψ lo v w'
/-- What a call answers. -/
def Gives (ψ : Nat → Pr) (w : World) (e : Ending) (w' : World) : Prop := ∃ v, e = .returned v ∧ Below w.heap.size w w' ∧ ψ w.heap.size v w'
def IS (u : Value) : Nat → Pr := fun _ => Is u
theorem fresh_is (u : Value) : Fresh (IS u) := ⟨fun _ _ _ _ _ h => h, fun _ _ _ _ _ _ h _ => h⟩
def TWO (φ ψ : Nat → Pr) : Nat → Pr := fun lo v w => ∃ x y, v = .tuple #[x, y] ∧ φ lo x w ∧ ψ lo y w
def THREE (φ ψ χ : Nat → Pr) : Nat → Pr := fun lo v w => ∃ x y z, v = .tuple #[x, y, z] ∧ φ lo x w ∧ ψ lo y w ∧ χ lo z w
theorem fresh_two {φ ψ : Nat → Pr} (h : Fresh φ) (h' : Fresh ψ) : Fresh (TWO φ ψ) :=
  ⟨fun lo lo' v w hl ⟨x, y, e, a, b⟩ => ⟨x, y, e, h.mono _ _ _ _ hl a, h'.mono _ _ _ _ hl b⟩, fun lo v w w' B hB ⟨x, y, e, a, b⟩ ev => ⟨x, y, e, h.ev _ _ _ _ B hB a ev, h'.ev _ _ _ _ B hB b ev⟩⟩
theorem fresh_three {φ ψ χ : Nat → Pr} (h : Fresh φ) (h' : Fresh ψ) (h'' : Fresh χ) : Fresh (THREE φ ψ χ) :=
  ⟨fun lo lo' v w hl ⟨x, y, z, e, a, b, c⟩ => ⟨x, y, z, e, h.mono _ _ _ _ hl a, h'.mono _ _ _ _ hl b, h''.mono _ _ _ _ hl c⟩, fun lo v w w' B hB ⟨x, y, z, e, a, b, c⟩ ev => ⟨x, y, z, e, h.ev _ _ _ _ B hB a ev, h'.ev _ _ _ _ B hB b ev, h''.ev _ _ _ _ B hB c ev⟩⟩

section
variable {ops : Array Oper} {l : List Kd} {bx : Bxs} {sl : List (Tmp × Pr)} {i : Nat} {o : Oper} {Q : Exit → Act → World → Prop} {a0 : Act} {n : Nat} {w0 : World}

/-- What is known of an operand when operation i comes up. -/
def Opnd (ops : Array Oper) (l : List Kd) (bx : Bxs) (sl : List (Tmp × Pr)) (i : Nat) (x : Operand) (φ : Pr) : Prop :=
  ∀ a0 n w0 vs B a w, Ctx ops l bx sl a0 n w0 i vs B a w → Has B w φ (a.eval x)
theorem opnd_op (j d : Nat) {φ : Pr} (h : ((depsOf ops i).contains j && (dstOf ops j == some d)) = true) (hk : kdAt l j = .val φ) : Opnd ops l bx sl i (.tmp d) φ := fun a0 n w0 vs B a w c => by
  simp only [Bool.and_eq_true, List.contains_iff_mem, beq_iff_eq] at h
  exact c.val j d φ h.1 hk h.2
theorem opnd_slot (k t : Nat) {φ : Pr} (h : sl[k]? = some (t, φ)) (hf : slotFree ops i t = true) : Opnd ops l bx sl i (.tmp t) φ := fun a0 n w0 vs B a w c => c.slt t φ (List.mem_of_getElem? h) hf
theorem opnd_const (u : Value) : Opnd ops l bx sl i (.const u) (Is u) := fun a0 n w0 vs B a w c w' e => rfl
theorem Opnd.imp {x : Operand} {φ ψ : Pr} (h : Opnd ops l bx sl i x φ) (hi : ∀ v w, φ v w → ψ v w) : Opnd ops l bx sl i x ψ := fun a0 n w0 vs B a w c => (h a0 n w0 vs B a w c).imp (fun w => hi _ w)

/-- It is wanted. -/
def Wants (ops : Array Oper) (l : List Kd) (bx : Bxs) (sl : List (Tmp × Pr)) (i : Nat) (o : Oper) : Prop := ∀ a0 n w0 vs B a w, Ctx ops l bx sl a0 n w0 i vs B a w → Region.wanted o (yielded ops a.tmps) = true
theorem wants_all (h : o.guard = none) : Wants ops l bx sl i o := fun a0 n w0 vs B a w c => by simp [Region.wanted, h]
theorem yielded_of {a : Act} {j d : Nat} {b : Bool} (hd : dstOf ops j = some d) (h : a.eval (.tmp d) = .bool b) : yielded ops a.tmps j = some b := by
  have h1 : a.tmps[d]? = some (.bool b) := by
    simp only [Act.eval] at h
    cases hx : a.tmps[d]? with
    | none => simp [hx] at h; cases h
    | some v => simp [hx] at h; rw [h]
  have hd' : ((ops[j]?).bind (·.dst)) = some d := hd
  simp [yielded, hd', h1]
theorem wants_if (j d : Nat) {b : Bool} (hg : o.guard = some (j, b)) (h : ((depsOf ops i).contains j && (dstOf ops j == some d)) = true) (hk : kdAt l j = .val (Is (.bool b))) : Wants ops l bx sl i o := fun a0 n w0 vs B a w c => by
  have hv := (opnd_op (bx := bx) (sl := sl) j d h hk a0 n w0 vs B a w c).now
  simp only [Bool.and_eq_true, List.contains_iff_mem, beq_iff_eq] at h
  simp [Region.wanted, hg, yielded_of h.2 hv]
/-- It is not. -/
theorem owe_off (j d : Nat) {b b' : Bool} (ho : ops[i]? = some o) (hk : kdAt l i = .off) (hg : o.guard = some (j, b)) (h : ((depsOf ops i).contains j && (dstOf ops j == some d)) = true) (hkj : kdAt l j = .val (Is (.bool b'))) (hb : b' ≠ b) : Owed Try.prog ops Q l bx sl a0 n w0 i := fun vs B a w c o' ho' => by
  obtain rfl : o = o' := Option.some.inj (ho.symm.trans ho')
  have hv := (opnd_op (bx := bx) (sl := sl) j d h hkj a0 n w0 vs B a w c).now
  simp only [Bool.and_eq_true, List.contains_iff_mem, beq_iff_eq] at h
  simp only [wpOp, ho]
  rw [if_neg (by simp [Region.wanted, hg, yielded_of h.2 hv]; exact hb)]
  exact ⟨undef, rfl, by rw [hk]; rfl⟩

/-- A value out of the world as it is. -/
theorem owe_val {φ : Pr} (ho : ops[i]? = some o) (hw : Wants ops l bx sl i o) (hk : kdAt l i = .val φ)
    (h : ∀ vs B a w, Ctx ops l bx sl a0 n w0 i vs B a w → ∃ v, (execOp a.eval o).run Try.prog w = .ok (.value v) w ∧ Has B w φ v) : Owed Try.prog ops Q l bx sl a0 n w0 i := fun vs B a w c o' ho' => by
  obtain rfl : o = o' := Option.some.inj (ho.symm.trans ho')
  obtain ⟨v, hr, hφ⟩ := h vs B a w c
  simp only [wpOp, ho]
  rw [if_pos (hw a0 n w0 vs B a w c)]
  refine Or.inl ?_
  unfold Oper.wp
  rw [hr, Oper.upon_value]
  exact ⟨v, rfl, by rw [hk]; exact ⟨Below.refl _ _, hφ⟩⟩
theorem owe_move {φ : Pr} {x : Operand} (ho : ops[i]? = some o) (hw : Wants ops l bx sl i o) (hop : o.op = .move x ∨ o.op = .assign x) (h : Opnd ops l bx sl i x φ) (hk : kdAt l i = .val φ) : Owed Try.prog ops Q l bx sl a0 n w0 i :=
  owe_val ho hw hk fun vs B a w c => ⟨a.eval x, by unfold execOp; rcases hop with e | e <;> rw [e] <;> rfl, h a0 n w0 vs B a w c⟩
/-- A pure operation upon known values. -/
theorem owe_is {u : Value} (ho : ops[i]? = some o) (hw : Wants ops l bx sl i o) (hk : kdAt l i = .val (Is u)) (h : ∀ vs B a w, Ctx ops l bx sl a0 n w0 i vs B a w → (execOp a.eval o).run Try.prog w = .ok (.value u) w) : Owed Try.prog ops Q l bx sl a0 n w0 i :=
  owe_val ho hw hk fun vs B a w c => ⟨u, h vs B a w c, fun _ _ => rfl⟩
theorem owe_bin {x y : Operand} {op : BinOp} {T T' : TypeId} {u v r : Value} (ho : ops[i]? = some o) (hw : Wants ops l bx sl i o) (hop : o.op = .binOp op T x y T') (hx : Opnd ops l bx sl i x (Is u)) (hy : Opnd ops l bx sl i y (Is v)) (hk : kdAt l i = .val (Is r))
    (hr : ∀ (ρ : Operand → Value) (w : World), ρ x = u → ρ y = v → (execOp ρ { o with op := .binOp op T x y T' }).run Try.prog w = .ok (.value r) w) : Owed Try.prog ops Q l bx sl a0 n w0 i :=
  owe_is ho hw hk fun vs B a w c => by
    have := hr a.eval w (hx a0 n w0 vs B a w c).now (hy a0 n w0 vs B a w c).now
    rw [← this]
    unfold execOp
    rw [hop]
theorem owe_un {x : Operand} {P' : Op} {u r : Value} (ho : ops[i]? = some o) (hw : Wants ops l bx sl i o) (hop : o.op = P') (hx : Opnd ops l bx sl i x (Is u)) (hk : kdAt l i = .val (Is r))
    (hr : ∀ (ρ : Operand → Value) (w : World), ρ x = u → (execOp ρ { o with op := P' }).run Try.prog w = .ok (.value r) w) : Owed Try.prog ops Q l bx sl a0 n w0 i :=
  owe_is ho hw hk fun vs B a w c => by
    have := hr a.eval w (hx a0 n w0 vs B a w c).now
    rw [← this]
    unfold execOp
    rw [hop]
theorem owe_pick {c x y : Operand} {t : Bool} {φ : Pr} (ho : ops[i]? = some o) (hw : Wants ops l bx sl i o) (hop : o.op = .pick c x y) (hc : Opnd ops l bx sl i c (Is (.bool t))) (hx : t = true → Opnd ops l bx sl i x φ) (hy : t = false → Opnd ops l bx sl i y φ) (hk : kdAt l i = .val φ) : Owed Try.prog ops Q l bx sl a0 n w0 i :=
  owe_val ho hw hk fun vs B a w cx => by
    have hcv : a.eval c = .bool t := (hc a0 n w0 vs B a w cx).now
    cases t with
    | true => exact ⟨a.eval x, by unfold execOp; rw [hop]; simp only [hcv]; rfl, hx rfl a0 n w0 vs B a w cx⟩
    | false => exact ⟨a.eval y, by unfold execOp; rw [hop]; simp only [hcv]; rfl, hy rfl a0 n w0 vs B a w cx⟩
theorem owe_ext2 {φ ψ : Nat → Pr} {χ : Pr} {x : Operand} {k lo : Nat} (ho : ops[i]? = some o) (hw : Wants ops l bx sl i o) (hop : o.op = .extract x k) (h : Opnd ops l bx sl i x (TWO φ ψ lo)) (hχ : (k = 0 ∧ χ = φ lo) ∨ (k = 1 ∧ χ = ψ lo)) (hk : kdAt l i = .val χ) : Owed Try.prog ops Q l bx sl a0 n w0 i :=
  owe_val ho hw hk fun vs B a w c => by
    have hx := h a0 n w0 vs B a w c
    obtain ⟨y, z, e, _, _⟩ := hx.now
    rcases hχ with ⟨rfl, rfl⟩ | ⟨rfl, rfl⟩
    · refine ⟨y, ?_, fun w' e' => ?_⟩
      · unfold execOp
        rw [hop]
        generalize a.eval = ρ at e
        go_simp
      · obtain ⟨y', z', e1, h1, _⟩ := hx w' e'
        rw [e] at e1
        simp at e1
        rw [e1.1]; exact h1
    · refine ⟨z, ?_, fun w' e' => ?_⟩
      · unfold execOp
        rw [hop]
        generalize a.eval = ρ at e
        go_simp
      · obtain ⟨y', z', e1, _, h1⟩ := hx w' e'
        rw [e] at e1
        simp at e1
        rw [e1.2]; exact h1
theorem owe_ext3 {φ ψ χ : Nat → Pr} {θ : Pr} {x : Operand} {k lo : Nat} (ho : ops[i]? = some o) (hw : Wants ops l bx sl i o) (hop : o.op = .extract x k) (h : Opnd ops l bx sl i x (THREE φ ψ χ lo)) (hχ : (k = 0 ∧ θ = φ lo) ∨ (k = 1 ∧ θ = ψ lo) ∨ (k = 2 ∧ θ = χ lo)) (hk : kdAt l i = .val θ) : Owed Try.prog ops Q l bx sl a0 n w0 i :=
  owe_val ho hw hk fun vs B a w c => by
    have hx := h a0 n w0 vs B a w c
    obtain ⟨y, z, u, e, _, _, _⟩ := hx.now
    rcases hχ with ⟨rfl, rfl⟩ | ⟨rfl, rfl⟩ | ⟨rfl, rfl⟩
    · refine ⟨y, ?_, fun w' e' => ?_⟩
      · unfold execOp
        rw [hop]
        generalize a.eval = ρ at e
        go_simp
      · obtain ⟨y', z', u', e1, h1, _, _⟩ := hx w' e'
        rw [e] at e1
        simp at e1
        rw [e1.1]; exact h1
    · refine ⟨z, ?_, fun w' e' => ?_⟩
      · unfold execOp
        rw [hop]
        generalize a.eval = ρ at e
        go_simp
      · obtain ⟨y', z', u', e1, _, h1, _⟩ := hx w' e'
        rw [e] at e1
        simp at e1
        rw [e1.2.1]; exact h1
    · refine ⟨u, ?_, fun w' e' => ?_⟩
      · unfold execOp
        rw [hop]
        generalize a.eval = ρ at e
        go_simp
      · obtain ⟨y', z', u', e1, _, _, h1⟩ := hx w' e'
        rw [e] at e1
        simp at e1
        rw [e1.2.2]; exact h1

/-! Calls. -/
theorem owe_call {ψ : Nat → Pr} {f : FuncId} {xs : Array Operand} {ts : Array TypeId} (ho : ops[i]? = some o) (hw : Wants ops l bx sl i o) (hop : o.op = .call { callee := .value (.func f), args := xs, argTypes := ts }) (hF : Fresh ψ) (hk : kdAt l i = .val (ψ w0.heap.size))
    (hcf : ∀ args w, (callFunc f args).run Try.prog w = .ok (.enter f args) w)
    (h : ∀ vs B a w, Ctx ops l bx sl a0 n w0 i vs B a w → Calls Try.prog f (xs.map a.eval) w (Gives ψ w)) : Owed Try.prog ops Q l bx sl a0 n w0 i := fun vs B a w c o' ho' => by
  obtain rfl : o = o' := Option.some.inj (ho.symm.trans ho')
  have hr : (execOp a.eval o).run Try.prog w = .ok (.enter f (xs.map a.eval)) w := by
    unfold execOp
    rw [hop]
    have hf : a.eval (.func f) = .func (.func f) #[] #[] := rfl
    generalize a.eval = ρ at hf
    go_simp
  simp only [wpOp, ho]
  rw [if_pos (hw a0 n w0 vs B a w c)]
  refine Or.inl ?_
  unfold Oper.wp
  rw [hr, Oper.upon_enter]
  refine (h vs B a w c).mono ?_
  rintro e w' ⟨v, rfl, hb, hψ⟩
  refine ⟨v, rfl, ?_⟩
  rw [hk]
  exact ⟨hb, fun w'' e'' => hF.mono _ _ _ _ c.lo (hF.ev _ _ _ _ B (fun k hk => (c.bnd k hk).2) hψ e'')⟩
theorem owe_call1 {ψ : Nat → Pr} {f : FuncId} {x : Operand} {ts : Array TypeId} {φ : Pr} (ho : ops[i]? = some o) (hw : Wants ops l bx sl i o) (hop : o.op = .call { callee := .value (.func f), args := #[x], argTypes := ts }) (hx : Opnd ops l bx sl i x φ) (hF : Fresh ψ) (hk : kdAt l i = .val (ψ w0.heap.size))
    (hcf : ∀ args w, (callFunc f args).run Try.prog w = .ok (.enter f args) w) (C : ∀ w u, φ u w → Calls Try.prog f #[u] w (Gives ψ w)) : Owed Try.prog ops Q l bx sl a0 n w0 i :=
  owe_call ho hw hop hF hk hcf fun vs B a w c => by
    rw [show (#[x] : Array Operand).map a.eval = #[a.eval x] from by simp]
    exact C w _ (hx a0 n w0 vs B a w c).now
theorem owe_call2 {ψ : Nat → Pr} {f : FuncId} {x y : Operand} {ts : Array TypeId} {φ φ' : Pr} (ho : ops[i]? = some o) (hw : Wants ops l bx sl i o) (hop : o.op = .call { callee := .value (.func f), args := #[x, y], argTypes := ts }) (hx : Opnd ops l bx sl i x φ) (hy : Opnd ops l bx sl i y φ') (hF : Fresh ψ) (hk : kdAt l i = .val (ψ w0.heap.size))
    (hcf : ∀ args w, (callFunc f args).run Try.prog w = .ok (.enter f args) w) (C : ∀ w u v, φ u w → φ' v w → Calls Try.prog f #[u, v] w (Gives ψ w)) : Owed Try.prog ops Q l bx sl a0 n w0 i :=
  owe_call ho hw hop hF hk hcf fun vs B a w c => by
    rw [show (#[x, y] : Array Operand).map a.eval = #[a.eval x, a.eval y] from by simp]
    exact C w _ _ (hx a0 n w0 vs B a w c).now (hy a0 n w0 vs B a w c).now
theorem owe_call0 {ψ : Nat → Pr} {f : FuncId} {ts : Array TypeId} (ho : ops[i]? = some o) (hw : Wants ops l bx sl i o) (hop : o.op = .call { callee := .value (.func f), args := #[], argTypes := ts }) (hF : Fresh ψ) (hk : kdAt l i = .val (ψ w0.heap.size))
    (hcf : ∀ args w, (callFunc f args).run Try.prog w = .ok (.enter f args) w) (C : ∀ w, Calls Try.prog f #[] w (Gives ψ w)) : Owed Try.prog ops Q l bx sl a0 n w0 i :=
  owe_call ho hw hop hF hk hcf fun vs B a w c => by
    rw [show (#[] : Array Operand).map a.eval = #[] from by simp]
    exact C w

/-- A value in new memory. -/
theorem owe_grow {φ : Pr} (ho : ops[i]? = some o) (hw : Wants ops l bx sl i o) (hk : kdAt l i = .val φ)
    (h : ∀ vs B a w, Ctx ops l bx sl a0 n w0 i vs B a w → ∃ v w', (execOp a.eval o).run Try.prog w = .ok (.value v) w' ∧ Below w.heap.size w w' ∧ Has B w' φ v) : Owed Try.prog ops Q l bx sl a0 n w0 i := fun vs B a w c o' ho' => by
  obtain rfl : o = o' := Option.some.inj (ho.symm.trans ho')
  obtain ⟨v, w', hr, hb, hφ⟩ := h vs B a w c
  simp only [wpOp, ho]
  rw [if_pos (hw a0 n w0 vs B a w c)]
  refine Or.inl ?_
  unfold Oper.wp
  rw [hr, Oper.upon_value]
  exact ⟨v, rfl, by rw [hk]; exact ⟨hb, hφ⟩⟩
/-- A call whose answer is made of its arguments. -/
theorem owe_callF {χ : Pr} {f : FuncId} {xs : Array Operand} {ts : Array TypeId} (ho : ops[i]? = some o) (hw : Wants ops l bx sl i o) (hop : o.op = .call { callee := .value (.func f), args := xs, argTypes := ts }) (hk : kdAt l i = .val χ)
    (hcf : ∀ args w, (callFunc f args).run Try.prog w = .ok (.enter f args) w)
    (h : ∀ vs B a w, Ctx ops l bx sl a0 n w0 i vs B a w → Calls Try.prog f (xs.map a.eval) w fun e w' => ∃ r, e = .returned r ∧ Below w.heap.size w w' ∧ Has B w χ r) : Owed Try.prog ops Q l bx sl a0 n w0 i := fun vs B a w c o' ho' => by
  obtain rfl : o = o' := Option.some.inj (ho.symm.trans ho')
  have hr : (execOp a.eval o).run Try.prog w = .ok (.enter f (xs.map a.eval)) w := by
    unfold execOp
    rw [hop]
    have hf : a.eval (.func f) = .func (.func f) #[] #[] := rfl
    generalize a.eval = ρ at hf
    go_simp
  simp only [wpOp, ho]
  rw [if_pos (hw a0 n w0 vs B a w c)]
  refine Or.inl ?_
  unfold Oper.wp
  rw [hr, Oper.upon_enter]
  refine (h vs B a w c).mono ?_
  rintro e w' ⟨v, rfl, hb, hψ⟩
  refine ⟨v, rfl, ?_⟩
  rw [hk]
  exact ⟨hb, hψ.go (Ev.of_below hb) (fun _ _ x => x)⟩
/-- What such a call answers: the answer's word follows from the arguments'. -/
def Makes1 (f : FuncId) (φ χ : Pr) : Prop := ∀ w u, φ u w → Calls Try.prog f #[u] w fun e w' => ∃ r, e = .returned r ∧ Below w.heap.size w w' ∧ ∀ W, φ u W → χ r W
def Makes2 (f : FuncId) (φ ψ χ : Pr) : Prop := ∀ w u v, φ u w → ψ v w → Calls Try.prog f #[u, v] w fun e w' => ∃ r, e = .returned r ∧ Below w.heap.size w w' ∧ ∀ W, φ u W → ψ v W → χ r W
theorem owe_callF1 {f : FuncId} {x : Operand} {ts : Array TypeId} {φ χ : Pr} (ho : ops[i]? = some o) (hw : Wants ops l bx sl i o) (hop : o.op = .call { callee := .value (.func f), args := #[x], argTypes := ts }) (hx : Opnd ops l bx sl i x φ) (hk : kdAt l i = .val χ)
    (hcf : ∀ args w, (callFunc f args).run Try.prog w = .ok (.enter f args) w) (C : Makes1 f φ χ) : Owed Try.prog ops Q l bx sl a0 n w0 i :=
  owe_callF ho hw hop hk hcf fun vs B a w c => by
    rw [show (#[x] : Array Operand).map a.eval = #[a.eval x] from by simp]
    have h1 := hx a0 n w0 vs B a w c
    refine (C w _ h1.now).mono ?_
    rintro e w' ⟨r, rfl, hb, hχ⟩
    exact ⟨r, rfl, hb, fun W e => hχ W (h1 W e)⟩
theorem owe_callF2 {f : FuncId} {x y : Operand} {ts : Array TypeId} {φ ψ χ : Pr} (ho : ops[i]? = some o) (hw : Wants ops l bx sl i o) (hop : o.op = .call { callee := .value (.func f), args := #[x, y], argTypes := ts }) (hx : Opnd ops l bx sl i x φ) (hy : Opnd ops l bx sl i y ψ) (hk : kdAt l i = .val χ)
    (hcf : ∀ args w, (callFunc f args).run Try.prog w = .ok (.enter f args) w) (C : Makes2 f φ ψ χ) : Owed Try.prog ops Q l bx sl a0 n w0 i :=
  owe_callF ho hw hop hk hcf fun vs B a w c => by
    rw [show (#[x, y] : Array Operand).map a.eval = #[a.eval x, a.eval y] from by simp]
    have h1 := hx a0 n w0 vs B a w c
    have h2 := hy a0 n w0 vs B a w c
    refine (C w _ _ h1.now h2.now).mono ?_
    rintro e w' ⟨r, rfl, hb, hχ⟩
    exact ⟨r, rfl, hb, fun W e => hχ W (h1 W e) (h2 W e)⟩
/-- How long a slice is. -/
theorem owe_len {x : Operand} {T E L : Nat} {φ : Pr} (ho : ops[i]? = some o) (hw : Wants ops l bx sl i o) (hop : o.op = .call { callee := .builtin .len, args := #[x], argTypes := #[T] }) (hx : Opnd ops l bx sl i x φ) (hφ : ∀ v w, φ v w → ∃ p c, v = .slice p L c) (hT : Try.prog.underlying T = some (.slice E)) (hk : kdAt l i = .val (Is (.int .i64 L))) : Owed Try.prog ops Q l bx sl a0 n w0 i :=
  owe_is ho hw hk fun vs B a w c => by
    obtain ⟨p, k, e⟩ := hφ _ w (hx a0 n w0 vs B a w c).now
    unfold execOp
    rw [hop]
    generalize a.eval = ρ at e
    go_simp

/-! Boxes. -/
/-- What the machine loads out of a box of type T is the value whose cells lie there. -/
def Loads (T : TypeId) (φ : Pr) : Prop := ∀ (ρ : Operand → Value) (w : World) (o : Oper) (x : Operand) (b : Nat) (u : Value), φ u w → ρ x = .pointer (some ⟨b, 0, none⟩) → w.heap[b]? = some (.cells u.cells T (0, 0)) → o.op = .load T x → (execOp ρ o).run Try.prog w = .ok (.value u) w
theorem owe_load {T : TypeId} {t k : Nat} {φ : Pr} (ho : ops[i]? = some o) (hw : Wants ops l bx sl i o) (hop : o.op = .load T (.tmp t)) (hb : bx[k]? = some (t, .box T φ)) (hn : (unturned ops l i (.inl t) && slotFree ops i t) = true) (hL : Loads T φ) (hk : kdAt l i = .val φ) : Owed Try.prog ops Q l bx sl a0 n w0 i :=
  owe_val ho hw hk fun vs B a w c => by
    simp only [Bool.and_eq_true] at hn
    obtain ⟨b, u, hp, _, hu, hφ⟩ := c.box t _ (List.mem_of_getElem? hb) hn.1
    rw [← c.slot t hn.2] at hp
    exact ⟨u, hL _ w o _ _ u hφ.now hp hu hop, hφ⟩
/-- The address of a part of the box whose address lies in slot t. -/
def Part (a0 : Act) (t off : Nat) : Pr := fun v _ => ∃ b, a0.eval (.tmp t) = .pointer (some ⟨b, 0, none⟩) ∧ v = .pointer (some ⟨b, off, none⟩)
theorem owe_part {T : TypeId} {T' t k f off : Nat} {φ : Pr} (ho : ops[i]? = some o) (hw : Wants ops l bx sl i o) (hop : o.op = .fieldAddr T (.tmp t) f) (hb : bx[k]? = some (t, .box T' φ)) (hn : (unturned ops l i (.inl t) && slotFree ops i t) = true) (hk : kdAt l i = .val (Part a0 t off))
    (hr : ∀ (ρ : Operand → Value) (w : World) (b : Nat), ρ (.tmp t) = .pointer (some ⟨b, 0, none⟩) → (execOp ρ { o with op := .fieldAddr T (.tmp t) f }).run Try.prog w = .ok (.value (.pointer (some ⟨b, off, none⟩))) w) : Owed Try.prog ops Q l bx sl a0 n w0 i :=
  owe_val ho hw hk fun vs B a w c => by
    simp only [Bool.and_eq_true] at hn
    obtain ⟨b, u, hp0, _, hu, hφ⟩ := c.box t _ (List.mem_of_getElem? hb) hn.1
    have hp := (c.slot t hn.2).trans hp0
    refine ⟨_, ?_, fun _ _ => ⟨_, hp0, rfl⟩⟩
    have := hr a.eval w _ hp
    rw [← this]
    unfold execOp
    rw [hop]
theorem owe_part2 {T : TypeId} {t f off off' : Nat} {x : Operand} (ho : ops[i]? = some o) (hw : Wants ops l bx sl i o) (hop : o.op = .fieldAddr T x f) (hx : Opnd ops l bx sl i x (Part a0 t off)) (hk : kdAt l i = .val (Part a0 t off'))
    (hr : ∀ (ρ : Operand → Value) (w : World) (b : Nat), ρ x = .pointer (some ⟨b, off, none⟩) → (execOp ρ { o with op := .fieldAddr T x f }).run Try.prog w = .ok (.value (.pointer (some ⟨b, off', none⟩))) w) : Owed Try.prog ops Q l bx sl a0 n w0 i :=
  owe_val ho hw hk fun vs B a w c => by
    obtain ⟨b, hp0, hv⟩ := (hx a0 n w0 vs B a w c).now
    refine ⟨_, ?_, fun _ _ => ⟨b, hp0, rfl⟩⟩
    have := hr a.eval w _ hv
    rw [← this]
    unfold execOp
    rw [hop]
/-- A part of a box is loaded. -/
theorem owe_pload {T T' : TypeId} {t k off : Nat} {x : Operand} {φ χ : Pr} (ho : ops[i]? = some o) (hw : Wants ops l bx sl i o) (hop : o.op = .load T' x) (hx : Opnd ops l bx sl i x (Part a0 t off)) (hb : bx[k]? = some (t, .box T φ)) (hn : unturned ops l i (.inl t) = true) (hk : kdAt l i = .val χ)
    (hr : ∀ (ρ : Operand → Value) (w : World) (b : Nat) (u : Value), φ u w → ρ x = .pointer (some ⟨b, off, none⟩) → w.heap[b]? = some (.cells u.cells T (0, 0)) → ∃ v, (execOp ρ { o with op := .load T' x }).run Try.prog w = .ok (.value v) w ∧ ∀ w', φ u w' → χ v w') : Owed Try.prog ops Q l bx sl a0 n w0 i :=
  owe_val ho hw hk fun vs B a w c => by
    obtain ⟨b', u, hp0, _, hu, hφ⟩ := c.box t _ (List.mem_of_getElem? hb) hn
    obtain ⟨b, hb0, hv⟩ := (hx a0 n w0 vs B a w c).now
    rw [hp0] at hb0
    simp at hb0
    subst hb0
    obtain ⟨v, h1, h2⟩ := hr a.eval w _ u hφ.now hv hu
    refine ⟨v, ?_, fun w' e' => h2 w' (hφ w' e')⟩
    rw [← h1]
    unfold execOp
    rw [hop]
/-- A new box. -/
theorem new_box {lo : Nat} {B : Nat → Prop} {w : World} {T : TypeId} {u : Value} {φ : Pr} (h : Has B w φ u) (vs : Nat → Value) : Kd.out lo a0 vs B w (.pointer (some ⟨w.heap.size, 0, none⟩)) (w.alloc (.cells u.cells T (0, 0))) (.new (.box T φ)) := by
  have hb : Below w.heap.size w (w.alloc (.cells u.cells T (0, 0))) := (Below.refl _ _).alloc (Nat.le_refl _) _
  refine ⟨hb, fun b hv => ?_, w.heap.size, u, rfl, Or.inr rfl, heap_alloc_last _ _, h.go (Ev.of_below hb) (fun k hk hk' => ?_)⟩
  · simp [vblock] at hv
    subst hv
    simp
  · rcases hk' with h1 | h1
    · exact h1
    · simp [vblock] at h1; omega
theorem owe_new {T : TypeId} {u : Value} (ho : ops[i]? = some o) (hw : Wants ops l bx sl i o) (hop : o.op = .alloc T) (hk : kdAt l i = .new (.box T (Is u))) (hr : ∀ (ρ : Operand → Value) (w : World), (execOp ρ { o with op := .alloc T }).run Try.prog w = .ok (.value (.pointer (some ⟨w.heap.size, 0, none⟩))) (w.alloc (.cells u.cells T (0, 0)))) : Owed Try.prog ops Q l bx sl a0 n w0 i := fun vs B a w c o' ho' => by
  obtain rfl : o = o' := Option.some.inj (ho.symm.trans ho')
  have h : (execOp a.eval o).run Try.prog w = .ok (.value (.pointer (some ⟨w.heap.size, 0, none⟩))) (w.alloc (.cells u.cells T (0, 0))) := by
    rw [← hr a.eval w]
    unfold execOp
    rw [hop]
  simp only [wpOp, ho]
  rw [if_pos (hw a0 n w0 vs B a w c)]
  refine Or.inl ?_
  unfold Oper.wp
  rw [h, Oper.upon_value]
  exact ⟨_, rfl, by rw [hk]; exact new_box (fun _ _ => rfl) vs⟩
/-- A value is put into a box of its own. -/
theorem owe_box {T : TypeId} {x : Operand} {φ : Pr} (ho : ops[i]? = some o) (hw : Wants ops l bx sl i o) (hop : o.op = .box T x) (hx : Opnd ops l bx sl i x φ) (hk : kdAt l i = .new (.box T φ)) (hr : ∀ (ρ : Operand → Value) (w : World), φ (ρ x) w → (execOp ρ { o with op := .box T x }).run Try.prog w = .ok (.value (.pointer (some ⟨w.heap.size, 0, none⟩))) (w.alloc (.cells (ρ x).cells T (0, 0)))) : Owed Try.prog ops Q l bx sl a0 n w0 i := fun vs B a w c o' ho' => by
  obtain rfl : o = o' := Option.some.inj (ho.symm.trans ho')
  have hφ := hx a0 n w0 vs B a w c
  have h : (execOp a.eval o).run Try.prog w = .ok (.value (.pointer (some ⟨w.heap.size, 0, none⟩))) (w.alloc (.cells (a.eval x).cells T (0, 0))) := by
    rw [← hr a.eval w hφ.now]
    unfold execOp
    rw [hop]
  simp only [wpOp, ho]
  rw [if_pos (hw a0 n w0 vs B a w c)]
  refine Or.inl ?_
  unfold Oper.wp
  rw [h, Oper.upon_value]
  exact ⟨_, rfl, by rw [hk]; exact new_box hφ vs⟩
/-- What the machine stores into a box of type T. -/
def Stores (T : TypeId) (φ ψ : Pr) : Prop := ∀ (ρ : Operand → Value) (w : World) (o : Oper) (x y : Operand) (b : Nat) (u : Value), φ u w → w.heap[b]? = some (.cells u.cells T (0, 0)) → ρ x = .pointer (some ⟨b, 0, none⟩) → ψ (ρ y) w → o.op = .store T x y → (execOp ρ o).run Try.prog w = .ok .skip (w.setRow b (ρ y).cells)
theorem setRow_other (w : World) (b k : Nat) (c : Array Value) (h : k ≠ b) : (w.setRow b c).heap[k]? = w.heap[k]? := by unfold World.setRow; simp only [Array.getElem?_modify]; rw [if_neg (Ne.symm h)]
theorem setRow_size (w : World) (b : Nat) (c : Array Value) : (w.setRow b c).heap.size = w.heap.size := by simp [World.setRow]
theorem put_box {lo : Nat} {B : Nat → Prop} {w : World} {T : TypeId} {u v : Value} {ψ : Pr} {b : Nat} {x : Id} {vs : Nat → Value} (hx : hnd a0 vs x = .pointer (some ⟨b, 0, none⟩)) (hB : B b) (hu : w.heap[b]? = some (.cells u.cells T (0, 0))) (h : Has B w ψ v) (z : Value) : Kd.out lo a0 vs B w z (w.setRow b v.cells) (.put x (.box T ψ)) := by
  have hc : Chg (fun k => vblock (hnd a0 vs x) = some k) w (w.setRow b v.cells) := ⟨rfl, rfl, rfl, Nat.le_of_eq (setRow_size _ _ _).symm, fun k _ hn => setRow_other _ _ _ _ (fun e => hn (by rw [hx, e]; rfl))⟩
  refine ⟨hc, b, v, hx, hB, setRow_heap w _ _ _ _ _ hu, h.go ⟨rfl, rfl, rfl, Nat.le_of_eq (setRow_size _ _ _).symm, fun k _ hn => setRow_other _ _ _ _ (fun e => hn (e ▸ hB))⟩ (fun _ _ x => x)⟩
/-- .. into a box that was there. -/
theorem owe_set {T : TypeId} {t k : Nat} {y : Operand} {φ ψ : Pr} (ho : ops[i]? = some o) (hw : Wants ops l bx sl i o) (hop : o.op = .store T (.tmp t) y) (hb : bx[k]? = some (t, .box T φ)) (hn : (unturned ops l i (.inl t) && slotFree ops i t) = true) (hy : Opnd ops l bx sl i y ψ) (hS : Stores T φ ψ) (hk : kdAt l i = .put (.inl t) (.box T ψ)) : Owed Try.prog ops Q l bx sl a0 n w0 i := fun vs B a w c o' ho' => by
  obtain rfl : o = o' := Option.some.inj (ho.symm.trans ho')
  simp only [Bool.and_eq_true] at hn
  obtain ⟨b, u, hp0, hB, hu, hφ⟩ := c.box t _ (List.mem_of_getElem? hb) hn.1
  have hp := (c.slot t hn.2).trans hp0
  have hψ := hy a0 n w0 vs B a w c
  have h := hS a.eval w o (.tmp t) y b u hφ.now hu hp hψ.now hop
  simp only [wpOp, ho]
  rw [if_pos (hw a0 n w0 vs B a w c)]
  refine Or.inl ?_
  unfold Oper.wp
  rw [h, Oper.upon_skip]
  exact ⟨undef, rfl, by rw [hk]; exact put_box (x := .inl t) hp0 hB hu hψ _⟩
/-- .. into a box of this statement. -/
theorem owe_put {T : TypeId} {t : Nat} (j : Nat) {y : Operand} {φ ψ : Pr} (ho : ops[i]? = some o) (hw : Wants ops l bx sl i o) (hop : o.op = .store T (.tmp t) y) (hj : ((depsOf ops i).contains j && (dstOf ops j == some t) && unturned ops l i (.inr j)) = true) (hkj : (kdAt l j).rk = some (.box T φ)) (hy : Opnd ops l bx sl i y ψ) (hS : Stores T φ ψ) (hk : kdAt l i = .put (.inr j) (.box T ψ)) : Owed Try.prog ops Q l bx sl a0 n w0 i := fun vs B a w c o' ho' => by
  obtain rfl : o = o' := Option.some.inj (ho.symm.trans ho')
  simp only [Bool.and_eq_true, List.contains_iff_mem, beq_iff_eq] at hj
  obtain ⟨he, hat⟩ := c.news j t _ hj.1.1 hkj hj.1.2
  obtain ⟨b, u, hp0, hB, hu, hφ⟩ := hat hj.2
  have hp := he.trans hp0
  have hψ := hy a0 n w0 vs B a w c
  have h := hS a.eval w o (.tmp t) y b u hφ.now hu hp hψ.now hop
  simp only [wpOp, ho]
  rw [if_pos (hw a0 n w0 vs B a w c)]
  refine Or.inl ?_
  unfold Oper.wp
  rw [h, Oper.upon_skip]
  exact ⟨undef, rfl, by rw [hk]; exact put_box (x := .inr j) hp0 hB hu hψ _⟩
/-- Another handle of a new thing. -/
theorem owe_ref (j : Nat) {d : Tmp} (ho : ops[i]? = some o) (hw : Wants ops l bx sl i o) (hop : o.op = .move (.tmp d) ∨ o.op = .assign (.tmp d)) {r : Rk} (hj : ((depsOf ops i).contains j && (dstOf ops j == some d)) = true) (hkj : (kdAt l j).rk = some r) (hk : kdAt l i = .ref j) : Owed Try.prog ops Q l bx sl a0 n w0 i := fun vs B a w c o' ho' => by
  obtain rfl : o = o' := Option.some.inj (ho.symm.trans ho')
  simp only [Bool.and_eq_true, List.contains_iff_mem, beq_iff_eq] at hj
  obtain ⟨he, _⟩ := c.news j d _ hj.1 hkj hj.2
  simp only [wpOp, ho]
  rw [if_pos (hw a0 n w0 vs B a w c)]
  refine Or.inl ?_
  unfold Oper.wp
  have h : (execOp a.eval o).run Try.prog w = .ok (.value (a.eval (.tmp d))) w := by
    unfold execOp
    rcases hop with e | e <;> rw [e] <;> rfl
  rw [h, Oper.upon_value]
  exact ⟨_, rfl, by rw [hk]; exact ⟨rfl, he⟩⟩
/-- Another handle of a thing that was there: it is the value that the slot held. -/
theorem owe_same {t : Tmp} (ho : ops[i]? = some o) (hw : Wants ops l bx sl i o) (hop : o.op = .move (.tmp t) ∨ o.op = .assign (.tmp t)) (hf : slotFree ops i t = true) (hk : kdAt l i = .val (Is (a0.eval (.tmp t)))) : Owed Try.prog ops Q l bx sl a0 n w0 i :=
  owe_val ho hw hk fun vs B a w c => ⟨a.eval (.tmp t), by unfold execOp; rcases hop with e | e <;> rw [e] <;> rfl, fun _ _ => c.slot t hf⟩
end

/-! Into a call, and out of it. -/
theorem sta_start {w0 : World} {a : Act} {n : Nat} {sl : List (Tmp × Pr)} (hs : a.tmps.size = n) (hd : a.defers = []) (h : ∀ x ∈ sl, Has (fun _ => False) w0 x.2 (a.eval (.tmp x.1))) : Sta w0 n [] sl (fun _ => False) a w0 :=
  ⟨Below.refl _ _, (fun _ h => h.elim), hs, hd, (fun _ h => nomatch h), (fun _ h => nomatch h), h⟩
theorem Sta.bool {w0 W : World} {n : Nat} {bx : Bxs} {sl : List (Tmp × Pr)} {B : Nat → Prop} {a : Act} (S : Sta w0 n bx sl B a W) (k t : Nat) {b : Bool} (h : sl[k]? = some (t, Is (.bool b))) : a.eval (.tmp t) = .bool b := (S.slt _ (List.mem_of_getElem? h)).now
/-- What a box that is handed back holds. -/
theorem Sta.content {w0 W : World} {n : Nat} {bx : Bxs} {sl : List (Tmp × Pr)} {B : Nat → Prop} {a : Act} (S : Sta w0 n bx sl B a W) (k t : Nat) {T : TypeId} {φ : Pr} (h : bx[k]? = some (t, .box T φ)) : ∃ b u, a.tmps.getD t undef = .pointer (some ⟨b, 0, none⟩) ∧ W.heap[b]? = some (.cells (Value.cells u) T (0, 0)) ∧ φ u W := by
  obtain ⟨b, u, hp, _, hu, hφ⟩ := S.box _ (List.mem_of_getElem? h)
  exact ⟨b, u, hp, hu, hφ.now⟩
theorem Sta.slot {w0 W : World} {n : Nat} {bx : Bxs} {sl : List (Tmp × Pr)} {B : Nat → Prop} {a : Act} (S : Sta w0 n bx sl B a W) (k t : Nat) {φ : Pr} (h : sl[k]? = some (t, φ)) : φ (a.tmps.getD t undef) W := (S.slt _ (List.mem_of_getElem? h)).now
end Go.Proofs.Ytnbmpldfbbidmaa
