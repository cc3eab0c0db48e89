import Derived.Orders
import Derived.Below
import Derived.Tactics
import Derived.Deep.WholeRow
import Derived.Test.YtejhbjcgacblfaaChecked
import Derived.WalkKit
import Derived.Handy
/-
  A logic of statements: what is known of the slots and of the boxes of a call, and how a statement turns it, whatever its order of evaluation.
-/
namespace Go.Proofs.Ytejhbjcgacblfaa
open Go Go.RowKit
set_option linter.unusedSimpArgs false
set_option linter.unusedVariables false

/-- What is said of a value in a world. -/
abbrev Pr := Value → World → Prop

/-- Nothing that is there turns but the blocks of B. -/
structure Ev (B : Nat → Prop) (w w' : World) : Prop where
  os : w'.os = w.os
  tape : w'.tape = w.tape
  output : w'.output = w.output
  size : w.heap.size ≤ w'.heap.size
  block : ∀ k, k < w.heap.size → ¬ B k → w'.heap[k]? = w.heap[k]?
theorem Ev.refl (B : Nat → Prop) (w : World) : Ev B w w := ⟨rfl, rfl, rfl, Nat.le_refl _, fun _ _ _ => rfl⟩
theorem Ev.of_below {B : Nat → Prop} {w w' : World} (h : Below w.heap.size w w') : Ev B w w' := ⟨h.os, h.tape, h.output, h.size, fun k hk _ => h.block k hk⟩
theorem Ev.back {B B' : Nat → Prop} {w w' w'' : World} (h1 : Ev B w w') (hB : ∀ k, k < w.heap.size → B' k → B k) (h : Ev B' w' w'') : Ev B w w'' :=
  ⟨h.os.trans h1.os, h.tape.trans h1.tape, h.output.trans h1.output, Nat.le_trans h1.size h.size, fun k hk hn =>
    (h.block k (Nat.lt_of_lt_of_le hk h1.size) (fun hb => hn (hB k hk hb))).trans (h1.block k hk hn)⟩

/-- It holds, and stays so whatever becomes of the boxes. -/
def Has (B : Nat → Prop) (w : World) (φ : Pr) (v : Value) : Prop := ∀ w', Ev B w w' → φ v w'
theorem Has.now {B : Nat → Prop} {w : World} {φ : Pr} {v : Value} (h : Has B w φ v) : φ v w := h w (Ev.refl _ _)
theorem Has.go {B B' : Nat → Prop} {w w' : World} {φ : Pr} {v : Value} (h : Has B w φ v) (e : Ev B w w') (hB : ∀ k, k < w.heap.size → B' k → B k) : Has B' w' φ v := fun w'' e'' => h w'' (e.back hB e'')
theorem Has.imp {B : Nat → Prop} {w : World} {φ ψ : Pr} {v : Value} (h : Has B w φ v) (hi : ∀ w, φ v w → ψ v w) : Has B w ψ v := fun w' e => hi w' (h w' e)
/-- Block b is a box of type T whose content is so. -/
def Cont (B : Nat → Prop) (w : World) (b : Nat) (T : TypeId) (φ : Pr) : Prop := ∃ u : Value, w.heap[b]? = some (.cells u.cells T (0, 0)) ∧ Has B w φ u

def upd {α : Type} (f : Nat → α) (i : Nat) (x : α) : Nat → α := fun j => if j = i then x else f j
theorem upd_eq {α : Type} (f : Nat → α) (i : Nat) (x : α) : upd f i x i = x := by simp [upd]
theorem upd_ne {α : Type} (f : Nat → α) {i j : Nat} (x : α) (h : j ≠ i) : upd f i x j = f j := by simp [upd, h]

/-! The frame: which slots are filled. -/
def fillL : List Oper → Nat → (Nat → Bool) → (Nat → Value) → Act → Act
  | [], _, _, _, a => a
  | o :: r, k, L, vs, a => fillL r (k + 1) L vs (if L k = true then a.put o.dst (vs k) else a)
theorem fillL_congr : ∀ (l : List Oper) (k : Nat) (L L' : Nat → Bool) (vs vs' : Nat → Value) (a : Act), (∀ j, k ≤ j → L j = L' j ∧ (L j = true → vs j = vs' j)) → fillL l k L vs a = fillL l k L' vs' a
  | [], _, _, _, _, _, _, _ => rfl
  | o :: r, k, L, L', vs, vs', a, h => by
    have h0 := h k (Nat.le_refl _)
    simp only [fillL]
    rw [fillL_congr r (k + 1) L L' vs vs' _ (fun j hj => h j (by omega)), h0.1]
    by_cases e : L' k = true
    · rw [if_pos e, if_pos e, h0.2 (h0.1.trans e)]
    · rw [if_neg e, if_neg e]
def apartFrom (x : Option Tmp) (o : Oper) : Bool := match x with | none => true | some d => o.dst != some d
theorem fillL_put : ∀ (l : List Oper) (k : Nat) (L : Nat → Bool) (vs : Nat → Value) (a : Act) (x : Option Tmp) (v : Value), l.all (apartFrom x) = true → (fillL l k L vs a).put x v = fillL l k L vs (a.put x v)
  | [], _, _, _, _, _, _, _ => rfl
  | o :: r, k, L, vs, a, x, v, h => by
    simp only [List.all_cons, Bool.and_eq_true] at h
    simp only [fillL]
    rw [fillL_put r (k + 1) L vs _ x v h.2]
    by_cases e : L k = true
    · rw [if_pos e, if_pos e, Act.put_comm a _ _ (fun d hd hx => by
        have := h.1
        simp only [apartFrom, hx] at this
        simp [hd] at this)]
    · rw [if_neg e, if_neg e]
/-- No two operations write one slot. -/
def dstsOk : List Oper → Bool
  | [] => true
  | o :: r => r.all (apartFrom o.dst) && dstsOk r
theorem fillL_step : ∀ (l : List Oper) (k j : Nat) (o : Oper) (L : Nat → Bool) (vs : Nat → Value) (a : Act) (v : Value), dstsOk l = true → l[j]? = some o → L (k + j) = false →
    (fillL l k L vs a).put o.dst v = fillL l k (upd L (k + j) true) (upd vs (k + j) v) a
  | [], _, _, _, _, _, _, _, _, h, _ => by cases h
  | p :: r, k, 0, o, L, vs, a, v, hd, h, hL => by
    simp only [dstsOk, Bool.and_eq_true] at hd
    simp only [List.getElem?_cons_zero, Option.some.injEq] at h
    subst h
    have hL : L k = false := hL
    simp only [fillL, Nat.add_zero, upd_eq, if_true, hL, Bool.false_eq_true, if_false]
    rw [fillL_put r (k + 1) L vs a p.dst v hd.1]
    exact fillL_congr r (k + 1) _ _ _ _ _ (fun j hj => ⟨(upd_ne _ _ (by omega)).symm, fun _ => (upd_ne _ _ (by omega)).symm⟩)
  | p :: r, k, j + 1, o, L, vs, a, v, hd, h, hL => by
    simp only [dstsOk, Bool.and_eq_true] at hd
    simp only [List.getElem?_cons_succ] at h
    simp only [fillL]
    rw [fillL_step r (k + 1) j o L vs _ v hd.2 h (by rw [show k + 1 + j = k + (j + 1) from by omega]; exact hL)]
    rw [show k + 1 + j = k + (j + 1) from by omega, upd_ne _ _ (by omega : k ≠ k + (j + 1)), upd_ne _ _ (by omega : k ≠ k + (j + 1))]
theorem put_size (a : Act) (x : Option Tmp) (v : Value) : (a.put x v).tmps.size = a.tmps.size := by cases x <;> simp [Act.put]
theorem put_defers' (a : Act) (x : Option Tmp) (v : Value) : (a.put x v).defers = a.defers := by cases x <;> simp [Act.put]
theorem fillL_size : ∀ (l : List Oper) (k : Nat) (L : Nat → Bool) (vs : Nat → Value) (a : Act), (fillL l k L vs a).tmps.size = a.tmps.size ∧ (fillL l k L vs a).defers = a.defers
  | [], _, _, _, _ => ⟨rfl, rfl⟩
  | o :: r, k, L, vs, a => by
    simp only [fillL]
    have := fillL_size r (k + 1) L vs (if L k = true then a.put o.dst (vs k) else a)
    rw [this.1, this.2]
    by_cases e : L k = true
    · rw [if_pos e]; exact ⟨put_size _ _ _, put_defers' _ _ _⟩
    · rw [if_neg e]; exact ⟨rfl, rfl⟩
theorem fillL_other : ∀ (l : List Oper) (k : Nat) (L : Nat → Bool) (vs : Nat → Value) (a : Act) (t : Tmp), l.all (apartFrom (some t)) = true → (fillL l k L vs a).eval (.tmp t) = a.eval (.tmp t)
  | [], _, _, _, _, _, _ => rfl
  | o :: r, k, L, vs, a, t, h => by
    simp only [List.all_cons, Bool.and_eq_true] at h
    simp only [fillL]
    rw [fillL_other r (k + 1) L vs _ t h.2]
    by_cases e : L k = true
    · rw [if_pos e]
      refine Act.eval_put (fun d hd => ?_)
      have := h.1
      simp only [apartFrom] at this
      intro e'
      simp at e'
      subst e'
      simp [hd] at this
    · rw [if_neg e]
theorem fillL_at : ∀ (l : List Oper) (k j : Nat) (o : Oper) (L : Nat → Bool) (vs : Nat → Value) (a : Act) (d : Tmp), dstsOk l = true → l[j]? = some o → L (k + j) = true → o.dst = some d → d < a.tmps.size →
    (fillL l k L vs a).eval (.tmp d) = vs (k + j)
  | [], _, _, _, _, _, _, _, _, h, _, _, _ => by cases h
  | p :: r, k, 0, o, L, vs, a, d, hd, h, hL, hdst, hlt => by
    simp only [dstsOk, Bool.and_eq_true] at hd
    simp only [List.getElem?_cons_zero, Option.some.injEq] at h
    subst h
    have hL : L k = true := hL
    simp only [fillL, hL, if_true]
    rw [fillL_other r (k + 1) L vs _ d (by rw [← hdst]; exact hd.1), hdst]
    simp [Act.eval, Act.put, hlt]
  | p :: r, k, j + 1, o, L, vs, a, d, hd, h, hL, hdst, hlt => by
    simp only [dstsOk, Bool.and_eq_true] at hd
    simp only [List.getElem?_cons_succ] at h
    simp only [fillL]
    rw [fillL_at r (k + 1) j o L vs _ d hd.2 h (by rw [show k + 1 + j = k + (j + 1) from by omega]; exact hL) hdst, show k + 1 + j = k + (j + 1) from by omega]
    by_cases e : L k = true
    · rw [if_pos e, put_size]; exact hlt
    · rw [if_neg e]; exact hlt

/-! What one operation brings. -/
/-- A value; a new box with a content; a store into the box whose address lies in slot t; nothing. -/
inductive Kd where
  | val (φ : Pr)
  | new (T : TypeId) (φ : Pr)
  | put (t : Tmp) (T : TypeId) (φ : Pr)
  | off
def Kd.isPut : Kd → Option (Tmp × TypeId)
  | .put t T _ => some (t, T)
  | _ => none
def Kd.isNew : Kd → Option TypeId
  | .new T _ => some T
  | _ => none

/-- Which operations number i waits for. -/
def depsOf (ops : Array Oper) (i : Nat) : List Nat :=
  match ops[i]? with
  | none => []
  | some o => o.after.toList.filterMap fun e => if Region.binds .any e then some e.on else none
def dstOf (ops : Array Oper) (j : Nat) : Option Tmp := (ops[j]?).bind (·.dst)

/-- A box that is there: the slot, its type, what it holds. -/
abbrev Bxs := List (Tmp × TypeId × Pr)
/-- What the checks by reckoning ask: the slots are written once, boxes' slots are not; each store goes into a box, and it waits for the box if that is new; no box is stored into twice; each waits for those ahead of it alone. -/
def shapeOk (ops : Array Oper) (l : List Kd) (bx : List (Tmp × TypeId)) (n : Nat) : Bool :=
  dstsOk ops.toList &&
  bx.all (fun x => ops.toList.all (apartFrom (some x.1))) &&
  ops.toList.all (fun o => match o.dst with | some d => decide (d < n) | none => true) &&
  (List.range ops.size).all (fun i => (depsOf ops i).all fun j => decide (j < i)) &&
  (List.range ops.size).all (fun i => match (l.getD i .off).isNew with | some _ => (dstOf ops i).isSome | none => true) &&
  (List.range ops.size).all (fun i => match (l.getD i .off).isPut with
    | none => true
    | some (t, T) => (bx.contains (t, T) || (depsOf ops i).any (fun j => (l.getD j .off).isNew == some T && dstOf ops j == some t)) &&
        (List.range ops.size).all (fun i' => match (l.getD i' .off).isPut with
          | none => true
          | some (t', _) => t' != t || i' == i))

section
variable (ops : Array Oper) (l : List Kd) (bx : Bxs)
def kdAt (i : Nat) : Kd := l.getD i .off
def IsBox (L : Nat → Bool) (t : Tmp) (T : TypeId) (φ : Pr) : Prop := (t, T, φ) ∈ bx ∨ ∃ i, L i = true ∧ kdAt l i = .new T φ ∧ dstOf ops i = some t
def NotPut (L : Nat → Bool) (t : Tmp) : Prop := ∀ i T φ, L i = true → kdAt l i ≠ .put t T φ
end

/-- The shape, in words. -/
structure Shape (ops : Array Oper) (l : List Kd) (bx : Bxs) (n : Nat) : Prop where
  dsts : dstsOk ops.toList = true
  free : ∀ x ∈ bx, ops.toList.all (apartFrom (some x.1)) = true
  slot : ∀ i d, dstOf ops i = some d → d < n
  low : ∀ i j, i < ops.size → j ∈ depsOf ops i → j < i
  news : ∀ i T φ, i < ops.size → kdAt l i = .new T φ → ∃ t, dstOf ops i = some t
  puts : ∀ i t T φ, i < ops.size → kdAt l i = .put t T φ → (∃ φ', (t, T, φ') ∈ bx) ∨ ∃ j ∈ depsOf ops i, ∃ φ', kdAt l j = .new T φ' ∧ dstOf ops j = some t
  once : ∀ i i' t T φ T' φ', i < ops.size → i' < ops.size → kdAt l i = .put t T φ → kdAt l i' = .put t T' φ' → i' = i
theorem apart_dst {ops : Array Oper} {t : Tmp} (h : ops.toList.all (apartFrom (some t)) = true) (i : Nat) : dstOf ops i ≠ some t := fun e => by
  cases ho : ops[i]? with
  | none => simp [dstOf, ho] at e
  | some o =>
    simp only [dstOf, ho, Option.bind_some] at e
    have := List.all_eq_true.1 h o (by simpa using Array.mem_of_getElem? ho)
    simp [apartFrom, e] at this
theorem dsts_inj : ∀ (l : List Oper), dstsOk l = true → ∀ (i j : Nat) (o p : Oper) (d : Tmp), l[i]? = some o → l[j]? = some p → o.dst = some d → p.dst = some d → i = j
  | [], _, _, _, _, _, _, h, _, _, _ => by cases h
  | q :: r, hd, 0, 0, _, _, _, _, _, _, _ => rfl
  | q :: r, hd, 0, j + 1, o, p, d, h1, h2, e1, e2 => by
    simp only [dstsOk, Bool.and_eq_true] at hd
    simp only [List.getElem?_cons_zero, Option.some.injEq] at h1
    subst h1
    have := List.all_eq_true.1 hd.1 p (List.mem_of_getElem? (by simpa using h2))
    simp [apartFrom, e1, e2] at this
  | q :: r, hd, i + 1, 0, o, p, d, h1, h2, e1, e2 => by
    simp only [dstsOk, Bool.and_eq_true] at hd
    simp only [List.getElem?_cons_zero, Option.some.injEq] at h2
    subst h2
    have := List.all_eq_true.1 hd.1 o (List.mem_of_getElem? (by simpa using h1))
    simp [apartFrom, e1, e2] at this
  | q :: r, hd, i + 1, j + 1, o, p, d, h1, h2, e1, e2 => by
    simp only [dstsOk, Bool.and_eq_true] at hd
    rw [dsts_inj r hd.2 i j o p d (by simpa using h1) (by simpa using h2) e1 e2]
theorem dstOf_inj {ops : Array Oper} (hd : dstsOk ops.toList = true) {i j : Nat} {t : Tmp} (h1 : dstOf ops i = some t) (h2 : dstOf ops j = some t) : i = j := by
  cases ho : ops[i]? with
  | none => simp [dstOf, ho] at h1
  | some o =>
    cases hp : ops[j]? with
    | none => simp [dstOf, hp] at h2
    | some p =>
      simp only [dstOf, ho, hp, Option.bind_some] at h1 h2
      exact dsts_inj _ hd i j o p t (by simpa using ho) (by simpa using hp) h1 h2

theorem shape_of {ops : Array Oper} {l : List Kd} {bx : Bxs} {n : Nat} (h : shapeOk ops l (bx.map fun x => (x.1, x.2.1)) n = true) : Shape ops l bx n := by
  simp only [shapeOk, Bool.and_eq_true, List.all_eq_true, List.mem_range, List.mem_map, forall_exists_index, and_imp] at h
  obtain ⟨⟨⟨⟨⟨h1, h2⟩, h3⟩, h4⟩, h5⟩, h6⟩ := h
  refine ⟨h1, fun x hx => List.all_eq_true.2 (h2 _ x hx rfl), fun i d hd => ?_, fun i j hi hj => by simpa using h4 i hi j hj, fun i T φ hi hk => ?_, fun i t T φ hi hk => ?_, fun i i' t T φ T' φ' hi hi' hk hk' => ?_⟩
  · cases ho : ops[i]? with
    | none => simp [dstOf, ho] at hd
    | some o =>
      simp only [dstOf, ho, Option.bind_some] at hd
      have := h3 o (by simpa using Array.mem_of_getElem? ho)
      rw [hd] at this
      simpa using this
  · have := h5 i hi
    rw [show (l.getD i .off).isNew = some T from by rw [show l.getD i .off = _ from hk]; rfl] at this
    exact Option.isSome_iff_exists.1 this
  · have := h6 i hi
    rw [show (l.getD i .off).isPut = some (t, T) from by rw [show l.getD i .off = _ from hk]; rfl] at this
    simp only [Bool.and_eq_true, Bool.or_eq_true, List.contains_iff_mem, List.mem_map, List.any_eq_true, beq_iff_eq] at this
    rcases this.1 with ⟨x, hx, e⟩ | ⟨j, hj, e1, e2⟩
    · left
      obtain ⟨x1, x2, x3⟩ := x
      simp only [Prod.mk.injEq] at e
      exact ⟨x3, by rw [← e.1, ← e.2]; exact hx⟩
    · right
      refine ⟨j, hj, ?_⟩
      show ∃ φ', l.getD j .off = _ ∧ _
      cases hj' : l.getD j .off with
      | new T' φ' => rw [hj'] at e1; simp [Kd.isNew] at e1; exact ⟨φ', by rw [e1], e2⟩
      | _ => rw [hj'] at e1; simp [Kd.isNew] at e1
  · have := h6 i hi
    rw [show (l.getD i .off).isPut = some (t, T) from by rw [show l.getD i .off = _ from hk]; rfl] at this
    simp only [Bool.and_eq_true, List.all_eq_true, List.mem_range] at this
    have := this.2 i' hi'
    rw [show (l.getD i' .off).isPut = some (t, T') from by rw [show l.getD i' .off = _ from hk']; rfl] at this
    simpa using this

/-- What is known of a call on its way. -/
structure Sta (w0 : World) (n : Nat) (bx : Bxs) (sl : List (Tmp × Pr)) (B : Nat → Prop) (a : Act) (W : World) : Prop where
  ent : Below w0.heap.size w0 W
  bnd : ∀ k, B k → w0.heap.size ≤ k ∧ k < W.heap.size
  siz : a.tmps.size = n
  dfr : a.defers = []
  box : ∀ x ∈ bx, ∃ b, a.eval (.tmp x.1) = .pointer (some ⟨b, 0, none⟩) ∧ B b ∧ Cont B W b x.2.1 x.2.2
  sep : ∀ x ∈ bx, ∀ y ∈ bx, a.eval (.tmp x.1) = a.eval (.tmp y.1) → x = y
  slt : ∀ x ∈ sl, Has B W x.2 (a.eval (.tmp x.1))

/-- What is known within a statement, while the operations of L are done. -/
structure Held (ops : Array Oper) (l : List Kd) (bx : Bxs) (B0 : Nat → Prop) (a0 : Act) (W w0 : World) (L : Nat → Bool) (vs : Nat → Value) (X : Tmp → Nat) (B : Nat → Prop) (w : World) : Prop where
  ent : Below w0.heap.size w0 w
  ev : Ev B0 W w
  bnd : ∀ k, B k → w0.heap.size ≤ k ∧ k < w.heap.size
  old : ∀ k, k < W.heap.size → (B k ↔ B0 k)
  deps : ∀ i, L i = true → i < ops.size ∧ ∀ j ∈ depsOf ops i, L j = true
  ptr : ∀ x ∈ bx, a0.eval (.tmp x.1) = .pointer (some ⟨X x.1, 0, none⟩)
  news : ∀ i T φ t, L i = true → kdAt l i = .new T φ → dstOf ops i = some t → vs i = .pointer (some ⟨X t, 0, none⟩)
  box : ∀ t T φ, IsBox ops l bx L t T φ → B (X t) ∧ (NotPut l L t → Cont B w (X t) T φ)
  sep : ∀ t t' T φ T' φ', IsBox ops l bx L t T φ → IsBox ops l bx L t' T' φ' → X t = X t' → t = t'
  put : ∀ i t T φ, L i = true → kdAt l i = .put t T φ → Cont B w (X t) T φ
  val : ∀ i φ, L i = true → kdAt l i = .val φ → Has B w φ (vs i)

/-- What an operation does. -/
def Kd.out (B : Nat → Prop) (X : Tmp → Nat) (w : World) (v : Value) (w' : World) : Kd → Prop
  | .val φ => Below w.heap.size w w' ∧ Has B w' φ v
  | .new T φ => v = .pointer (some ⟨w.heap.size, 0, none⟩) ∧ ∃ u : Value, w' = w.alloc (.cells u.cells T (0, 0)) ∧ Has B w φ u
  | .put t T φ => ∃ (u : Value) (cs : Array Value), w.heap[X t]? = some (.cells cs T (0, 0)) ∧ w' = w.setRow (X t) u.cells ∧ Has B w φ u
  | .off => w' = w

theorem cont_go {B B' : Nat → Prop} {w w' : World} {b : Nat} {T : TypeId} {φ : Pr} (h : Cont B w b T φ) (hb : w'.heap[b]? = w.heap[b]?) (e : Ev B w w') (hB : ∀ k, k < w.heap.size → B' k → B k) : Cont B' w' b T φ := by
  obtain ⟨u, h1, h2⟩ := h
  exact ⟨u, hb.trans h1, h2.go e hB⟩
theorem setRow_other (w : World) (b k : Nat) (c : Array Value) (h : k ≠ b) : (w.setRow b c).heap[k]? = w.heap[k]? := by unfold World.setRow; simp only [Array.getElem?_modify]; rw [if_neg (Ne.symm h)]
theorem setRow_size (w : World) (b : Nat) (c : Array Value) : (w.setRow b c).heap.size = w.heap.size := by simp [World.setRow]

section
variable {ops : Array Oper} {l : List Kd} {bx : Bxs} {n : Nat} {B0 : Nat → Prop} {a0 : Act} {W w0 : World} {L : Nat → Bool} {vs : Nat → Value} {X : Tmp → Nat} {B : Nat → Prop} {w w' : World}

/-- An operation more. -/
theorem Held.step (S : Shape ops l bx n) (H : Held ops l bx B0 a0 W w0 L vs X B w) {i : Nat} {v : Value} (hi : i < ops.size) (hL : L i = false) (hd : ∀ j ∈ depsOf ops i, L j = true) (h : (kdAt l i).out B X w v w') :
    ∃ X' B', Held ops l bx B0 a0 W w0 (upd L i true) (upd vs i v) X' B' w' := by
  have hne : ∀ j, L j = true → j ≠ i := fun j hj e => by subst e; rw [hL] at hj; cases hj
  have hupd : ∀ j, upd L i true j = true → j ≠ i → L j = true := fun j hj hji => by rwa [upd_ne _ _ hji] at hj
  have hkey : ∀ k, L k = true → upd L i true k = true := fun k hk => by rw [upd_ne _ _ (hne k hk)]; exact hk
  have hdeps : ∀ j, upd L i true j = true → j < ops.size ∧ ∀ k ∈ depsOf ops j, upd L i true k = true := fun j hj => by
    by_cases e : j = i
    · subst e; exact ⟨hi, fun k hk => hkey k (hd k hk)⟩
    · exact ⟨(H.deps j (hupd j hj e)).1, fun k hk => hkey k ((H.deps j (hupd j hj e)).2 k hk)⟩
  have hnp : ∀ t, NotPut l (upd L i true) t → NotPut l L t := fun t hn j T φ hj => hn j T φ (hkey j hj)
  have hval : ∀ j φ, upd L i true j = true → j ≠ i → kdAt l j = .val φ → Has B w φ (upd vs i v j) := fun j φ hj e hk => by rw [upd_ne _ _ e]; exact H.val j φ (hupd j hj e) hk
  -- a box that was there
  have hbox : (∀ T φ, kdAt l i ≠ .new T φ) → ∀ t T φ, IsBox ops l bx (upd L i true) t T φ → IsBox ops l bx L t T φ := fun hn t T φ hb => by
    rcases hb with hb | ⟨j, hj, hk, hdj⟩
    · exact Or.inl hb
    · by_cases e : j = i
      · subst e; exact absurd hk (hn T φ)
      · exact Or.inr ⟨j, hupd j hj e, hk, hdj⟩
  have hnews : ∀ (X' : Tmp → Nat), (∀ j T φ t, L j = true → kdAt l j = .new T φ → dstOf ops j = some t → X' t = X t) → (∀ T φ t, kdAt l i = .new T φ → dstOf ops i = some t → v = .pointer (some ⟨X' t, 0, none⟩)) →
      ∀ j T φ t, upd L i true j = true → kdAt l j = .new T φ → dstOf ops j = some t → upd vs i v j = .pointer (some ⟨X' t, 0, none⟩) := fun X' hX hv j T φ t hj hk hdj => by
    by_cases e : j = i
    · subst e; rw [upd_eq]; exact hv T φ t hk hdj
    · rw [upd_ne _ _ e, hX j T φ t (hupd j hj e) hk hdj]; exact H.news j T φ t (hupd j hj e) hk hdj
  cases hk : kdAt l i with
  | val φ =>
    rw [hk] at h
    obtain ⟨hb, hφ⟩ := h
    have ev : Ev B w w' := Ev.of_below hb
    have hno : ∀ T φ', kdAt l i ≠ .new T φ' := fun T φ' e => by rw [hk] at e; cases e
    refine ⟨X, B, H.ent.trans (hb.mono H.ent.size), (Ev.of_below (B := B0) hb |> fun e => H.ev.back (fun _ _ x => x) e), fun k hkB => ⟨(H.bnd k hkB).1, Nat.lt_of_lt_of_le (H.bnd k hkB).2 hb.size⟩, H.old, hdeps, H.ptr,
      hnews X (fun _ _ _ _ _ _ _ => rfl) (fun T φ' t e => absurd e (hno T φ')), ?_, ?_, ?_, ?_⟩
    · intro t T φ' hbx
      obtain ⟨h1, h2⟩ := H.box t T φ' (hbox hno t T φ' hbx)
      exact ⟨h1, fun hn => cont_go (h2 (hnp t hn)) (hb.block _ (H.bnd _ h1).2) ev (fun _ _ x => x)⟩
    · exact fun t t' T φ1 T' φ2 b1 b2 e => H.sep t t' T φ1 T' φ2 (hbox hno _ _ _ b1) (hbox hno _ _ _ b2) e
    · intro j t T φ' hj hkj
      by_cases e : j = i
      · subst e; rw [hk] at hkj; cases hkj
      · have hc := H.put j t T φ' (hupd j hj e) hkj
        obtain ⟨u, hu, _⟩ := id hc
        exact cont_go hc (hb.block _ (Array.getElem?_eq_some_iff.1 hu).1) ev (fun _ _ x => x)
    · intro j ψ hj hkj
      by_cases e : j = i
      · subst e; rw [hk] at hkj; cases hkj; rw [upd_eq]; exact hφ
      · exact (hval j ψ hj e hkj).go ev (fun _ _ x => x)
  | new T φ =>
    rw [hk] at h
    obtain ⟨rfl, u, rfl, hu⟩ := h
    obtain ⟨t, ht⟩ := S.news i T φ hi hk
    have hb : Below w.heap.size w (w.alloc (.cells u.cells T (0, 0))) := (Below.refl _ _).alloc (Nat.le_refl _) _
    have hsz : (w.alloc (.cells u.cells T (0, 0))).heap.size = w.heap.size + 1 := by simp
    have ev : Ev B w (w.alloc (.cells u.cells T (0, 0))) := Ev.of_below hb
    have hB : ∀ k, k < w.heap.size → (B k ∨ k = w.heap.size) → B k := fun k hk h => by rcases h with h | h; exact h; omega
    have tne : ∀ t' T' φ', IsBox ops l bx L t' T' φ' → t' ≠ t := fun t' T' φ' hb' e => by
      subst e
      rcases hb' with hb' | ⟨j, hj, hkj, hdj⟩
      · exact apart_dst (S.free _ hb') i ht
      · exact hne j hj (dstOf_inj S.dsts hdj ht)
    have hcase : ∀ t' T' φ', IsBox ops l bx (upd L i true) t' T' φ' → (t' = t ∧ T' = T ∧ φ' = φ) ∨ IsBox ops l bx L t' T' φ' := fun t' T' φ' hb' => by
      rcases hb' with hb' | ⟨j, hj, hkj, hdj⟩
      · exact Or.inr (Or.inl hb')
      · by_cases e : j = i
        · subst e
          rw [hk] at hkj
          rw [ht] at hdj
          cases hkj; cases hdj
          exact Or.inl ⟨rfl, rfl, rfl⟩
        · exact Or.inr (Or.inr ⟨j, hupd j hj e, hkj, hdj⟩)
    refine ⟨upd X t w.heap.size, fun k => B k ∨ k = w.heap.size, H.ent.trans (hb.mono H.ent.size), H.ev.back (fun _ _ x => x) (Ev.of_below (B := B0) hb), ?_, ?_, hdeps, ?_, ?_, ?_, ?_, ?_, ?_⟩
    · rintro k (hkB | rfl)
      · exact ⟨(H.bnd k hkB).1, by rw [hsz]; have := (H.bnd k hkB).2; omega⟩
      · exact ⟨H.ent.size, by rw [hsz]; omega⟩
    · intro k hk'
      have := H.ev.size
      constructor
      · rintro (h | h)
        · exact (H.old k hk').1 h
        · omega
      · exact fun h => Or.inl ((H.old k hk').2 h)
    · intro x hx
      rw [upd_ne _ _ (tne x.1 x.2.1 x.2.2 (Or.inl hx))]
      exact H.ptr x hx
    · refine hnews _ (fun j T' φ' t' hj hkj hdj => upd_ne _ _ (tne t' T' φ' (Or.inr ⟨j, hj, hkj, hdj⟩))) (fun T' φ' t' hk' ht' => ?_)
      rw [ht] at ht'
      cases ht'
      rw [upd_eq]
    · intro t' T' φ' hb'
      rcases hcase t' T' φ' hb' with ⟨rfl, rfl, rfl⟩ | hb'
      · rw [upd_eq]
        exact ⟨Or.inr rfl, fun _ => ⟨u, heap_alloc_last _ _, hu.go ev hB⟩⟩
      · rw [upd_ne _ _ (tne t' T' φ' hb')]
        obtain ⟨h1, h2⟩ := H.box t' T' φ' hb'
        exact ⟨Or.inl h1, fun hn => cont_go (h2 (hnp t' hn)) (hb.block _ (H.bnd _ h1).2) ev hB⟩
    · intro t1 t2 T1 φ1 T2 φ2 b1 b2 e
      have far : ∀ t' T' φ', IsBox ops l bx L t' T' φ' → X t' ≠ w.heap.size := fun t' T' φ' hb' e' => by have := (H.bnd _ (H.box t' T' φ' hb').1).2; omega
      rcases hcase t1 T1 φ1 b1 with ⟨rfl, rfl, rfl⟩ | c1 <;> rcases hcase t2 T2 φ2 b2 with ⟨rfl, rfl, rfl⟩ | c2
      · rfl
      · rw [upd_eq, upd_ne _ _ (tne t2 T2 φ2 c2)] at e; exact absurd e.symm (far _ _ _ c2)
      · rw [upd_eq, upd_ne _ _ (tne t1 T1 φ1 c1)] at e; exact absurd e (far _ _ _ c1)
      · rw [upd_ne _ _ (tne t1 T1 φ1 c1), upd_ne _ _ (tne t2 T2 φ2 c2)] at e
        exact H.sep t1 t2 T1 φ1 T2 φ2 c1 c2 e
    · intro j t' T' φ' hj hkj
      by_cases e : j = i
      · subst e; rw [hk] at hkj; cases hkj
      · have hjL := hupd j hj e
        have hc := H.put j t' T' φ' hjL hkj
        have hbx : ∃ φ'', IsBox ops l bx L t' T' φ'' := by
          rcases S.puts j t' T' φ' (H.deps j hjL).1 hkj with ⟨φ'', h⟩ | ⟨k, hkd, φ'', h1, h2⟩
          · exact ⟨φ'', Or.inl h⟩
          · exact ⟨φ'', Or.inr ⟨k, (H.deps j hjL).2 k hkd, h1, h2⟩⟩
        obtain ⟨φ'', hbx⟩ := hbx
        rw [upd_ne _ _ (tne t' T' φ'' hbx)]
        obtain ⟨u', hu', _⟩ := id hc
        exact cont_go hc (hb.block _ (Array.getElem?_eq_some_iff.1 hu').1) ev hB
    · intro j ψ hj hkj
      by_cases e : j = i
      · subst e; rw [hk] at hkj; cases hkj
      · exact (hval j ψ hj e hkj).go ev hB
  | put t T φ =>
    rw [hk] at h
    obtain ⟨u, cs, g1, rfl, hu⟩ := h
    have hno : ∀ T φ', kdAt l i ≠ .new T φ' := fun T φ' e => by rw [hk] at e; cases e
    have hbx : ∃ φ'', IsBox ops l bx L t T φ'' := by
      rcases S.puts i t T φ hi hk with ⟨φ'', h⟩ | ⟨k, hkd, φ'', h1, h2⟩
      · exact ⟨φ'', Or.inl h⟩
      · exact ⟨φ'', Or.inr ⟨k, hd k hkd, h1, h2⟩⟩
    obtain ⟨φ'', hbx⟩ := hbx
    have hB := (H.box t T φ'' hbx).1
    have ev : Ev B w (w.setRow (X t) u.cells) := ⟨rfl, rfl, rfl, by rw [setRow_size]; exact Nat.le_refl _, fun k _ hn => setRow_other _ _ _ _ (fun e => hn (e ▸ hB))⟩
    have ev0 : Ev B0 W (w.setRow (X t) u.cells) := ⟨H.ev.os, H.ev.tape, H.ev.output, by rw [setRow_size]; exact H.ev.size, fun k hk' hn => (setRow_other _ _ _ _ (fun e => by subst e; exact hn ((H.old _ hk').1 hB))).trans (H.ev.block k hk' hn)⟩
    refine ⟨X, B, ⟨H.ent.os, H.ent.tape, H.ent.output, by rw [setRow_size]; exact H.ent.size, fun k hk' => (setRow_other _ _ _ _ (fun e => by have := (H.bnd _ hB).1; omega)).trans (H.ent.block k hk')⟩, ev0, fun k hkB => by rw [setRow_size]; exact H.bnd k hkB, H.old, hdeps, H.ptr,
      hnews X (fun _ _ _ _ _ _ _ => rfl) (fun T φ' t e => absurd e (hno T φ')), ?_, fun t1 t2 T1 φ1 T2 φ2 b1 b2 e => H.sep t1 t2 T1 φ1 T2 φ2 (hbox hno _ _ _ b1) (hbox hno _ _ _ b2) e, ?_, ?_⟩
    · intro t' T' φ' hb'
      have hb'' := hbox hno t' T' φ' hb'
      obtain ⟨h1, h2⟩ := H.box t' T' φ' hb''
      refine ⟨h1, fun hn => ?_⟩
      have hne' : X t' ≠ X t := fun e => by
        have := H.sep t' t _ _ _ _ hb'' hbx e
        subst this
        exact hn i T φ (upd_eq _ _ _) hk
      exact cont_go (h2 (hnp t' hn)) (setRow_other _ _ _ _ hne') ev (fun _ _ x => x)
    · intro j t' T' φ' hj hkj
      by_cases e : j = i
      · subst e
        rw [hk] at hkj
        cases hkj
        exact ⟨u, setRow_heap w _ _ _ _ _ g1, hu.go ev (fun _ _ x => x)⟩
      · have hjL := hupd j hj e
        have hc := H.put j t' T' φ' hjL hkj
        have hbj : ∃ ψ, IsBox ops l bx L t' T' ψ := by
          rcases S.puts j t' T' φ' (H.deps j hjL).1 hkj with ⟨ψ, h⟩ | ⟨k, hkd, ψ, h1, h2⟩
          · exact ⟨ψ, Or.inl h⟩
          · exact ⟨ψ, Or.inr ⟨k, (H.deps j hjL).2 k hkd, h1, h2⟩⟩
        obtain ⟨ψ, hbj⟩ := hbj
        have hne' : X t' ≠ X t := fun e' => by
          have := H.sep t' t _ _ _ _ hbj hbx e'
          subst this
          exact e (S.once i j t' T φ T' φ' hi (H.deps j hjL).1 hk hkj)
        exact cont_go hc (setRow_other _ _ _ _ hne') ev (fun _ _ x => x)
    · intro j ψ hj hkj
      by_cases e : j = i
      · subst e; rw [hk] at hkj; cases hkj
      · exact (hval j ψ hj e hkj).go ev (fun _ _ x => x)
  | off =>
    rw [hk] at h
    obtain rfl : w' = w := h
    have hno : ∀ T φ', kdAt l i ≠ .new T φ' := fun T φ' e => by rw [hk] at e; cases e
    refine ⟨X, B, H.ent, H.ev, H.bnd, H.old, hdeps, H.ptr, hnews X (fun _ _ _ _ _ _ _ => rfl) (fun T φ' t e => absurd e (hno T φ')), fun t T φ hb => ?_, fun t1 t2 T1 φ1 T2 φ2 b1 b2 e => H.sep t1 t2 T1 φ1 T2 φ2 (hbox hno _ _ _ b1) (hbox hno _ _ _ b2) e, ?_, ?_⟩
    · obtain ⟨h1, h2⟩ := H.box t T φ (hbox hno _ _ _ hb)
      exact ⟨h1, fun hn => h2 (hnp t hn)⟩
    · intro j t T φ hj hkj
      by_cases e : j = i
      · subst e; rw [hk] at hkj; cases hkj
      · exact H.put j t T φ (hupd j hj e) hkj
    · intro j ψ hj hkj
      by_cases e : j = i
      · subst e; rw [hk] at hkj; cases hkj
      · exact hval j ψ hj e hkj
end

/-! The statement. -/
/-- The premises of an operation. -/
structure Ctx (ops : Array Oper) (l : List Kd) (bx : Bxs) (sl : List (Tmp × Pr)) (a0 : Act) (n : Nat) (w0 : World) (i : Nat) (B : Nat → Prop) (X : Tmp → Nat) (a : Act) (w : World) : Prop where
  lo : w0.heap.size ≤ w.heap.size
  bnd : ∀ k, B k → w0.heap.size ≤ k ∧ k < w.heap.size
  val : ∀ j d φ, j ∈ depsOf ops i → kdAt l j = .val φ → dstOf ops j = some d → Has B w φ (a.eval (.tmp d))
  news : ∀ j d T φ, j ∈ depsOf ops i → kdAt l j = .new T φ → dstOf ops j = some d → a.eval (.tmp d) = .pointer (some ⟨X d, 0, none⟩) ∧ B (X d) ∧ ((∀ k t T' φ', k < ops.size → kdAt l k = .put t T' φ' → t = d → i = k ∨ i ∈ depsOf ops k) → Cont B w (X d) T φ)
  slt : ∀ t φ, (t, φ) ∈ sl → ops.toList.all (apartFrom (some t)) = true → Has B w φ (a.eval (.tmp t))
  box : ∀ t T φ, (t, T, φ) ∈ bx → a.eval (.tmp t) = .pointer (some ⟨X t, 0, none⟩) ∧ a0.eval (.tmp t) = .pointer (some ⟨X t, 0, none⟩) ∧ B (X t) ∧ ((∀ k t' T' φ', k < ops.size → kdAt l k = .put t' T' φ' → t' = t → i = k ∨ i ∈ depsOf ops k) → Cont B w (X t) T φ)

/-- What is owed of operation number i. -/
def Owed (P : Program) (ops : Array Oper) (Q : Exit → Act → World → Prop) (l : List Kd) (bx : Bxs) (sl : List (Tmp × Pr)) (a0 : Act) (n : Nat) (w0 : World) (i : Nat) : Prop :=
  ∀ (B : Nat → Prop) (X : Tmp → Nat) (a : Act) (w : World), Ctx ops l bx sl a0 n w0 i B X a w → ∀ o, ops[i]? = some o → wpOp P ops Q i (fun a' w' => ∃ v, a' = a.put o.dst v ∧ (kdAt l i).out B X w v w') a w
def AllOwed (p : Nat → Prop) : Nat → Prop
  | 0 => True
  | n + 1 => AllOwed p n ∧ p n
theorem AllOwed.get {p : Nat → Prop} : ∀ {n : Nat}, AllOwed p n → ∀ i, i < n → p i
  | 0, _, i, h => by omega
  | n + 1, h, i, hi => by
    by_cases e : i = n
    · subst e; exact h.2
    · exact AllOwed.get h.1 i (by omega)

section
variable {P : Program} {ops : Array Oper} {Q : Exit → Act → World → Prop} {l : List Kd} {bx : Bxs} {sl : List (Tmp × Pr)} {n : Nat} {B0 : Nat → Prop} {a0 : Act} {W w0 : World}

theorem Held.ctx (S : Shape ops l bx n) (T0 : Sta w0 n bx sl B0 a0 W) {L : Nat → Bool} {vs : Nat → Value} {X : Tmp → Nat} {B : Nat → Prop} {w : World} (H : Held ops l bx B0 a0 W w0 L vs X B w) {i : Nat} (hi : i < ops.size) (hL : L i = false) (hd : ∀ j ∈ depsOf ops i, L j = true) :
    Ctx ops l bx sl a0 n w0 i B X (fillL ops.toList 0 L vs a0) w := by
  have hev : ∀ j d, L j = true → dstOf ops j = some d → (fillL ops.toList 0 L vs a0).eval (.tmp d) = vs j := fun j d hj hdj => by
    cases ho : ops[j]? with
    | none => simp [dstOf, ho] at hdj
    | some o =>
      have := fillL_at ops.toList 0 j o L vs a0 d S.dsts (by simpa using ho) (by simpa using hj) (by simpa [dstOf, ho] using hdj) (by rw [T0.siz]; exact S.slot j d hdj)
      simpa using this
  have hnp : ∀ t, (∀ k t' T' φ', k < ops.size → kdAt l k = .put t' T' φ' → t' = t → i = k ∨ i ∈ depsOf ops k) → NotPut l L t := fun t h k T φ hk hkk => by
    have hks := (H.deps k hk).1
    rcases h k t T φ hks hkk rfl with e | e
    · subst e; rw [hL] at hk; cases hk
    · have := (H.deps k hk).2 i e; rw [hL] at this; cases this
  refine ⟨H.ent.size, H.bnd, fun j d φ hj hk hdj => ?_, fun j d T φ hj hk hdj => ?_, fun t φ ht hf => ?_, fun t T φ ht => ?_⟩
  · rw [hev j d (hd j hj) hdj]
    exact H.val j φ (hd j hj) hk
  · have hb : IsBox ops l bx L d T φ := Or.inr ⟨j, hd j hj, hk, hdj⟩
    rw [hev j d (hd j hj) hdj, H.news j T φ d (hd j hj) hk hdj]
    exact ⟨rfl, (H.box d T φ hb).1, fun h => (H.box d T φ hb).2 (hnp d h)⟩
  · rw [fillL_other _ _ _ _ _ t hf]
    exact (T0.slt _ ht).go H.ev (fun k hk h => (H.old k hk).1 h)
  · have hb : IsBox ops l bx L t T φ := Or.inl ht
    have hp := H.ptr _ ht
    rw [fillL_other _ _ _ _ _ t (S.free _ ht)]
    exact ⟨hp, hp, (H.box t T φ hb).1, fun h => (H.box t T φ hb).2 (hnp t h)⟩

/-- What may be taken along behind the statement: the value of an operation (inl), or what was known of a slot (inr). -/
def pickSl (ops : Array Oper) (l : List Kd) (sl : List (Tmp × Pr)) : List (Nat ⊕ Nat) → List (Tmp × Pr)
  | [] => []
  | .inl i :: r => (match kdAt l i, dstOf ops i with | .val φ, some d => [(d, φ)] | _, _ => []) ++ pickSl ops l sl r
  | .inr k :: r => (match sl[k]? with | some x => if ops.toList.all (apartFrom (some x.1)) then [x] else [] | none => []) ++ pickSl ops l sl r
/-- The last word on a box. -/
def putOn (l : List Kd) (t : Tmp) (φ : Pr) : Pr := match l.find? (fun k => match k.isPut with | some (t', _) => t' == t | none => false) with | some (.put _ _ ψ) => ψ | _ => φ
def pickBx (ops : Array Oper) (l : List Kd) (bx : Bxs) : List (Nat ⊕ Nat) → Bxs
  | [] => []
  | .inl i :: r => (match kdAt l i, dstOf ops i with | .new T φ, some d => [(d, T, putOn l d φ)] | _, _ => []) ++ pickBx ops l bx r
  | .inr k :: r => (match bx[k]? with | some x => [(x.1, x.2.1, putOn l x.1 x.2.2)] | none => []) ++ pickBx ops l bx r

theorem pickSl_mem : ∀ (s : List (Nat ⊕ Nat)) (x : Tmp × Pr), x ∈ pickSl ops l sl s → (∃ i, kdAt l i = .val x.2 ∧ dstOf ops i = some x.1) ∨ (x ∈ sl ∧ ops.toList.all (apartFrom (some x.1)) = true)
  | [], x, h => by cases h
  | .inl i :: r, x, h => by
    simp only [pickSl, List.mem_append] at h
    rcases h with h | h
    · split at h
      · rename_i φ d e1 e2
        simp at h
        subst h
        exact Or.inl ⟨i, e1, e2⟩
      · cases h
    · exact pickSl_mem r x h
  | .inr k :: r, x, h => by
    simp only [pickSl, List.mem_append] at h
    rcases h with h | h
    · split at h
      · rename_i y e
        split at h
        · rename_i hf
          simp at h
          subst h
          exact Or.inr ⟨List.mem_of_getElem? e, hf⟩
        · cases h
      · cases h
    · exact pickSl_mem r x h
theorem pickBx_mem : ∀ (s : List (Nat ⊕ Nat)) (x : Tmp × TypeId × Pr), x ∈ pickBx ops l bx s → ∃ φ, x.2.2 = putOn l x.1 φ ∧ ((∃ i, kdAt l i = .new x.2.1 φ ∧ dstOf ops i = some x.1) ∨ (x.1, x.2.1, φ) ∈ bx)
  | [], x, h => by cases h
  | .inl i :: r, x, h => by
    simp only [pickBx, List.mem_append] at h
    rcases h with h | h
    · split at h
      · rename_i T φ d e1 e2
        simp at h
        subst h
        exact ⟨φ, rfl, Or.inl ⟨i, e1, e2⟩⟩
      · cases h
    · exact pickBx_mem r x h
  | .inr k :: r, x, h => by
    simp only [pickBx, List.mem_append] at h
    rcases h with h | h
    · split at h
      · rename_i y e
        simp at h
        subst h
        exact ⟨y.2.2, rfl, Or.inr (List.mem_of_getElem? e)⟩
      · cases h
    · exact pickBx_mem r x h
theorem kd_lt {i : Nat} (h : kdAt l i ≠ .off) : i < l.length := by
  apply Classical.byContradiction
  intro hn
  apply h
  simp [kdAt, List.getElem?_eq_none (Nat.le_of_not_lt hn)]

/-- What is known behind the statement. -/
theorem Held.done (S : Shape ops l bx n) (hl : l.length = ops.size) (T0 : Sta w0 n bx sl B0 a0 W) {vs : Nat → Value} {X : Tmp → Nat} {B : Nat → Prop} {w : World} (H : Held ops l bx B0 a0 W w0 (fun i => decide (i < ops.size)) vs X B w) (s1 s2 : List (Nat ⊕ Nat)) :
    Sta w0 n (pickBx ops l bx s1) (pickSl ops l sl s2) B (fillL ops.toList 0 (fun i => decide (i < ops.size)) vs a0) w := by
  have hall : ∀ i, i < ops.size → (fun i => decide (i < ops.size)) i = true := fun i hi => by simp [hi]
  have hev : ∀ j d, j < ops.size → dstOf ops j = some d → (fillL ops.toList 0 (fun i => decide (i < ops.size)) vs a0).eval (.tmp d) = vs j := fun j d hj hdj => by
    cases ho : ops[j]? with
    | none => simp [dstOf, ho] at hdj
    | some o =>
      have := fillL_at ops.toList 0 j o (fun i => decide (i < ops.size)) vs a0 d S.dsts (by simpa using ho) (by simpa using hj) (by simpa [dstOf, ho] using hdj) (by rw [T0.siz]; exact S.slot j d hdj)
      simpa using this
  have hbx : ∀ t T φ, ((∃ i, kdAt l i = .new T φ ∧ dstOf ops i = some t) ∨ (t, T, φ) ∈ bx) → (fillL ops.toList 0 (fun i => decide (i < ops.size)) vs a0).eval (.tmp t) = .pointer (some ⟨X t, 0, none⟩) ∧ IsBox ops l bx (fun i => decide (i < ops.size)) t T φ := fun t T φ h => by
    rcases h with ⟨i, hk, hd⟩ | h
    · have hi : i < ops.size := by rw [← hl]; exact kd_lt (by rw [hk]; intro e; cases e)
      exact ⟨by rw [hev i t hi hd]; exact H.news i T φ t (hall i hi) hk hd, Or.inr ⟨i, hall i hi, hk, hd⟩⟩
    · exact ⟨by rw [fillL_other _ _ _ _ _ t (S.free _ h)]; exact H.ptr _ h, Or.inl h⟩
  have hcont : ∀ t T φ, IsBox ops l bx (fun i => decide (i < ops.size)) t T φ → Cont B w (X t) T (putOn l t φ) := fun t T φ hb => by
    unfold putOn
    cases hf : l.find? (fun k => match k.isPut with | some (t', _) => t' == t | none => false) with
    | none =>
      refine (H.box t T φ hb).2 (fun i T' φ' hi hk => ?_)
      have hi' : i < l.length := by rw [hl]; simpa using hi
      have := List.find?_eq_none.1 hf (l.getD i .off) (by simp [hi'])
      rw [show l.getD i .off = _ from hk] at this
      simp [Kd.isPut] at this
    | some k =>
      have h1 := List.find?_some hf
      have h2 := List.mem_of_find?_eq_some hf
      cases k with
      | put t' T' ψ =>
        simp [Kd.isPut] at h1
        subst h1
        obtain ⟨i, hi, e⟩ := List.getElem_of_mem h2
        have hk : kdAt l i = .put t' T' ψ := by simp [kdAt, hi, e]
        have hi' : i < ops.size := by rw [← hl]; exact hi
        have hc := H.put i t' T' ψ (hall i hi') hk
        have hT : T' = T := by
          rcases S.puts i t' T' ψ hi' hk with ⟨φ', h⟩ | ⟨j, _, φ', h1, h2⟩
          · rcases hb with hb | ⟨j, hj, hkj, hdj⟩
            · have e1 := T0.sep _ h _ hb (by rfl)
              simp at e1
              exact e1.1
            · exact absurd hdj (apart_dst (S.free _ h) j)
          · rcases hb with hb | ⟨j', hj, hkj, hdj⟩
            · exact absurd h2 (apart_dst (S.free _ hb) j)
            · have := dstOf_inj S.dsts h2 hdj
              subst this
              rw [h1] at hkj
              cases hkj
              rfl
        subst hT
        exact hc
      | _ => simp [Kd.isPut] at h1
  have hsz := fillL_size ops.toList 0 (fun i => decide (i < ops.size)) vs a0
  refine ⟨H.ent, H.bnd, by rw [hsz.1]; exact T0.siz, by rw [hsz.2]; exact T0.dfr, fun x hx => ?_, fun x hx y hy e => ?_, fun x hx => ?_⟩
  · obtain ⟨φ, e, h⟩ := pickBx_mem s1 x hx
    obtain ⟨h1, h2⟩ := hbx _ _ _ h
    refine ⟨X x.1, h1, (H.box _ _ _ h2).1, ?_⟩
    rw [e]
    exact hcont _ _ _ h2
  · obtain ⟨φ, ex, h⟩ := pickBx_mem s1 x hx
    obtain ⟨ψ, ey, h'⟩ := pickBx_mem s1 y hy
    obtain ⟨h1, h2⟩ := hbx _ _ _ h
    obtain ⟨h1', h2'⟩ := hbx _ _ _ h'
    rw [h1, h1'] at e
    simp at e
    have et := H.sep _ _ _ _ _ _ h2 h2' e
    have same : x.2.1 = y.2.1 ∧ φ = ψ := by
      rcases h with ⟨i, hk, hd⟩ | h <;> rcases h' with ⟨j, hk', hd'⟩ | h'
      · rw [et] at hd
        have := dstOf_inj S.dsts hd hd'
        subst this
        rw [hk] at hk'
        injection hk' with e1 e2
        exact ⟨e1, e2⟩
      · rw [et] at hd; exact absurd hd (apart_dst (S.free _ h') i)
      · rw [← et] at hd'; exact absurd hd' (apart_dst (S.free _ h) j)
      · have := T0.sep _ h _ h' (by show a0.eval (.tmp x.1) = a0.eval (.tmp y.1); rw [et])
        simp at this
        exact ⟨this.2.1, this.2.2⟩
    obtain ⟨x1, x2, x3⟩ := x
    obtain ⟨y1, y2, y3⟩ := y
    simp only at *
    subst et
    obtain ⟨rfl, rfl⟩ := same
    rw [ex, ey]
  · rcases pickSl_mem s2 x hx with ⟨i, hk, hd⟩ | ⟨h, hf⟩
    · have hi : i < ops.size := by rw [← hl]; exact kd_lt (by rw [hk]; intro e; cases e)
      rw [hev i x.1 hi hd]
      exact H.val i _ (hall i hi) hk
    · rw [fillL_other _ _ _ _ _ x.1 hf]
      exact (T0.slt _ h).go H.ev (fun k hk h => (H.old k hk).1 h)

/-- Before the first operation. -/
theorem Held.start (T0 : Sta w0 n bx sl B0 a0 W) {w : World} (hw : Below W.heap.size W w) (hs : w.heap.size = W.heap.size) : ∃ X, Held ops l bx B0 a0 W w0 (fun _ => false) (fun _ => undef) X B0 w := by
  have hX : ∃ X : Tmp → Nat, ∀ x ∈ bx, a0.eval (.tmp x.1) = .pointer (some ⟨X x.1, 0, none⟩) := by
    refine ⟨fun t => match a0.eval (.tmp t) with | .pointer (some p) => p.block | _ => 0, fun x hx => ?_⟩
    obtain ⟨b, h, _⟩ := T0.box x hx
    simp only [h]
  obtain ⟨X, hX⟩ := hX
  have ev : Ev B0 W w := Ev.of_below hw
  have hb : ∀ t T φ, IsBox ops l bx (fun _ => false) t T φ → (t, T, φ) ∈ bx := fun t T φ h => by
    rcases h with h | ⟨i, hi, _⟩
    · exact h
    · cases hi
  refine ⟨X, T0.ent.trans (hw.mono T0.ent.size), ev, fun k hk => ⟨(T0.bnd k hk).1, by rw [hs]; exact (T0.bnd k hk).2⟩, fun _ _ => Iff.rfl, (fun _ h => nomatch h), hX, (fun _ _ _ _ h => nomatch h), fun t T φ h => ?_, fun t t' T φ T' φ' h h' e => ?_, (fun _ _ _ _ h => nomatch h), (fun _ _ h => nomatch h)⟩
  · obtain ⟨b, h1, h2, h3⟩ := T0.box _ (hb t T φ h)
    have e : X t = b := by
      have := hX _ (hb t T φ h)
      rw [h1] at this
      simp at this
      exact this.symm
    rw [e]
    exact ⟨h2, fun _ => cont_go h3 (hw.block _ (T0.bnd _ h2).2) ev (fun _ _ x => x)⟩
  · have := T0.sep _ (hb t T φ h) _ (hb t' T' φ' h') (by rw [hX _ (hb t T φ h), hX _ (hb t' T' φ' h')]; simp only; rw [e])
    simp at this
    exact this.1

def flags (listed : Array Bool) : Nat → Bool := fun i => listed.getD i false
def leftOver (listed : Array Bool) : Nat := listed.toList.countP (fun b => !b)
theorem countP_set : ∀ (l : List Bool) (i : Nat), l[i]? = some false → (l.set i true).countP (fun b => !b) + 1 = l.countP (fun b => !b)
  | [], _, h => by cases h
  | b :: r, 0, h => by simp at h; subst h; simp
  | b :: r, i + 1, h => by
    simp only [List.getElem?_cons_succ] at h
    have := countP_set r i h
    simp only [List.set_cons_succ, List.countP_cons]
    omega
theorem leftOver_set {listed : Array Bool} {i : Nat} (h : listed.getD i true = false) : leftOver (listed.setIfInBounds i true) + 1 = leftOver listed := by
  have hl : listed.toList[i]? = some false := by
    rcases Nat.lt_or_ge i listed.size with h' | h'
    · simp [h'] at h
      simp [h', h]
    · simp [Array.getElem?_eq_none h'] at h
  have := countP_set listed.toList i hl
  simp only [leftOver, Array.toList_setIfInBounds]
  exact this
theorem flags_set {listed : Array Bool} {i : Nat} (h : i < listed.size) : flags (listed.setIfInBounds i true) = upd (flags listed) i true := by
  funext j
  by_cases e : j = i
  · subst e; simp [flags, upd_eq, h]
  · rw [upd_ne _ _ e]; simp only [flags]; exact getD_set_ne false (Ne.symm e)

/-- One operation more, in the statement's run. -/
theorem Held.run (S : Shape ops l bx n) (T0 : Sta w0 n bx sl B0 a0 W) (hop : AllOwed (Owed P ops Q l bx sl a0 n w0) ops.size) {L : Nat → Bool} {vs : Nat → Value} {X : Tmp → Nat} {B : Nat → Prop} {w : World} (H : Held ops l bx B0 a0 W w0 L vs X B w) {i : Nat} (hi : i < ops.size) (hL : L i = false) (hd : ∀ j ∈ depsOf ops i, L j = true)
    {K : Act → World → Prop} (hK : ∀ v X' B' w', Held ops l bx B0 a0 W w0 (upd L i true) (upd vs i v) X' B' w' → K (fillL ops.toList 0 (upd L i true) (upd vs i v) a0) w') : wpOp P ops Q i K (fillL ops.toList 0 L vs a0) w := by
  have ho : ops[i]? = some ops[i] := by simp [hi]
  refine wpOp_mono ?_ (hop.get i hi B X _ w (H.ctx S T0 hi hL hd) _ ho)
  rintro a' w' ⟨v, rfl, hout⟩
  obtain ⟨X', B', H'⟩ := H.step S hi hL hd hout
  have hst := fillL_step ops.toList 0 i ops[i] L vs a0 v S.dsts (by simp [hi]) (by simpa using hL)
  rw [Nat.zero_add] at hst
  rw [hst]
  exact hK v X' B' w' H'

theorem wpAny_held (S : Shape ops l bx n) (T0 : Sta w0 n bx sl B0 a0 W) (hop : AllOwed (Owed P ops Q l bx sl a0 n w0) ops.size)
    (fin : ∀ vs X B w, Held ops l bx B0 a0 W w0 (fun i => decide (i < ops.size)) vs X B w → Q .normal (fillL ops.toList 0 (fun i => decide (i < ops.size)) vs a0) w) :
    ∀ (fuel : Nat) (listed : Array Bool) (vs : Nat → Value) (X : Tmp → Nat) (B : Nat → Prop) (w : World), listed.size = ops.size → leftOver listed ≤ fuel →
      Held ops l bx B0 a0 W w0 (flags listed) vs X B w → wpAny P .any ops Q fuel listed (fillL ops.toList 0 (flags listed) vs a0) w := by
  have hend : ∀ (listed : Array Bool) vs X B w, listed.size = ops.size → leftOver listed = 0 → Held ops l bx B0 a0 W w0 (flags listed) vs X B w → Region.ready .any ops listed = [] ∧ Q .normal (fillL ops.toList 0 (flags listed) vs a0) w := by
    intro listed vs X B w hs hl H
    have hall : ∀ i, i < ops.size → listed.getD i false = true := by
      intro i hi
      have hi' : i < listed.size := by omega
      have : ∀ b ∈ listed.toList, b = true := by
        intro b hb
        have h0 := List.countP_eq_zero.1 hl b hb
        simpa using h0
      have := this listed[i] (by simp)
      simp [hi', this]
    have hfl : flags listed = fun i => decide (i < ops.size) := by
      funext i
      by_cases hi : i < ops.size
      · simp only [flags, hi, decide_true]; exact hall i hi
      · simp only [flags, hi, decide_false]
        have : listed[i]? = none := Array.getElem?_eq_none (by omega)
        simp [this]
    constructor
    · apply List.eq_nil_iff_forall_not_mem.2
      intro i hi
      obtain ⟨h0, o, ho, _⟩ := mem_ready.1 hi
      have hlt : i < ops.size := (Array.getElem?_eq_some_iff.1 ho).1
      have := hall i hlt
      have hlt' : i < listed.size := by omega
      simp [hlt'] at h0 this
      rw [h0] at this
      cases this
    · rw [hfl] at H ⊢
      exact fin vs X B w H
  intro fuel
  induction fuel with
  | zero =>
    intro listed vs X B w hs hl H
    exact hend listed vs X B w hs (by omega) H
  | succ fuel ih =>
    intro listed vs X B w hs hl H
    refine ⟨fun hr => ?_, fun i hi => ?_⟩
    · have hall : ∀ i, i < ops.size → flags listed i = true := by
        intro i
        induction i using Nat.strongRecOn with
        | ind i IH =>
          intro hi
          apply Classical.byContradiction
          intro hn
          have hi' : i < listed.size := by omega
          have hm : i ∈ Region.ready .any ops listed := by
            refine mem_ready.2 ⟨?_, ops[i], by simp [hi], fun e he hb => ?_⟩
            · simp [flags, hi'] at hn ⊢
              exact hn
            · have hj : e.on ∈ depsOf ops i := by
                simp only [depsOf, Array.getElem?_eq_getElem hi, List.mem_filterMap]
                exact ⟨e, by simpa using he, by simp [hb]⟩
              have hlt := S.low i e.on hi hj
              exact IH e.on hlt (by omega)
          rw [hr] at hm
          cases hm
      have h0 : leftOver listed = 0 := by
        refine List.countP_eq_zero.2 (fun b hb => ?_)
        obtain ⟨i, hi, rfl⟩ := List.getElem_of_mem hb
        have hi' : i < listed.size := by simpa using hi
        have := hall i (by omega)
        simp [flags, hi'] at this
        simp [this]
      exact (hend listed vs X B w hs h0 H).2
    · obtain ⟨h0, o, ho, hall⟩ := mem_ready.1 hi
      have hlt : i < ops.size := (Array.getElem?_eq_some_iff.1 ho).1
      have hlt' : i < listed.size := by omega
      have hLi : flags listed i = false := by
        simp [flags, hlt'] at h0 ⊢
        exact h0
      have hdeps : ∀ j ∈ depsOf ops i, flags listed j = true := by
        intro j hj
        simp only [depsOf, ho, List.mem_filterMap] at hj
        obtain ⟨e, he, hee⟩ := hj
        split at hee
        · rename_i hb
          cases hee
          exact hall e (by simpa using he) hb
        · cases hee
      refine H.run S T0 hop hlt hLi hdeps (fun v X' B' w' H' => ?_)
      rw [← flags_set hlt'] at H' ⊢
      exact ih _ _ X' B' w' (by simp [hs]) (by have := leftOver_set h0; omega) H'

theorem wpOps_held (S : Shape ops l bx n) (T0 : Sta w0 n bx sl B0 a0 W) (hop : AllOwed (Owed P ops Q l bx sl a0 n w0) ops.size)
    (fin : ∀ vs X B w, Held ops l bx B0 a0 W w0 (fun i => decide (i < ops.size)) vs X B w → Q .normal (fillL ops.toList 0 (fun i => decide (i < ops.size)) vs a0) w) :
    ∀ (m k : Nat) (vs : Nat → Value) (X : Tmp → Nat) (B : Nat → Prop) (w : World), k + m = ops.size → Held ops l bx B0 a0 W w0 (fun i => decide (i < k)) vs X B w → wpOps P ops Q (List.range' k m) (fillL ops.toList 0 (fun i => decide (i < k)) vs a0) w := by
  intro m
  induction m with
  | zero =>
    intro k vs X B w hk H
    obtain rfl : k = ops.size := by omega
    simp only [List.range'_zero, wpOps]
    exact fin vs X B w H
  | succ m ih =>
    intro k vs X B w hk H
    rw [List.range'_succ, wpOps_cons]
    have hi : k < ops.size := by omega
    refine H.run S T0 hop hi (by simp) (fun j hj => by simpa using S.low k j hi hj) (fun v X' B' w' H' => ?_)
    have e : upd (fun i => decide (i < k)) k true = fun i => decide (i < k + 1) := by
      funext j
      by_cases e : j = k
      · subst e; rw [upd_eq]; simp
      · rw [upd_ne _ _ e]
        simp only [decide_eq_decide]
        omega
    rw [e] at H' ⊢
    exact ih (k + 1) _ X' B' w' (by omega) H'

theorem fill_none (l' : List Oper) (k : Nat) (vs : Nat → Value) : fillL l' k (fun _ => false) vs a0 = a0 := by
  induction l' generalizing k with
  | nil => rfl
  | cons o r ih => simp only [fillL]; exact ih (k + 1)

/-- **A statement**, its order open or not. -/
theorem wp_stmt {id : Nat} {draw : Bool} (l : List Kd) (s1 s2 : List (Nat ⊕ Nat)) (hm : P.follows .mixedOrders = true) (T0 : Sta w0 n bx sl B0 a0 W) (hl : l.length = ops.size) (hc : shapeOk ops l (bx.map fun x => (x.1, x.2.1)) n = true)
    (hop : AllOwed (Owed P ops Q l bx sl a0 n w0) ops.size)
    (fin : ∀ B a w, Sta w0 n (pickBx ops l bx s1) (pickSl ops l sl s2) B a w → Q .normal a w) : (Code.region id ops draw).wp P Q a0 W := by
  have S := shape_of hc
  have fin' : ∀ vs X B w, Held ops l bx B0 a0 W w0 (fun i => decide (i < ops.size)) vs X B w → Q .normal (fillL ops.toList 0 (fun i => decide (i < ops.size)) vs a0) w := fun vs X B w H => fin _ _ _ (H.done S hl T0 s1 s2)
  cases draw with
  | false =>
    refine wp_region ?_
    obtain ⟨X, H⟩ := Held.start (ops := ops) (l := l) T0 (Below.refl _ W) rfl
    have h0 : (fun i => decide (i < 0)) = fun _ : Nat => false := by funext i; simp
    have := wpOps_held S T0 hop fin' ops.size 0 (fun _ => undef) X B0 W (by simp) (by rw [h0]; exact H)
    rw [h0, fill_none] at this
    rw [List.range_eq_range']
    exact this
  | true =>
    refine wp_region_any hm ?_
    have hf : flags (Array.replicate ops.size false) = fun _ => false := by
      funext i
      by_cases h : i < ops.size <;> simp [flags, h]
    obtain ⟨X, H⟩ := Held.start (ops := ops) (l := l) T0 (w := { W with drawn := W.drawn + 1 }) ⟨rfl, rfl, rfl, Nat.le_refl _, fun _ _ => rfl⟩ rfl
    have := wpAny_held S T0 hop fin' ops.size (Array.replicate ops.size false) (fun _ => undef) X B0 { W with drawn := W.drawn + 1 } (by simp) (by simp only [leftOver]; exact Nat.le_trans List.countP_le_length (by simp)) (by rw [hf]; exact H)
    rw [hf, fill_none] at this
    exact this
end
end Go.Proofs.Ytejhbjcgacblfaa

/-
  The rules of the logic of statements, one a kind of operation.
-/
namespace Go.Proofs.Ytejhbjcgacblfaa
open Go Go.RowKit
set_option linter.unusedSimpArgs false
set_option linter.unusedVariables false

/-- Just this value. -/
def Is (u : Value) : Pr := fun v _ => v = u
/-- What is made from a block on: it holds from an earlier one on too, and does not hang on blocks ahead of it. -/
structure Fresh (ψ : Nat → Pr) : Prop where
  mono : ∀ lo lo' v w, lo' ≤ lo → ψ lo v w → ψ lo' v w
  ev : ∀ lo v w w' (B : Nat → Prop), (∀ k, B k → k < lo) → ψ lo v w → Ev B w w' → ψ lo v w'
/-- What a call answers. -/
def Gives (ψ : Nat → Pr) (w : World) (e : Ending) (w' : World) : Prop := ∃ v, e = .returned v ∧ Below w.heap.size w w' ∧ ψ w.heap.size v w'
def IS (u : Value) : Nat → Pr := fun _ => Is u
theorem fresh_is (u : Value) : Fresh (IS u) := ⟨fun _ _ _ _ _ h => h, fun _ _ _ _ _ _ h _ => h⟩
def TWO (φ ψ : Nat → Pr) : Nat → Pr := fun lo v w => ∃ x y, v = .tuple #[x, y] ∧ φ lo x w ∧ ψ lo y w
def THREE (φ ψ χ : Nat → Pr) : Nat → Pr := fun lo v w => ∃ x y z, v = .tuple #[x, y, z] ∧ φ lo x w ∧ ψ lo y w ∧ χ lo z w
theorem fresh_two {φ ψ : Nat → Pr} (h : Fresh φ) (h' : Fresh ψ) : Fresh (TWO φ ψ) :=
  ⟨fun lo lo' v w hl ⟨x, y, e, a, b⟩ => ⟨x, y, e, h.mono _ _ _ _ hl a, h'.mono _ _ _ _ hl b⟩, fun lo v w w' B hB ⟨x, y, e, a, b⟩ ev => ⟨x, y, e, h.ev _ _ _ _ B hB a ev, h'.ev _ _ _ _ B hB b ev⟩⟩
theorem fresh_three {φ ψ χ : Nat → Pr} (h : Fresh φ) (h' : Fresh ψ) (h'' : Fresh χ) : Fresh (THREE φ ψ χ) :=
  ⟨fun lo lo' v w hl ⟨x, y, z, e, a, b, c⟩ => ⟨x, y, z, e, h.mono _ _ _ _ hl a, h'.mono _ _ _ _ hl b, h''.mono _ _ _ _ hl c⟩, fun lo v w w' B hB ⟨x, y, z, e, a, b, c⟩ ev => ⟨x, y, z, e, h.ev _ _ _ _ B hB a ev, h'.ev _ _ _ _ B hB b ev, h''.ev _ _ _ _ B hB c ev⟩⟩

section
variable {ops : Array Oper} {l : List Kd} {bx : Bxs} {sl : List (Tmp × Pr)} {i : Nat} {o : Oper} {Q : Exit → Act → World → Prop} {a0 : Act} {n : Nat} {w0 : World}

/-- What is known of an operand when operation i comes up. -/
def Opnd (ops : Array Oper) (l : List Kd) (bx : Bxs) (sl : List (Tmp × Pr)) (i : Nat) (x : Operand) (φ : Pr) : Prop :=
  ∀ a0 n w0 B X a w, Ctx ops l bx sl a0 n w0 i B X a w → Has B w φ (a.eval x)
theorem opnd_op (j d : Nat) {φ : Pr} (h : ((depsOf ops i).contains j && (dstOf ops j == some d)) = true) (hk : kdAt l j = .val φ) : Opnd ops l bx sl i (.tmp d) φ := fun a0 n w0 B X a w c => by
  simp only [Bool.and_eq_true, List.contains_iff_mem, beq_iff_eq] at h
  exact c.val j d φ h.1 hk h.2
theorem opnd_slot (k t : Nat) {φ : Pr} (h : sl[k]? = some (t, φ)) (hf : ops.toList.all (apartFrom (some t)) = true) : Opnd ops l bx sl i (.tmp t) φ := fun a0 n w0 B X a w c => c.slt t φ (List.mem_of_getElem? h) hf
theorem opnd_const (u : Value) : Opnd ops l bx sl i (.const u) (Is u) := fun a0 n w0 B X a w c w' e => rfl
theorem Opnd.imp {x : Operand} {φ ψ : Pr} (h : Opnd ops l bx sl i x φ) (hi : ∀ v w, φ v w → ψ v w) : Opnd ops l bx sl i x ψ := fun a0 n w0 B X a w c => (h a0 n w0 B X a w c).imp (fun w => hi _ w)

/-- It is wanted. -/
def Wants (ops : Array Oper) (l : List Kd) (bx : Bxs) (sl : List (Tmp × Pr)) (i : Nat) (o : Oper) : Prop := ∀ a0 n w0 B X a w, Ctx ops l bx sl a0 n w0 i B X a w → Region.wanted o (yielded ops a.tmps) = true
theorem wants_all (h : o.guard = none) : Wants ops l bx sl i o := fun a0 n w0 B X a w c => by simp [Region.wanted, h]
theorem yielded_of {a : Act} {j d : Nat} {b : Bool} (hd : dstOf ops j = some d) (h : a.eval (.tmp d) = .bool b) : yielded ops a.tmps j = some b := by
  have h1 : a.tmps[d]? = some (.bool b) := by
    simp only [Act.eval] at h
    cases hx : a.tmps[d]? with
    | none => simp [hx] at h; cases h
    | some v => simp [hx] at h; rw [h]
  have hd' : ((ops[j]?).bind (·.dst)) = some d := hd
  simp [yielded, hd', h1]
theorem wants_if (j d : Nat) {b : Bool} (hg : o.guard = some (j, b)) (h : ((depsOf ops i).contains j && (dstOf ops j == some d)) = true) (hk : kdAt l j = .val (Is (.bool b))) : Wants ops l bx sl i o := fun a0 n w0 B X a w c => by
  have hv := (opnd_op (bx := bx) (sl := sl) j d h hk a0 n w0 B X a w c).now
  simp only [Bool.and_eq_true, List.contains_iff_mem, beq_iff_eq] at h
  simp [Region.wanted, hg, yielded_of h.2 hv]
/-- It is not. -/
theorem owe_off (j d : Nat) {b b' : Bool} (ho : ops[i]? = some o) (hk : kdAt l i = .off) (hg : o.guard = some (j, b)) (h : ((depsOf ops i).contains j && (dstOf ops j == some d)) = true) (hkj : kdAt l j = .val (Is (.bool b'))) (hb : b' ≠ b) : Owed Try.prog ops Q l bx sl a0 n w0 i := fun B X a w c o' ho' => by
  obtain rfl : o = o' := Option.some.inj (ho.symm.trans ho')
  have hv := (opnd_op (bx := bx) (sl := sl) j d h hkj a0 n w0 B X a w c).now
  simp only [Bool.and_eq_true, List.contains_iff_mem, beq_iff_eq] at h
  simp only [wpOp, ho]
  rw [if_neg (by simp [Region.wanted, hg, yielded_of h.2 hv]; exact hb)]
  exact ⟨undef, rfl, by rw [hk]; rfl⟩

/-- A value out of the world as it is. -/
theorem owe_val {φ : Pr} (ho : ops[i]? = some o) (hw : Wants ops l bx sl i o) (hk : kdAt l i = .val φ)
    (h : ∀ B X a w, Ctx ops l bx sl a0 n w0 i B X a w → ∃ v, (execOp a.eval o).run Try.prog w = .ok (.value v) w ∧ Has B w φ v) : Owed Try.prog ops Q l bx sl a0 n w0 i := fun B X a w c o' ho' => by
  obtain rfl : o = o' := Option.some.inj (ho.symm.trans ho')
  obtain ⟨v, hr, hφ⟩ := h B X a w c
  simp only [wpOp, ho]
  rw [if_pos (hw a0 n w0 B X a w c)]
  refine Or.inl ?_
  unfold Oper.wp
  rw [hr, Oper.upon_value]
  exact ⟨v, rfl, by rw [hk]; exact ⟨Below.refl _ _, hφ⟩⟩
theorem owe_move {φ : Pr} {x : Operand} (ho : ops[i]? = some o) (hw : Wants ops l bx sl i o) (hop : o.op = .move x ∨ o.op = .assign x) (h : Opnd ops l bx sl i x φ) (hk : kdAt l i = .val φ) : Owed Try.prog ops Q l bx sl a0 n w0 i :=
  owe_val ho hw hk fun B X a w c => ⟨a.eval x, by unfold execOp; rcases hop with e | e <;> rw [e] <;> rfl, h a0 n w0 B X a w c⟩
/-- A pure operation upon known values. -/
theorem owe_is {u : Value} (ho : ops[i]? = some o) (hw : Wants ops l bx sl i o) (hk : kdAt l i = .val (Is u)) (h : ∀ B X a w, Ctx ops l bx sl a0 n w0 i B X a w → (execOp a.eval o).run Try.prog w = .ok (.value u) w) : Owed Try.prog ops Q l bx sl a0 n w0 i :=
  owe_val ho hw hk fun B X a w c => ⟨u, h B X a w c, fun _ _ => rfl⟩
theorem owe_bin {x y : Operand} {op : BinOp} {T T' : TypeId} {u v r : Value} (ho : ops[i]? = some o) (hw : Wants ops l bx sl i o) (hop : o.op = .binOp op T x y T') (hx : Opnd ops l bx sl i x (Is u)) (hy : Opnd ops l bx sl i y (Is v)) (hk : kdAt l i = .val (Is r))
    (hr : ∀ (ρ : Operand → Value) (w : World), ρ x = u → ρ y = v → (execOp ρ { o with op := .binOp op T x y T' }).run Try.prog w = .ok (.value r) w) : Owed Try.prog ops Q l bx sl a0 n w0 i :=
  owe_is ho hw hk fun B X a w c => by
    have := hr a.eval w (hx a0 n w0 B X a w c).now (hy a0 n w0 B X a w c).now
    rw [← this]
    unfold execOp
    rw [hop]
theorem owe_un {x : Operand} {P' : Op} {u r : Value} (ho : ops[i]? = some o) (hw : Wants ops l bx sl i o) (hop : o.op = P') (hx : Opnd ops l bx sl i x (Is u)) (hk : kdAt l i = .val (Is r))
    (hr : ∀ (ρ : Operand → Value) (w : World), ρ x = u → (execOp ρ { o with op := P' }).run Try.prog w = .ok (.value r) w) : Owed Try.prog ops Q l bx sl a0 n w0 i :=
  owe_is ho hw hk fun B X a w c => by
    have := hr a.eval w (hx a0 n w0 B X a w c).now
    rw [← this]
    unfold execOp
    rw [hop]
theorem owe_pick {c x y : Operand} {t : Bool} {φ : Pr} (ho : ops[i]? = some o) (hw : Wants ops l bx sl i o) (hop : o.op = .pick c x y) (hc : Opnd ops l bx sl i c (Is (.bool t))) (hx : t = true → Opnd ops l bx sl i x φ) (hy : t = false → Opnd ops l bx sl i y φ) (hk : kdAt l i = .val φ) : Owed Try.prog ops Q l bx sl a0 n w0 i :=
  owe_val ho hw hk fun B X a w cx => by
    have hcv : a.eval c = .bool t := (hc a0 n w0 B X a w cx).now
    cases t with
    | true => exact ⟨a.eval x, by unfold execOp; rw [hop]; simp only [hcv]; rfl, hx rfl a0 n w0 B X a w cx⟩
    | false => exact ⟨a.eval y, by unfold execOp; rw [hop]; simp only [hcv]; rfl, hy rfl a0 n w0 B X a w cx⟩
theorem owe_ext2 {φ ψ : Nat → Pr} {χ : Pr} {x : Operand} {k lo : Nat} (ho : ops[i]? = some o) (hw : Wants ops l bx sl i o) (hop : o.op = .extract x k) (h : Opnd ops l bx sl i x (TWO φ ψ lo)) (hχ : (k = 0 ∧ χ = φ lo) ∨ (k = 1 ∧ χ = ψ lo)) (hk : kdAt l i = .val χ) : Owed Try.prog ops Q l bx sl a0 n w0 i :=
  owe_val ho hw hk fun B X a w c => by
    have hx := h a0 n w0 B X a w c
    obtain ⟨y, z, e, _, _⟩ := hx.now
    rcases hχ with ⟨rfl, rfl⟩ | ⟨rfl, rfl⟩
    · refine ⟨y, ?_, fun w' e' => ?_⟩
      · unfold execOp
        rw [hop]
        generalize a.eval = ρ at e
        go_simp
      · obtain ⟨y', z', e1, h1, _⟩ := hx w' e'
        rw [e] at e1
        simp at e1
        rw [e1.1]; exact h1
    · refine ⟨z, ?_, fun w' e' => ?_⟩
      · unfold execOp
        rw [hop]
        generalize a.eval = ρ at e
        go_simp
      · obtain ⟨y', z', e1, _, h1⟩ := hx w' e'
        rw [e] at e1
        simp at e1
        rw [e1.2]; exact h1
theorem owe_ext3 {φ ψ χ : Nat → Pr} {θ : Pr} {x : Operand} {k lo : Nat} (ho : ops[i]? = some o) (hw : Wants ops l bx sl i o) (hop : o.op = .extract x k) (h : Opnd ops l bx sl i x (THREE φ ψ χ lo)) (hχ : (k = 0 ∧ θ = φ lo) ∨ (k = 1 ∧ θ = ψ lo) ∨ (k = 2 ∧ θ = χ lo)) (hk : kdAt l i = .val θ) : Owed Try.prog ops Q l bx sl a0 n w0 i :=
  owe_val ho hw hk fun B X a w c => by
    have hx := h a0 n w0 B X a w c
    obtain ⟨y, z, u, e, _, _, _⟩ := hx.now
    rcases hχ with ⟨rfl, rfl⟩ | ⟨rfl, rfl⟩ | ⟨rfl, rfl⟩
    · refine ⟨y, ?_, fun w' e' => ?_⟩
      · unfold execOp
        rw [hop]
        generalize a.eval = ρ at e
        go_simp
      · obtain ⟨y', z', u', e1, h1, _, _⟩ := hx w' e'
        rw [e] at e1
        simp at e1
        rw [e1.1]; exact h1
    · refine ⟨z, ?_, fun w' e' => ?_⟩
      · unfold execOp
        rw [hop]
        generalize a.eval = ρ at e
        go_simp
      · obtain ⟨y', z', u', e1, _, h1, _⟩ := hx w' e'
        rw [e] at e1
        simp at e1
        rw [e1.2.1]; exact h1
    · refine ⟨u, ?_, fun w' e' => ?_⟩
      · unfold execOp
        rw [hop]
        generalize a.eval = ρ at e
        go_simp
      · obtain ⟨y', z', u', e1, _, _, h1⟩ := hx w' e'
        rw [e] at e1
        simp at e1
        rw [e1.2.2]; exact h1

/-! Calls. -/
theorem owe_call {ψ : Nat → Pr} {f : FuncId} {xs : Array Operand} {ts : Array TypeId} (ho : ops[i]? = some o) (hw : Wants ops l bx sl i o) (hop : o.op = .call { callee := .value (.func f), args := xs, argTypes := ts }) (hF : Fresh ψ) (hk : kdAt l i = .val (ψ w0.heap.size))
    (hcf : ∀ args w, (callFunc f args).run Try.prog w = .ok (.enter f args) w)
    (h : ∀ B X a w, Ctx ops l bx sl a0 n w0 i B X a w → Calls Try.prog f (xs.map a.eval) w (Gives ψ w)) : Owed Try.prog ops Q l bx sl a0 n w0 i := fun B X a w c o' ho' => by
  obtain rfl : o = o' := Option.some.inj (ho.symm.trans ho')
  have hr : (execOp a.eval o).run Try.prog w = .ok (.enter f (xs.map a.eval)) w := by
    unfold execOp
    rw [hop]
    have hf : a.eval (.func f) = .func (.func f) #[] #[] := rfl
    generalize a.eval = ρ at hf
    go_simp
  simp only [wpOp, ho]
  rw [if_pos (hw a0 n w0 B X a w c)]
  refine Or.inl ?_
  unfold Oper.wp
  rw [hr, Oper.upon_enter]
  refine (h B X a w c).mono ?_
  rintro e w' ⟨v, rfl, hb, hψ⟩
  refine ⟨v, rfl, ?_⟩
  rw [hk]
  exact ⟨hb, fun w'' e'' => hF.mono _ _ _ _ c.lo (hF.ev _ _ _ _ B (fun k hk => (c.bnd k hk).2) hψ e'')⟩
theorem owe_call1 {ψ : Nat → Pr} {f : FuncId} {x : Operand} {ts : Array TypeId} {φ : Pr} (ho : ops[i]? = some o) (hw : Wants ops l bx sl i o) (hop : o.op = .call { callee := .value (.func f), args := #[x], argTypes := ts }) (hx : Opnd ops l bx sl i x φ) (hF : Fresh ψ) (hk : kdAt l i = .val (ψ w0.heap.size))
    (hcf : ∀ args w, (callFunc f args).run Try.prog w = .ok (.enter f args) w) (C : ∀ w u, φ u w → Calls Try.prog f #[u] w (Gives ψ w)) : Owed Try.prog ops Q l bx sl a0 n w0 i :=
  owe_call ho hw hop hF hk hcf fun B X a w c => by
    rw [show (#[x] : Array Operand).map a.eval = #[a.eval x] from by simp]
    exact C w _ (hx a0 n w0 B X a w c).now
theorem owe_call2 {ψ : Nat → Pr} {f : FuncId} {x y : Operand} {ts : Array TypeId} {φ φ' : Pr} (ho : ops[i]? = some o) (hw : Wants ops l bx sl i o) (hop : o.op = .call { callee := .value (.func f), args := #[x, y], argTypes := ts }) (hx : Opnd ops l bx sl i x φ) (hy : Opnd ops l bx sl i y φ') (hF : Fresh ψ) (hk : kdAt l i = .val (ψ w0.heap.size))
    (hcf : ∀ args w, (callFunc f args).run Try.prog w = .ok (.enter f args) w) (C : ∀ w u v, φ u w → φ' v w → Calls Try.prog f #[u, v] w (Gives ψ w)) : Owed Try.prog ops Q l bx sl a0 n w0 i :=
  owe_call ho hw hop hF hk hcf fun B X a w c => by
    rw [show (#[x, y] : Array Operand).map a.eval = #[a.eval x, a.eval y] from by simp]
    exact C w _ _ (hx a0 n w0 B X a w c).now (hy a0 n w0 B X a w c).now
theorem owe_call0 {ψ : Nat → Pr} {f : FuncId} {ts : Array TypeId} (ho : ops[i]? = some o) (hw : Wants ops l bx sl i o) (hop : o.op = .call { callee := .value (.func f), args := #[], argTypes := ts }) (hF : Fresh ψ) (hk : kdAt l i = .val (ψ w0.heap.size))
    (hcf : ∀ args w, (callFunc f args).run Try.prog w = .ok (.enter f args) w) (C : ∀ w, Calls Try.prog f #[] w (Gives ψ w)) : Owed Try.prog ops Q l bx sl a0 n w0 i :=
  owe_call ho hw hop hF hk hcf fun B X a w c => by
    rw [show (#[] : Array Operand).map a.eval = #[] from by simp]
    exact C w

/-- A call whose answer is made of its arguments. -/
theorem owe_callF {χ : Pr} {f : FuncId} {xs : Array Operand} {ts : Array TypeId} (ho : ops[i]? = some o) (hw : Wants ops l bx sl i o) (hop : o.op = .call { callee := .value (.func f), args := xs, argTypes := ts }) (hk : kdAt l i = .val χ)
    (hcf : ∀ args w, (callFunc f args).run Try.prog w = .ok (.enter f args) w)
    (h : ∀ B X a w, Ctx ops l bx sl a0 n w0 i B X a w → Calls Try.prog f (xs.map a.eval) w fun e w' => ∃ r, e = .returned r ∧ Below w.heap.size w w' ∧ Has B w χ r) : Owed Try.prog ops Q l bx sl a0 n w0 i := fun B X a w c o' ho' => by
  obtain rfl : o = o' := Option.some.inj (ho.symm.trans ho')
  have hr : (execOp a.eval o).run Try.prog w = .ok (.enter f (xs.map a.eval)) w := by
    unfold execOp
    rw [hop]
    have hf : a.eval (.func f) = .func (.func f) #[] #[] := rfl
    generalize a.eval = ρ at hf
    go_simp
  simp only [wpOp, ho]
  rw [if_pos (hw a0 n w0 B X a w c)]
  refine Or.inl ?_
  unfold Oper.wp
  rw [hr, Oper.upon_enter]
  refine (h B X a w c).mono ?_
  rintro e w' ⟨v, rfl, hb, hψ⟩
  refine ⟨v, rfl, ?_⟩
  rw [hk]
  exact ⟨hb, hψ.go (Ev.of_below hb) (fun _ _ x => x)⟩
/-- What such a call answers: the answer's word follows from the arguments'. -/
def Makes1 (f : FuncId) (φ χ : Pr) : Prop := ∀ w u, φ u w → Calls Try.prog f #[u] w fun e w' => ∃ r, e = .returned r ∧ Below w.heap.size w w' ∧ ∀ W, φ u W → χ r W
def Makes2 (f : FuncId) (φ ψ χ : Pr) : Prop := ∀ w u v, φ u w → ψ v w → Calls Try.prog f #[u, v] w fun e w' => ∃ r, e = .returned r ∧ Below w.heap.size w w' ∧ ∀ W, φ u W → ψ v W → χ r W
theorem owe_callF1 {f : FuncId} {x : Operand} {ts : Array TypeId} {φ χ : Pr} (ho : ops[i]? = some o) (hw : Wants ops l bx sl i o) (hop : o.op = .call { callee := .value (.func f), args := #[x], argTypes := ts }) (hx : Opnd ops l bx sl i x φ) (hk : kdAt l i = .val χ)
    (hcf : ∀ args w, (callFunc f args).run Try.prog w = .ok (.enter f args) w) (C : Makes1 f φ χ) : Owed Try.prog ops Q l bx sl a0 n w0 i :=
  owe_callF ho hw hop hk hcf fun B X a w c => by
    rw [show (#[x] : Array Operand).map a.eval = #[a.eval x] from by simp]
    have h1 := hx a0 n w0 B X a w c
    refine (C w _ h1.now).mono ?_
    rintro e w' ⟨r, rfl, hb, hχ⟩
    exact ⟨r, rfl, hb, fun W e => hχ W (h1 W e)⟩
theorem owe_callF2 {f : FuncId} {x y : Operand} {ts : Array TypeId} {φ ψ χ : Pr} (ho : ops[i]? = some o) (hw : Wants ops l bx sl i o) (hop : o.op = .call { callee := .value (.func f), args := #[x, y], argTypes := ts }) (hx : Opnd ops l bx sl i x φ) (hy : Opnd ops l bx sl i y ψ) (hk : kdAt l i = .val χ)
    (hcf : ∀ args w, (callFunc f args).run Try.prog w = .ok (.enter f args) w) (C : Makes2 f φ ψ χ) : Owed Try.prog ops Q l bx sl a0 n w0 i :=
  owe_callF ho hw hop hk hcf fun B X a w c => by
    rw [show (#[x, y] : Array Operand).map a.eval = #[a.eval x, a.eval y] from by simp]
    have h1 := hx a0 n w0 B X a w c
    have h2 := hy a0 n w0 B X a w c
    refine (C w _ _ h1.now h2.now).mono ?_
    rintro e w' ⟨r, rfl, hb, hχ⟩
    exact ⟨r, rfl, hb, fun W e => hχ W (h1 W e) (h2 W e)⟩
/-- How long a slice is. -/
theorem owe_len {x : Operand} {T E L : Nat} {φ : Pr} (ho : ops[i]? = some o) (hw : Wants ops l bx sl i o) (hop : o.op = .call { callee := .builtin .len, args := #[x], argTypes := #[T] }) (hx : Opnd ops l bx sl i x φ) (hφ : ∀ v w, φ v w → ∃ p c, v = .slice p L c) (hT : Try.prog.underlying T = some (.slice E)) (hk : kdAt l i = .val (Is (.int .i64 L))) : Owed Try.prog ops Q l bx sl a0 n w0 i :=
  owe_is ho hw hk fun B X a w c => by
    obtain ⟨p, k, e⟩ := hφ _ w (hx a0 n w0 B X a w c).now
    unfold execOp
    rw [hop]
    generalize a.eval = ρ at e
    go_simp

/-! Boxes. -/
/-- Stores into this box come behind operation i. -/
def noPut (ops : Array Oper) (l : List Kd) (i : Nat) (t : Tmp) : Bool := (List.range ops.size).all fun k => match (l.getD k .off).isPut with | some (t', _) => t' != t || k == i || (depsOf ops k).contains i | none => true
theorem noPut_spec {t : Tmp} (h : noPut ops l i t = true) : ∀ k t' T' φ', k < ops.size → kdAt l k = .put t' T' φ' → t' = t → i = k ∨ i ∈ depsOf ops k := fun k t' T' φ' hk hkk e => by
  have := List.all_eq_true.1 h k (List.mem_range.2 hk)
  rw [show (l.getD k .off).isPut = some (t', T') from by rw [show l.getD k .off = _ from hkk]; rfl] at this
  simp only [Bool.or_eq_true, bne_iff_ne, ne_eq, beq_iff_eq, List.contains_iff_mem] at this
  rcases this with (h1 | h1) | h1
  · exact absurd e h1
  · exact Or.inl h1.symm
  · exact Or.inr h1
/-- What the machine loads out of a box of type T is the value whose cells lie there. -/
def Loads (T : TypeId) (φ : Pr) : Prop := ∀ (ρ : Operand → Value) (w : World) (o : Oper) (x : Operand) (b : Nat) (u : Value), φ u w → ρ x = .pointer (some ⟨b, 0, none⟩) → w.heap[b]? = some (.cells u.cells T (0, 0)) → o.op = .load T x → (execOp ρ o).run Try.prog w = .ok (.value u) w
theorem owe_load {T : TypeId} {t k : Nat} {φ : Pr} (ho : ops[i]? = some o) (hw : Wants ops l bx sl i o) (hop : o.op = .load T (.tmp t)) (hb : bx[k]? = some (t, T, φ)) (hn : noPut ops l i t = true) (hL : Loads T φ) (hk : kdAt l i = .val φ) : Owed Try.prog ops Q l bx sl a0 n w0 i :=
  owe_val ho hw hk fun B X a w c => by
    obtain ⟨hp, _, _, hc⟩ := c.box t T φ (List.mem_of_getElem? hb)
    obtain ⟨u, hu, hφ⟩ := hc (noPut_spec hn)
    exact ⟨u, hL _ w o _ _ u hφ.now hp hu hop, hφ⟩
/-- The address of a part of the box whose address lies in slot t. -/
def Part (a0 : Act) (t off : Nat) : Pr := fun v _ => ∃ b, a0.eval (.tmp t) = .pointer (some ⟨b, 0, none⟩) ∧ v = .pointer (some ⟨b, off, none⟩)
theorem owe_part {T : TypeId} {T' t k f off : Nat} {φ : Pr} (ho : ops[i]? = some o) (hw : Wants ops l bx sl i o) (hop : o.op = .fieldAddr T (.tmp t) f) (hb : bx[k]? = some (t, T', φ)) (hk : kdAt l i = .val (Part a0 t off))
    (hr : ∀ (ρ : Operand → Value) (w : World) (b : Nat), ρ (.tmp t) = .pointer (some ⟨b, 0, none⟩) → (execOp ρ { o with op := .fieldAddr T (.tmp t) f }).run Try.prog w = .ok (.value (.pointer (some ⟨b, off, none⟩))) w) : Owed Try.prog ops Q l bx sl a0 n w0 i :=
  owe_val ho hw hk fun B X a w c => by
    obtain ⟨hp, hp0, _, _⟩ := c.box t T' φ (List.mem_of_getElem? hb)
    refine ⟨_, ?_, fun _ _ => ⟨_, hp0, rfl⟩⟩
    have := hr a.eval w _ hp
    rw [← this]
    unfold execOp
    rw [hop]
theorem owe_part2 {T : TypeId} {t f off off' : Nat} {x : Operand} (ho : ops[i]? = some o) (hw : Wants ops l bx sl i o) (hop : o.op = .fieldAddr T x f) (hx : Opnd ops l bx sl i x (Part a0 t off)) (hk : kdAt l i = .val (Part a0 t off'))
    (hr : ∀ (ρ : Operand → Value) (w : World) (b : Nat), ρ x = .pointer (some ⟨b, off, none⟩) → (execOp ρ { o with op := .fieldAddr T x f }).run Try.prog w = .ok (.value (.pointer (some ⟨b, off', none⟩))) w) : Owed Try.prog ops Q l bx sl a0 n w0 i :=
  owe_val ho hw hk fun B X a w c => by
    obtain ⟨b, hp0, hv⟩ := (hx a0 n w0 B X a w c).now
    refine ⟨_, ?_, fun _ _ => ⟨b, hp0, rfl⟩⟩
    have := hr a.eval w _ hv
    rw [← this]
    unfold execOp
    rw [hop]
/-- A part of a box is loaded. -/
theorem owe_pload {T T' : TypeId} {t k off : Nat} {x : Operand} {φ χ : Pr} (ho : ops[i]? = some o) (hw : Wants ops l bx sl i o) (hop : o.op = .load T' x) (hx : Opnd ops l bx sl i x (Part a0 t off)) (hb : bx[k]? = some (t, T, φ)) (hn : noPut ops l i t = true) (hk : kdAt l i = .val χ)
    (hr : ∀ (ρ : Operand → Value) (w : World) (b : Nat) (u : Value), φ u w → ρ x = .pointer (some ⟨b, off, none⟩) → w.heap[b]? = some (.cells u.cells T (0, 0)) → ∃ v, (execOp ρ { o with op := .load T' x }).run Try.prog w = .ok (.value v) w ∧ ∀ w', φ u w' → χ v w') : Owed Try.prog ops Q l bx sl a0 n w0 i :=
  owe_val ho hw hk fun B X a w c => by
    obtain ⟨hp, hp0, _, hc⟩ := c.box t T φ (List.mem_of_getElem? hb)
    obtain ⟨u, hu, hφ⟩ := hc (noPut_spec hn)
    obtain ⟨b, hb0, hv⟩ := (hx a0 n w0 B X a w c).now
    rw [hp0] at hb0
    simp at hb0
    subst hb0
    obtain ⟨v, h1, h2⟩ := hr a.eval w _ u hφ.now hv hu
    refine ⟨v, ?_, fun w' e' => h2 w' (hφ w' e')⟩
    rw [← h1]
    unfold execOp
    rw [hop]
/-- A new box. -/
theorem owe_new {T : TypeId} {u : Value} (ho : ops[i]? = some o) (hw : Wants ops l bx sl i o) (hop : o.op = .alloc T) (hk : kdAt l i = .new T (Is u)) (hr : ∀ (ρ : Operand → Value) (w : World), (execOp ρ { o with op := .alloc T }).run Try.prog w = .ok (.value (.pointer (some ⟨w.heap.size, 0, none⟩))) (w.alloc (.cells u.cells T (0, 0)))) : Owed Try.prog ops Q l bx sl a0 n w0 i := fun B X a w c o' ho' => by
  obtain rfl : o = o' := Option.some.inj (ho.symm.trans ho')
  have h : (execOp a.eval o).run Try.prog w = .ok (.value (.pointer (some ⟨w.heap.size, 0, none⟩))) (w.alloc (.cells u.cells T (0, 0))) := by
    rw [← hr a.eval w]
    unfold execOp
    rw [hop]
  simp only [wpOp, ho]
  rw [if_pos (hw a0 n w0 B X a w c)]
  refine Or.inl ?_
  unfold Oper.wp
  rw [h, Oper.upon_value]
  exact ⟨_, rfl, by rw [hk]; exact ⟨rfl, u, rfl, fun _ _ => rfl⟩⟩
/-- A value is put into a box of its own. -/
theorem owe_box {T : TypeId} {x : Operand} {φ : Pr} (ho : ops[i]? = some o) (hw : Wants ops l bx sl i o) (hop : o.op = .box T x) (hx : Opnd ops l bx sl i x φ) (hk : kdAt l i = .new T φ) (hr : ∀ (ρ : Operand → Value) (w : World), φ (ρ x) w → (execOp ρ { o with op := .box T x }).run Try.prog w = .ok (.value (.pointer (some ⟨w.heap.size, 0, none⟩))) (w.alloc (.cells (ρ x).cells T (0, 0)))) : Owed Try.prog ops Q l bx sl a0 n w0 i := fun B X a w c o' ho' => by
  obtain rfl : o = o' := Option.some.inj (ho.symm.trans ho')
  have hφ := hx a0 n w0 B X a w c
  have h : (execOp a.eval o).run Try.prog w = .ok (.value (.pointer (some ⟨w.heap.size, 0, none⟩))) (w.alloc (.cells (a.eval x).cells T (0, 0))) := by
    rw [← hr a.eval w hφ.now]
    unfold execOp
    rw [hop]
  simp only [wpOp, ho]
  rw [if_pos (hw a0 n w0 B X a w c)]
  refine Or.inl ?_
  unfold Oper.wp
  rw [h, Oper.upon_value]
  exact ⟨_, rfl, by rw [hk]; exact ⟨rfl, a.eval x, rfl, hφ⟩⟩
/-- What the machine stores into a box of type T. -/
def Stores (T : TypeId) (φ ψ : Pr) : Prop := ∀ (ρ : Operand → Value) (w : World) (o : Oper) (x y : Operand) (b : Nat) (u : Value), φ u w → w.heap[b]? = some (.cells u.cells T (0, 0)) → ρ x = .pointer (some ⟨b, 0, none⟩) → ψ (ρ y) w → o.op = .store T x y → (execOp ρ o).run Try.prog w = .ok .skip (w.setRow b (ρ y).cells)
theorem owe_store_at {T : TypeId} {t : Nat} {y : Operand} {φ ψ : Pr} (ho : ops[i]? = some o) (hw : Wants ops l bx sl i o) (hd : o.dst = none) (hop : o.op = .store T (.tmp t) y) (hy : Opnd ops l bx sl i y ψ) (hS : Stores T φ ψ) (hk : kdAt l i = .put t T ψ)
    (hb : ∀ B X a w, Ctx ops l bx sl a0 n w0 i B X a w → a.eval (.tmp t) = .pointer (some ⟨X t, 0, none⟩) ∧ Cont B w (X t) T φ) : Owed Try.prog ops Q l bx sl a0 n w0 i := fun B X a w c o' ho' => by
  obtain rfl : o = o' := Option.some.inj (ho.symm.trans ho')
  obtain ⟨hp, u, hu, hφ⟩ := hb B X a w c
  have hψ := hy a0 n w0 B X a w c
  have h := hS a.eval w o (.tmp t) y (X t) u hφ.now hu hp hψ.now hop
  simp only [wpOp, ho]
  rw [if_pos (hw a0 n w0 B X a w c)]
  refine Or.inl ?_
  unfold Oper.wp
  rw [h, Oper.upon_skip]
  exact ⟨undef, rfl, by rw [hk]; exact ⟨_, _, hu, rfl, hψ⟩⟩
/-- .. into a box that was there. -/
theorem owe_set {T : TypeId} {t k : Nat} {y : Operand} {φ ψ : Pr} (ho : ops[i]? = some o) (hw : Wants ops l bx sl i o) (hd : o.dst = none) (hop : o.op = .store T (.tmp t) y) (hb : bx[k]? = some (t, T, φ)) (hn : noPut ops l i t = true) (hy : Opnd ops l bx sl i y ψ) (hS : Stores T φ ψ) (hk : kdAt l i = .put t T ψ) : Owed Try.prog ops Q l bx sl a0 n w0 i :=
  owe_store_at ho hw hd hop hy hS hk fun B X a w c => by
    obtain ⟨hp, _, _, hc⟩ := c.box t T φ (List.mem_of_getElem? hb)
    exact ⟨hp, hc (noPut_spec hn)⟩
/-- .. into a box of this statement. -/
theorem owe_put {T : TypeId} {t : Nat} (j : Nat) {y : Operand} {φ ψ : Pr} (ho : ops[i]? = some o) (hw : Wants ops l bx sl i o) (hd : o.dst = none) (hop : o.op = .store T (.tmp t) y) (hj : ((depsOf ops i).contains j && (dstOf ops j == some t)) = true) (hkj : kdAt l j = .new T φ) (hn : noPut ops l i t = true) (hy : Opnd ops l bx sl i y ψ) (hS : Stores T φ ψ) (hk : kdAt l i = .put t T ψ) : Owed Try.prog ops Q l bx sl a0 n w0 i :=
  owe_store_at ho hw hd hop hy hS hk fun B X a w c => by
    simp only [Bool.and_eq_true, List.contains_iff_mem, beq_iff_eq] at hj
    obtain ⟨hp, _, hc⟩ := c.news j t T φ hj.1 hkj hj.2
    exact ⟨hp, hc (noPut_spec hn)⟩
end

/-! Into a call, and out of it. -/
theorem sta_start {w0 : World} {a : Act} {n : Nat} {sl : List (Tmp × Pr)} (hs : a.tmps.size = n) (hd : a.defers = []) (h : ∀ x ∈ sl, Has (fun _ => False) w0 x.2 (a.eval (.tmp x.1))) : Sta w0 n [] sl (fun _ => False) a w0 :=
  ⟨Below.refl _ _, (fun _ h => h.elim), hs, hd, (fun _ h => nomatch h), (fun _ h => nomatch h), h⟩
theorem Sta.bool {w0 W : World} {n : Nat} {bx : Bxs} {sl : List (Tmp × Pr)} {B : Nat → Prop} {a : Act} (S : Sta w0 n bx sl B a W) (k t : Nat) {b : Bool} (h : sl[k]? = some (t, Is (.bool b))) : a.eval (.tmp t) = .bool b := (S.slt _ (List.mem_of_getElem? h)).now
/-- What a box that is handed back holds. -/
theorem Sta.content {w0 W : World} {n : Nat} {bx : Bxs} {sl : List (Tmp × Pr)} {B : Nat → Prop} {a : Act} (S : Sta w0 n bx sl B a W) (k t : Nat) {T : TypeId} {φ : Pr} (h : bx[k]? = some (t, T, φ)) : ∃ b u, a.tmps.getD t undef = .pointer (some ⟨b, 0, none⟩) ∧ W.heap[b]? = some (.cells (Value.cells u) T (0, 0)) ∧ φ u W := by
  obtain ⟨b, hp, _, u, hu, hφ⟩ := S.box _ (List.mem_of_getElem? h)
  exact ⟨b, u, hp, hu, hφ.now⟩
theorem Sta.slot {w0 W : World} {n : Nat} {bx : Bxs} {sl : List (Tmp × Pr)} {B : Nat → Prop} {a : Act} (S : Sta w0 n bx sl B a W) (k t : Nat) {φ : Pr} (h : sl[k]? = some (t, φ)) : φ (a.tmps.getD t undef) W := (S.slt _ (List.mem_of_getElem? h)).now
end Go.Proofs.Ytejhbjcgacblfaa
