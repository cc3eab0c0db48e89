import Derived.Test.YtbgelajoomneiaaGreatSetO
import Derived.Test.YtbgelajoomneiaaGreatVcA
/-
 Structs of fields of one cell each, read and written field by field, in a box whose address is known.
-/
namespace Go.Proofs.YtbgelajoomneiaaGreat
open Go Go.RowKit Nt
set_option linter.unusedSimpArgs false
set_option linter.unusedVariables false
set_option maxRecDepth 20000

def SF (ps : List Pr) : Pr := fun v w => ∃ cs : Array Value, v = .agg cs ∧ cs.size = ps.length ∧ cs.all (·.oneCell') = true ∧ ∀ (f : Nat) (p : Pr), ps[f]? = some p → ∃ u, cs[f]? = some u ∧ p u w
theorem shp_sf {ps : List Pr} : Shp ps.length (SF ps) := fun u w ⟨cs, e, h1, h2, _⟩ => ⟨cs, e, h1, h2⟩
theorem SF.get {ps : List Pr} {cs : Array Value} {w : World} (h : SF ps (.agg cs) w) : cs.size = ps.length ∧ cs.all (·.oneCell') = true ∧ ∀ (f : Nat) (p : Pr), ps[f]? = some p → ∃ u, cs[f]? = some u ∧ p u w := by
 obtain ⟨cs', e, h⟩ := h
 simp at e
 subst e
 exact h
theorem SF.set {ps : List Pr} {cs : Array Value} {w : World} (h : SF ps (.agg cs) w) {f : Nat} {q : Pr} {v : Value} (h1 : v.oneCell' = true) (hq : q v w) : SF (ps.set f q) (.agg (cs.setIfInBounds f v)) w := by
 obtain ⟨a, b, c⟩ := h.get
 refine ⟨_, rfl, by simp [a], ?_, fun g p hp => ?_⟩
 ·rw [Array.all_eq_true] at b ⊢
  intro i hi
  rw [Array.getElem_setIfInBounds]
  split
  ·exact h1
  ·exact b i (by simpa using hi)
 ·by_cases e : f = g
  ·subst e
   have hl : f < ps.length := by
    apply Classical.byContradiction
    intro hc
    rw [List.getElem?_eq_none (by simp; omega)] at hp
    cases hp
   rw [List.getElem?_set_self hl] at hp
   cases hp
   exact ⟨v, by simp [a, hl], hq⟩
  ·rw [List.getElem?_set_ne e] at hp
   obtain ⟨u, hu, hpu⟩ := c g p hp
   exact ⟨u, by rw [Array.getElem?_setIfInBounds_ne e]; exact hu, hpu⟩

/-- A slice, a truth or a number. -/
def Flat (v : Value) : Prop := (∃ p n c, v = .slice p n c) ∨ (∃ b, v = .bool b) ∨ ∃ k z, v = .int k z
theorem Flat.one {v : Value} (h : Flat v) : v.oneCell' = true := by rcases h with ⟨_, _, _, rfl⟩ | ⟨_, rfl⟩ | ⟨_, _, rfl⟩ <;> simp [Value.oneCell']
/-- A value of one cell is loaded, is stored. -/
def Load1 (T : TypeId) : Prop := ∀ (ρ : Operand → Value) (w : World) (o : Oper) (x : Operand) (b f : Nat) (u : Value), ρ x = .pointer (some ⟨b, f, none⟩) → w.cell? ⟨b, f, none⟩ = some u → (execOp ρ { o with op := .load T x }).run Tryz.prog w = .ok (.value u) w
def Store1 (T : TypeId) : Prop := ∀ (ρ : Operand → Value) (w : World) (o : Oper) (x y : Operand) (b f : Nat) (u : Value), ρ x = .pointer (some ⟨b, f, none⟩) → w.cell? ⟨b, f, none⟩ = some u → w.frozen? ⟨b, f, none⟩ = false → Flat (ρ y) → (execOp ρ { o with op := .store T x y }).run Tryz.prog w = .ok .skip (w.setCell ⟨b, f, none⟩ (ρ y))
theorem load1_sl : Load1 30 := fun ρ w o x b f u hx hc => by
  unfold execOp
  go_simp
section
variable {ops : Array Oper} {l : List Kd} {bx : Bxs} {sl : List (Tmp × Pr)} {i : Nat} {o : Oper} {Q : Exit → Act → World → Prop} {a0 : Act} {n : Nat} {w0 : World}

theorem sf_cell {w : World} {g f : Nat} {cs : Array Value} {T : TypeId} {u : Value} (h : w.heap[g]? = some (.cells (Value.agg cs).cells T (0, 0))) (hu : cs[f]? = some u) : w.cell? ⟨g, f, none⟩ = some u := by
 have h : w.heap[g]? = some (.cells cs T (0, 0)) := h
 simp only [World.cell?, h]
 exact hu
theorem sf_frozen {w : World} {g f : Nat} {cs : Array Value} {T : TypeId} (h : w.heap[g]? = some (.cells (Value.agg cs).cells T (0, 0))) : w.frozen? ⟨g, f, none⟩ = false := by
 have h : w.heap[g]? = some (.cells cs T (0, 0)) := h
 simp [World.frozen?, h]

/-- A field of a struct whose address is known is loaded. -/
theorem owe_sload {T T' : TypeId} {t k j g f : Nat} {x : Operand} {ps : List Pr} {χ : Pr} (ho : ops[i]? = some o) (hw : Wants ops l bx sl i o) (hop : o.op = .load T' x) (hx : Opnd ops l bx sl i x (Is (.pointer (some ⟨g, f, none⟩)))) (hb : bx[k]? = some (t, .box T (SF ps))) (hs : sl[j]? = some (t, Is (.pointer (some ⟨g, 0, none⟩)))) (hn : (unturned ops l i (.inl t) && slotFree ops i t) = true) (hp : ps[f]? = some χ) (hL : Load1 T') (hk : kdAt l i = .val χ) : Owed Tryz.prog ops Q l bx sl a0 n w0 i :=
 owe_val ho hw hk fun vs B a w c => by
  simp only [Bool.and_eq_true] at hn
  obtain ⟨b, u, hp0, hB, hu, hφ⟩ := c.box t _ (List.mem_of_getElem? hb) hn.1
  have e0 : a.eval (.tmp t) = .pointer (some ⟨g, 0, none⟩) := (opnd_slot j t hs hn.2 a0 n w0 vs B a w c).now
  rw [c.slot t hn.2, hp0] at e0
  simp at e0
  subst e0
  obtain ⟨cs, rfl, h1, h2, h3⟩ := hφ.now
  obtain ⟨v, hv, _⟩ := h3 f χ hp
  refine ⟨v, ?_, fun w' e' => ?_⟩
  ·have := hL a.eval w o x b f v (hx a0 n w0 vs B a w c).now (sf_cell hu hv)
   rw [← this]
   unfold execOp
   rw [hop]
  ·obtain ⟨_, _, h4⟩ := (hφ w' e').get
   obtain ⟨v', hv', hχ⟩ := h4 f χ hp
   rw [hv] at hv'
   cases hv'
   exact hχ
theorem sf_put {lo : Nat} {B : Nat → Prop} {w : World} {T : TypeId} {ps : List Pr} {χ : Pr} {g f : Nat} {u v : Value} {x : Id} {vs : Nat → Value} (hid : ∀ b, vblock (hnd a0 vs x) = some b → idset l bx a0 vs x b) (hx : hnd a0 vs x = .pointer (some ⟨g, 0, none⟩)) (hB : B g) (hu : w.heap[g]? = some (.cells u.cells T (0, 0))) (hφ : Has B w (SF ps) u) (hv : Has B w χ v) (h1 : v.oneCell' = true) (z : Value) : Kd.out l bx lo a0 vs B w z (w.setCell ⟨g, f, none⟩ v) (.put x (.box T (SF (ps.set f χ)))) := by
 obtain ⟨cs, rfl, _⟩ := hφ.now
 have e := setCell_eq_setRow w g f cs T (0, 0) v hu
 rw [e]
 exact put_box (v := .agg (cs.setIfInBounds f v)) hid hx hB hu (fun w' e' => (hφ w' e').set h1 (hv w' e')) z
/-- .. is written: the first one of a statement. -/
theorem owe_sput {T T' : TypeId} {t k j g f : Nat} {x y : Operand} {ps : List Pr} {χ : Pr} (ho : ops[i]? = some o) (hw : Wants ops l bx sl i o) (hop : o.op = .store T' x y) (hx : Opnd ops l bx sl i x (Is (.pointer (some ⟨g, f, none⟩)))) (hb : bx[k]? = some (t, .box T (SF ps))) (hs : sl[j]? = some (t, Is (.pointer (some ⟨g, 0, none⟩)))) (hn : (unturned ops l i (.inl t) && slotFree ops i t) = true) (hy : Opnd ops l bx sl i y χ) (h1 : ∀ v w, χ v w → Flat v) (hf : f < ps.length) (hS : Store1 T') (hk : kdAt l i = .put (.inl t) (.box T (SF (ps.set f χ)))) : Owed Tryz.prog ops Q l bx sl a0 n w0 i := fun vs B a w c o' ho' => by
 obtain rfl : o = o' := Option.some.inj (ho.symm.trans ho')
 simp only [Bool.and_eq_true] at hn
 obtain ⟨b, u, hp0, hB, hu, hφ⟩ := c.box t _ (List.mem_of_getElem? hb) hn.1
 have e0 : a.eval (.tmp t) = .pointer (some ⟨g, 0, none⟩) := (opnd_slot j t hs hn.2 a0 n w0 vs B a w c).now
 rw [c.slot t hn.2, hp0] at e0
 simp at e0
 subst e0
 have hv := hy a0 n w0 vs B a w c
 obtain ⟨cs, rfl, h2, h3, h4⟩ := hφ.now
 obtain ⟨v, hcv, _⟩ := h4 f (ps[f]'hf) (by simp [hf])
 have h := hS a.eval w o x y b f v (hx a0 n w0 vs B a w c).now (sf_cell hu hcv) (sf_frozen hu) (h1 _ _ hv.now)
 have h' : (execOp a.eval o).run Tryz.prog w = .ok .skip (w.setCell ⟨b, f, none⟩ (a.eval y)) := by
  rw [← h]
  unfold execOp
  rw [hop]
 simp only [wpOp, ho]
 rw [if_pos (hw a0 n w0 vs B a w c)]
 refine Or.inl ?_
 unfold Oper.wp
 rw [h', Oper.upon_skip]
 exact ⟨undef, rfl, by rw [hk]; exact sf_put (x := .inl t) (fun b h => idset_plain (x := .inl t) (List.mem_of_getElem? hb) rfl h) hp0 hB hu hφ hv (h1 _ _ hv.now).one _⟩
end
end Go.Proofs.YtbgelajoomneiaaGreat

/-
 Structs whose fields are rows that the call owns: rows whose handles are known, statements cut in two, appends to a field.
-/
namespace Go.Proofs.YtbgelajoomneiaaGreat
open Go Go.RowKit Nt
set_option linter.unusedSimpArgs false
set_option linter.unusedVariables false
set_option maxRecDepth 20000

/-! A statement in two. -/
section
variable {P : Program} {ops : Array Oper} {l : List Kd} {bx : Bxs} {n : Nat} {sl : List (Tmp × Pr)} {B0 : Nat → Prop} {a0 : Act} {W w0 : World} {Q : Exit → Act → World → Prop}
theorem wps_stmt (l : List Kd) (s1 s2 : List (Nat ⊕ Nat)) (T0 : Sta w0 n bx sl B0 a0 W) (hl : l.length = ops.size) (hc : (shapeOk ops l (bx.map (·.1)) n && pickOk ops l bx s1) = true)
  (hop : AllOwed (Owed P ops Q l bx sl a0 n w0) ops.size)
  (fin : ∀ B a w, Sta w0 n (pickBx ops l bx s1) (pickSl ops l sl s2) B a w → Q .normal a w) : wpOps P ops Q (List.range ops.size) a0 W := by
 simp only [Bool.and_eq_true] at hc
 have S := shape_of hc.1
 have hs1 := hc.2
 have fin' : ∀ vs B w, Held ops l bx B0 a0 W w0 (fun i => decide (i < ops.size)) vs B w → Q .normal (fillL ops.toList 0 (fun i => decide (i < ops.size)) vs a0) w := fun vs B w H => fin _ _ _ (H.done S hl T0 s1 s2 hs1)
 have H := Held.start (ops := ops) (l := l) S T0 (Below.refl _ W) rfl
 have h0 : (fun i => decide (i < 0)) = fun _ : Nat => false := by funext i; simp
 have := wpOps_held S T0 hop fin' ops.size 0 (fun _ => undef) B0 W (by simp) (by rw [h0]; exact H)
 rw [h0, fill_none] at this
 rw [List.range_eq_range']
 exact this
def wpL (P : Program) (Q : Exit → Act → World → Prop) : List Oper → Act → World → Prop
 | [], a, w => Q .normal a w
 | o :: r, a, w => o.wp P a w (wpL P Q r) Q ∨ (o.asks P a w ∧ LetsOut Q)
theorem wpList_eq : ∀ (l : List Oper), l.all (fun o => o.guard.isNone) = true → wpList P ops Q l = wpL P Q l
 | [], _ => rfl
 | o :: r, h => by
  simp only [List.all_cons, Bool.and_eq_true] at h
  funext a w
  have hg : o.guard = none := by simpa using h.1
  have hw : Region.wanted o (yielded ops a.tmps) = true := by simp [Region.wanted, hg]
  simp only [wpList, wpL, hw, if_true, wpList_eq r h.2]
theorem wpOps_eqL (A : Array Oper) (h : A.toList.all (fun o => o.guard.isNone) = true) : wpOps P A Q (List.range A.size) = wpL P Q A.toList := by
 rw [List.range_eq_range', ← Array.length_toList, wpOps_eq_wpList A.toList 0 (by simp), wpList_eq _ h]
theorem oper_cut {o : Oper} {a : Act} {w : World} {K K' L : Act → World → Prop} (h : ∀ a w, K a w → K' a w) (hh : o.wp P a w K (Exit.then L Q)) : o.wp P a w K' Q := by
  unfold Oper.wp at *
  generalize (execOp a.eval o).run P w = r at *
  cases r with
  | ok n w' =>
    cases n <;> simp only [Oper.upon] at hh ⊢ <;>
      first
        | exact h _ _ hh
        | exact Calls.mono hh (fun e w'' he => by cases e <;> first | exact h _ _ he | exact he)
        | exact Rows.mono hh (fun _ _ he => h _ _ he)
  | halt x w' => cases x <;> simp only [Oper.upon] at hh ⊢ <;> exact hh
theorem wpL_app (l2 : List Oper) : ∀ (l1 : List Oper) (a : Act) (w : World), wpL P (Exit.then (wpL P Q l2) Q) l1 a w → wpL P Q (l1 ++ l2) a w
 | [], a, w, h => h
 | o :: r, a, w, h => by
  rcases h with h | ⟨h1, h2⟩
  ·exact Or.inl (oper_cut (wpL_app l2 r) h)
  ·exact Or.inr ⟨h1, h2⟩
/-- What comes behind, its numbers told anew. -/
def sans (k : Nat) (o : Oper) : Oper := { o with after := (o.after.filter fun e => decide (k ≤ e.on)).map fun e => { e with on := e.on - k } }
theorem wpL_sans (k : Nat) : ∀ (l : List Oper), wpL P Q (l.map (sans k)) = wpL P Q l
 | [] => rfl
 | o :: r => by
  funext a w
  simp only [List.map_cons, wpL, wpL_sans k r]
  rfl
def cutL (ops : Array Oper) (k : Nat) : Array Oper := (ops.toList.take k).toArray
def cutR (ops : Array Oper) (k : Nat) : Array Oper := ((ops.toList.drop k).map (sans k)).toArray
theorem wp_cut {id : Nat} (k : Nat) {a : Act} {w : World} (hg : ops.toList.all (fun o => o.guard.isNone) = true)
  (h : wpOps P (cutL ops k) (Exit.then (fun a w => wpOps P (cutR ops k) Q (List.range (cutR ops k).size) a w) Q) (List.range (cutL ops k).size) a w) : (Code.region id ops false).wp P Q a w := by
 have hg' := List.all_eq_true.1 hg
 have e2 : (fun a w => wpOps P (cutR ops k) Q (List.range (cutR ops k).size) a w) = wpL P Q (ops.toList.drop k) := by
  funext a w
  rw [wpOps_eqL (cutR ops k) (List.all_eq_true.2 (fun o ho => by
   simp only [cutR, List.mem_map] at ho
   obtain ⟨o', ho', rfl⟩ := ho
   exact hg' o' (List.mem_of_mem_drop ho')))]
  simp only [cutR, wpL_sans]
 rw [e2, wpOps_eqL (cutL ops k) (List.all_eq_true.2 (fun o ho => hg' o (List.mem_of_mem_take (by simpa [cutL] using ho))))] at h
 refine wp_region_list ?_
 rw [wpList_eq _ hg, ← List.take_append_drop k ops.toList]
 exact wpL_app _ _ _ _ (by simpa [cutL] using h)
end

/-! Rows whose handles are known. -/
/-- A row of the call's own: its handle and its cells. -/
def RV (lo : Nat) (hv : Value) (e size n : Nat) (xs : List Value) (χ : List Value → World → Prop) : Rk :=
 .own (fun b => vblock hv = some b) e (fun C w => (∀ w1 : World, (∀ b, vblock hv = some b → w1.heap[b]? = some (.cells (C b).toArray e (0, 0))) → w1.ownsRow lo e size hv n xs) ∧ χ xs w)
theorem rv_of {lo e size n : Nat} {hv v : Value} {xs : List Value} {χ : List Value → World → Prop} {B : Nat → Prop} {w : World} (h : w.ownsRow lo e size hv n xs) (hB : ∀ b, vblock hv = some b → B b) (hχ : ∀ w', Ev B w w' → χ xs w') : (RV lo hv e size n xs χ).at lo B w v := by
 obtain ⟨h0, h1⟩ := h
 rcases h1 with ⟨rfl, hn⟩ | ⟨g, cap, cur, rfl, h2, h3, h4⟩
 ·exact ⟨fun _ => [], fun b hb => (by cases hb), fun w' ev => ⟨fun w1 _ => ⟨h0, Or.inl ⟨rfl, hn⟩⟩, hχ w' ev⟩⟩
 ·refine ⟨fun _ => cur.toList, fun b hb => ⟨hB b hb, ?_⟩, fun w' ev => ⟨fun w1 hc => ⟨h0, Or.inr ⟨g, cap, cur, rfl, h2, ?_, h4⟩⟩, hχ w' ev⟩⟩
  ·obtain rfl : g = b := by simpa [vblock] using hb
   simpa using h3
  ·simpa using hc g rfl
theorem rv_own {lo e size n : Nat} {hv v : Value} {xs : List Value} {χ : List Value → World → Prop} {B : Nat → Prop} {w : World} (h : (RV lo hv e size n xs χ).at lo B w v) : w.ownsRow lo e size hv n xs ∧ (∀ b, vblock hv = some b → B b) ∧ ∀ w', Ev B w w' → χ xs w' := by
 obtain ⟨C, h1, h2⟩ := h
 exact ⟨(h2 w (Ev.refl _ _)).1 w (fun b hb => (h1 b hb).2), fun b hb => (h1 b hb).1, fun w' ev => (h2 w' ev).2⟩
theorem owns_ev {lo e size n : Nat} {v : Value} {xs : List Value} {w w' : World} {B : Nat → Prop} (h : w.ownsRow lo e size v n xs) (ev : Ev B w w') (hB : ∀ b, vblock v = some b → ¬ B b) : w'.ownsRow lo e size v n xs := by
 refine ⟨h.1, ?_⟩
 rcases h.2 with h1 | ⟨g, cap, cur, rfl, a1, a2, a3⟩
 ·exact Or.inl h1
 ·exact Or.inr ⟨g, cap, cur, rfl, a1, (ev.block g (Array.getElem?_eq_some_iff.1 a2).1 (hB g rfl)).trans a2, a3⟩
/-- What a row that is owned is to a call that only reads. -/
theorem rv_hs {lo e size n : Nat} {hv v : Value} {xs : List Value} {χ : List Value → World → Prop} {B : Nat → Prop} {w : World} {θ : Pr} (h : (RV lo hv e size n xs χ).at lo B w v) (c : ∀ v w ys, w.ownsRow lo e size v n ys → χ ys w → θ v w) : Hs w θ hv := fun w' ev => by
 obtain ⟨h1, h2, h3⟩ := rv_own h
 exact c hv w' xs (owns_ev h1 ev (fun _ _ h => h)) (h3 w' (ev.mono (fun _ h => h.elim)))
theorem row_hs {lo e size n : Nat} {v : Value} {χ : List Value → World → Prop} {B : Nat → Prop} {w : World} {θ : Pr} (h : (Rk.row e size n χ).at lo B w v) (c : ∀ v w ys, w.ownsRow lo e size v n ys → χ ys w → θ v w) : Hs w θ v := fun w' ev => by
 obtain ⟨xs, h1, h2, h3⟩ := h
 exact c v w' xs (owns_ev h1 ev (fun _ _ h => h)) (h3 w' (ev.mono (fun _ h => h.elim)))
/-- The handle of a row gets a name. -/
theorem Sta.tell {w0 W : World} {n : Nat} {bx bx' : Bxs} {sl : List (Tmp × Pr)} {B : Nat → Prop} {a : Act} (S : Sta w0 n bx sl B a W) (k G : Nat) {t e size n' : Nat} {χ : List Value → World → Prop} (h : bx[k]? = some (t, .row e size n' χ)) (hs : ∀ x ∈ bx', x ∈ bx ∧ x.1 ≠ t) (hG : ∀ x ∈ bx', x.1 ≠ G) :
  ∃ p c xs, Sta w0 n ((G, RV w0.heap.size (.slice p n' c) e size n' xs χ) :: bx') ((t, Is (.slice p n' c)) :: sl) B a W := by
 have hm := List.mem_of_getElem? h
 obtain ⟨xs, hown, hB, hχ⟩ := S.box _ hm
 have hv : ∃ p c, a.eval (.tmp t) = .slice p n' c := by
  rcases hown.2 with ⟨e1, e2⟩ | ⟨g, cap, cur, e1, _⟩
  ·exact ⟨none, 0, by rw [e2]; exact e1⟩
  ·exact ⟨_, _, e1⟩
 obtain ⟨p, c, ev⟩ := hv
 rw [ev] at hown hB
 have hset : ∀ b, (RV w0.heap.size (.slice p n' c) e size n' xs χ).set (a.eval (.tmp G)) b → (Rk.row e size n' χ).set (a.eval (.tmp t)) b := fun b hb => by show vblock (a.eval (.tmp t)) = some b; rw [ev]; exact hb
 refine ⟨p, c, xs, S.ent, S.bnd, S.siz, S.dfr, fun x hx => ?_, fun x hx y hy b hbx hby => ?_, fun x hx => ?_⟩
 ·rcases List.mem_cons.1 hx with rfl | hx
  ·exact rv_of hown hB hχ
  ·exact S.box x (hs x hx).1
 ·rcases List.mem_cons.1 hx with rfl | hx <;> rcases List.mem_cons.1 hy with rfl | hy
  ·rfl
  ·exact absurd (S.sep _ hm y (hs y hy).1 b (hset b hbx) hby).symm (hs y hy).2
  ·exact absurd (S.sep x (hs x hx).1 _ hm b hbx (hset b hby)) (hs x hx).2
  ·exact S.sep x (hs x hx).1 y (hs y hy).1 b hbx hby
 ·rcases List.mem_cons.1 hx with rfl | hx
  ·exact fun w' _ => ev
  ·exact S.slt x hx
/-- A row that is nil. -/
theorem Sta.tellNil {w0 W : World} {n : Nat} {bx : Bxs} {sl : List (Tmp × Pr)} {B : Nat → Prop} {a : Act} (S : Sta w0 n bx sl B a W) (G e size : Nat) {χ : List Value → World → Prop} (hχ : ∀ w, χ [] w) : Sta w0 n ((G, RV w0.heap.size (.slice none 0 0) e size 0 [] χ) :: bx) sl B a W := by
 refine ⟨S.ent, S.bnd, S.siz, S.dfr, fun x hx => ?_, fun x hx y hy b hbx hby => ?_, S.slt⟩
 ·rcases List.mem_cons.1 hx with rfl | hx
  ·exact rv_of (World.ownsRow_nil _ _ _ _) (fun b hb => by cases hb) (fun w' _ => hχ w')
  ·exact S.box x hx
 ·rcases List.mem_cons.1 hx with rfl | hx <;> rcases List.mem_cons.1 hy with rfl | hy
  ·rfl
  ·cases hbx
  ·cases hby
  ·exact S.sep x hx y hy b hbx hby
/-- The address of a box gets a name. -/
theorem Sta.tellBox {w0 W : World} {n : Nat} {bx : Bxs} {sl : List (Tmp × Pr)} {B : Nat → Prop} {a : Act} (S : Sta w0 n bx sl B a W) (k : Nat) {t T : Nat} {φ : Pr} (h : bx[k]? = some (t, .box T φ)) : ∃ g, Sta w0 n bx ((t, Is (.pointer (some ⟨g, 0, none⟩))) :: sl) B a W := by
 obtain ⟨b, u, h1, _⟩ := S.box _ (List.mem_of_getElem? h)
 refine ⟨b, S.ent, S.bnd, S.siz, S.dfr, S.box, S.sep, fun x hx => ?_⟩
 rcases List.mem_cons.1 hx with rfl | hx
 ·exact fun w' _ => h1
 ·exact S.slt x hx

section
variable {ops : Array Oper} {l : List Kd} {bx : Bxs} {sl : List (Tmp × Pr)} {i : Nat} {o : Oper} {Q : Exit → Act → World → Prop} {a0 : Act} {n0 : Nat} {w0 : World}
/-- A row whose handle is known is grown. -/
theorem owe_appendV {x y : Operand} {T t k e size bytes n m : Nat} {hv : Value} {xs : List Value} {χ χ2 χ3 : List Value → World → Prop} (ho : ops[i]? = some o) (hw : Wants ops l bx sl i o) (hop : o.op = .call { callee := .builtin .append, args := #[x, y], argTypes := #[T, T] })
  (hx : Opnd ops l bx sl i x (Is hv)) (hb : bx[k]? = some (t, RV w0.heap.size hv e size n xs χ)) (hn : unturned ops l i (.inl t) = true) (hy : Opnd ops l bx sl i y (Src e size m χ2)) (hE : EInf e size bytes) (hT : Tryz.prog.underlying T = some (.slice e)) (hm : 0 < m * size)
  (hl : n + m ≤ maxLen ∧ (n + m) * bytes ≤ 140737488355328) (hk : kdAt l i = .mov t (.row e size (n + m) χ3)) (h3 : ∀ xs ys w, χ xs w → χ2 ys w → χ3 (xs ++ ys) w) : Owed Tryz.prog ops Q l bx sl a0 n0 w0 i := fun vs B a w c o' ho' => by
 obtain rfl : o = o' := Option.some.inj (ho.symm.trans ho')
 have hxv : a.eval x = hv := (hx a0 n0 w0 vs B a w c).now
 have hmem := List.mem_of_getElem? hb
 obtain ⟨hown, hB, hχ⟩ := rv_own (c.box t _ hmem hn)
 obtain ⟨g, c', ys, e1, e2, e3, e4, hχ2⟩ := src_fix hm (hy a0 n0 w0 vs B a w c)
 have hnews : ∀ j u, ys[j]? = some u → w.cell? ((⟨g, 0, none⟩ : Addr).add j) = some u := fun j u hu => by
  rw [addr_add]
  simp only [World.cell?, e3, Nat.zero_add]
  simpa using hu
 have hlo : w0.heap.size ≤ w.heap.size := c.lo
 obtain ⟨⟨i0, z, hi, hz, hsz, hby, hzs⟩, hpos⟩ := id hE
 obtain ⟨v', w', hr, o1, o2, _⟩ := run_append_own (P := Tryz.prog) w w0.heap.size T o.type e i0 z size bytes hT hi hz hsz hby hzs hpos _ n xs hown ⟨g, 0, none⟩ m c' ys e2.1 hnews e4 hl.1 hl.2 hlo
 have hwh := append_where hE hT hown e2.1 hnews e4 hl.1 hl.2 hr o1
 have hvb : vblock hv = hv.ownBlock := vblock_own _ (fun ad ea => by
  rcases hown.2 with ⟨e', _⟩ | ⟨g', cap, cur, e', _⟩ <;> rw [e'] at ea <;> cases ea)
 have hc := chg_grown o2 hvb
 simp only [wpOp, ho]
 rw [if_pos (hw a0 n0 w0 vs B a w c)]
 refine Or.inl ?_
 unfold Oper.wp
 have h : (execOp a.eval o).run Tryz.prog w = .ok (.value v') w' := by
  unfold execOp
  rw [hop]
  simp only [resolve, invoke, builtin, Sem.run_bind, Sem.run_pure, Result.andThen_ok, List.map_toArray, List.map_cons, List.map_nil, hxv, e1, hr]
 rw [h, Oper.upon_value]
 refine ⟨v', rfl, ?_⟩
 rw [hk]
 have ev : Ev B w w' := ⟨hc.os, hc.tape, hc.output, hc.size, fun k hk' hn' => hc.block k hk' (fun hs => hn' (hB k hs))⟩
 have hid : ∀ b, vblock hv = some b → idset l bx a0 vs (.inl t) b := fun b hb' => ⟨_, hmem, hb'⟩
 have hsub : ∀ k, k < w.heap.size → (B k ∨ vblock v' = some k) → B k := fun k hk' h' => by
  rcases h' with h' | h'
  ·exact h'
  ·rcases hwh k h' with h' | h'
   ·exact hB k h'
   ·omega
 refine ⟨⟨hc.os, hc.tape, hc.output, hc.size, fun k hk' hn' => hc.block k hk' (fun hs => hn' (hid k hs))⟩, fun b hb' => (hwh b hb').imp (hid b) id, xs ++ ys, o1, fun b hb' => Or.inr hb', fun w'' ev'' => h3 _ _ _ (hχ w'' (ev.back hsub ev'')) (hχ2 w'' (ev.back hsub ev''))⟩
/-- A row without elements, with room. -/
theorem owe_make0 {x : Operand} {T E sz bytes n : Nat} {z : Value} {χ : List Value → World → Prop} (ho : ops[i]? = some o) (hw : Wants ops l bx sl i o) (hop : o.op = .makeSlice T (.const (.int .i64 0)) x) (hT : Tryz.prog.underlying T = some (.slice E)) (hE : (Tryz.prog.info? E).map (fun i => (i.zero, i.size, i.bytes)) = some (some z, sz, bytes)) (hx : Opnd ops l bx sl i x (iV (n : Nat))) (hn : bytes * n ≤ 281474976710656 ∧ n ≤ maxLen) (hχ : ∀ w, χ [] w) (hk : kdAt l i = .new (.row E sz 0 χ)) : Owed Tryz.prog ops Q l bx sl a0 n0 w0 i := fun vs B a w c o' ho' => by
 obtain rfl : o = o' := Option.some.inj (ho.symm.trans ho')
 have hxv : a.eval x = .int .i64 (n : Nat) := (hx a0 n0 w0 vs B a w c).now
 obtain ⟨i0, hi, hz0, hz1, hz2⟩ := info_parts hE
 have hm : (n : Int) ≤ 9223372036854775807 := by have := hn.2; unfold maxLen at this; omega
 have hby : ((bytes * n : Nat) : Int) ≤ 281474976710656 := by have := hn.1; omega
 have hr := run_make (P := Tryz.prog) w T E i0 z hT hi hz0 .i64 .i64 0 n (by omega) (by omega) (by rw [hz2, ← Int.natCast_mul]; exact hby) hm
 have hb : Below w.heap.size w (w.alloc (.cells (madeCells z.cells (n * sz)) E)) := (Below.refl _ _).alloc (Nat.le_refl _) _
 have h : (execOp a.eval o).run Tryz.prog w = .ok (.value (.slice (some ⟨w.heap.size, 0, none⟩) 0 n)) (w.alloc (.cells (madeCells z.cells (n * sz)) E)) := by
  unfold execOp
  rw [hop]
  have hc0 : a.eval (.const (.int .i64 0)) = .int .i64 0 := rfl
  simp only [hxv, hc0, Sem.run_bind, hr, Result.andThen_ok, Sem.run_pure, Int.toNat_natCast, Int.toNat_zero, hz1]
 simp only [wpOp, ho]
 rw [if_pos (hw a0 n0 w0 vs B a w c)]
 refine Or.inl ?_
 unfold Oper.wp
 rw [h, Oper.upon_value]
 refine ⟨_, rfl, ?_⟩
 rw [hk]
 refine ⟨hb, fun b hv => ?_, [], ⟨by simp, Or.inr ⟨w.heap.size, n, _, rfl, c.lo, heap_alloc_last _ _, Nat.zero_le _, hn.2, size_madeCells _ _, by simp⟩⟩, fun b hv => Or.inr hv, fun w' _ => hχ w'⟩
 simp [Rk.set, vblock] at hv
 subst hv
 exact ⟨Nat.le_refl _, by simp⟩
end
theorem flat_isl {p : Option Addr} {n c : Nat} : ∀ v w, Is (.slice p n c) v w → Flat v := fun v w h => Or.inl ⟨p, n, c, h⟩
theorem load1_vec : Load1 23 := fun ρ w o x b f u hx hc => by
  unfold execOp
  go_simp
theorem load1_mat : Load1 22 := fun ρ w o x b f u hx hc => by
  unfold execOp
  go_simp
theorem store1_vec : Store1 23 := fun ρ w o x y b f u hx hc hf h1 => by
  unfold execOp
  rcases h1 with ⟨_, _, _, hv⟩ | ⟨_, hv⟩ | ⟨_, _, hv⟩ <;> rw [hv] <;> go_simp
theorem store1_mat : Store1 22 := fun ρ w o x y b f u hx hc hf h1 => by
  unfold execOp
  rcases h1 with ⟨_, _, _, hv⟩ | ⟨_, hv⟩ | ⟨_, _, hv⟩ <;> rw [hv] <;> go_simp
end Go.Proofs.YtbgelajoomneiaaGreat

/-
 Lists that a statement writes out: of one, two or three numbers, of two rows; a list of one as a row of the call's own.
-/
namespace Go.Proofs.YtbgelajoomneiaaGreat
open Go Go.RowKit Nt
set_option linter.unusedSimpArgs false
set_option linter.unusedVariables false
set_option maxRecDepth 20000

theorem lit_own {w : World} {lo g E sz n : Nat} {us : List Value} (h : w.heap[g]? = some (.cells (cellsOf us).toArray E (0, 0))) (hl : lo ≤ g) (hn : us.length = n) (hm : n ≤ maxLen) (hc : ∀ u ∈ us, Celv sz u) : w.ownsRow lo E sz (.slice (some ⟨g, 0, none⟩) n n) n (cellsOf us) := by
 have e : (cellsOf us).length = n * sz := by rw [cellsOf_len hc, hn]
 exact ⟨e, Or.inr ⟨g, n, _, rfl, hl, h, Nat.le_refl _, hm, by simpa using e, by rw [← e]; simp⟩⟩
theorem int_two {u : Value} (h : Celv 2 u) : ∃ a b, u = .agg #[a, b] ∧ a.oneCell' = true ∧ b.oneCell' = true := by
 have e := h.of
 rw [ofCells, if_neg (by decide)] at e
 obtain ⟨l, hl⟩ : ∃ l, u.cells = ⟨l⟩ := ⟨u.cells.toList, by simp⟩
 have hs := h.siz
 have ho := h.one
 rw [hl] at e hs ho
 match l, hs with
 | [y, z], _ => simp at ho; exact ⟨y, z, e, ho.1, ho.2⟩
/-- What such a statement does. -/
def Bld2 (T E : Nat) (p : Value → Prop) : Prop := ∀ (ρ : Operand → Value) (o : Oper) (x y : Operand) (w : World), p (ρ x) → p (ρ y) → (execOp ρ { o with op := .buildSlice T 2 #[(0, x), (1, y)] }).run Tryz.prog w = .ok (.value (.slice (some ⟨w.heap.size, 0, none⟩) 2 2)) (w.alloc (.cells (cellsOf [ρ x, ρ y]).toArray E))
def Bld0 (T E : Nat) : Prop := ∀ (ρ : Operand → Value) (o : Oper) (w : World), (execOp ρ { o with op := .buildSlice T 0 #[] }).run Tryz.prog w = .ok (.value (.slice (some ⟨w.heap.size, 0, none⟩) 0 0)) (w.alloc (.cells #[] E))
theorem bld0_int : Bld0 23 32 := fun ρ o w => by
  unfold execOp
  go_simp
theorem bld2_int : Bld2 23 32 (Celv 2) := fun ρ o x y w hx hy => by
  obtain ⟨a, b, e1, h1, h2⟩ := int_two hx
  obtain ⟨a', b', e2, h3, h4⟩ := int_two hy
  rw [e1, e2]
  simp only [cellsOf, List.flatMap_cons, List.flatMap_nil, Value.cells, List.cons_append, List.nil_append, List.append_nil]
  unfold execOp
  go_simp
section
variable {ops : Array Oper} {l : List Kd} {bx : Bxs} {sl : List (Tmp × Pr)} {i : Nat} {o : Oper} {Q : Exit → Act → World → Prop} {a0 : Act} {n0 : Nat} {w0 : World}
/-- A list of one as a row of the call's own. -/
theorem owe_newb1 {x : Operand} {T E sz : Nat} {φ : Pr} (ho : ops[i]? = some o) (hw : Wants ops l bx sl i o) (hop : o.op = .buildSlice T 1 #[(0, x)]) (hB : Bld T E sz) (hx : Opnd ops l bx sl i x φ) (hc : Cel sz φ) (hk : kdAt l i = .new (.row E sz 1 (CE sz [φ]))) : Owed Tryz.prog ops Q l bx sl a0 n0 w0 i := fun vs B a w c o' ho' => by
 obtain rfl : o = o' := Option.some.inj (ho.symm.trans ho')
 have hX := hx a0 n0 w0 vs B a w c
 have hcv := hc _ _ hX.now
 have hb : Below w.heap.size w (w.alloc (.cells (a.eval x).cells E)) := (Below.refl _ _).alloc (Nat.le_refl _) _
 have h : (execOp a.eval o).run Tryz.prog w = .ok (.value (.slice (some ⟨w.heap.size, 0, none⟩) 1 1)) (w.alloc (.cells (a.eval x).cells E)) := by
  rw [← hB a.eval o x w _ hcv rfl]
  unfold execOp
  rw [hop]
 simp only [wpOp, ho]
 rw [if_pos (hw a0 n0 w0 vs B a w c)]
 refine Or.inl ?_
 unfold Oper.wp
 rw [h, Oper.upon_value]
 refine ⟨_, rfl, ?_⟩
 rw [hk]
 have ecs : cellsOf [a.eval x] = (a.eval x).cells.toList := by simp [cellsOf]
 have hev : ∀ w'', Ev (fun k => B k ∨ (Rk.row E sz 1 (CE sz [φ])).set (.slice (some ⟨w.heap.size, 0, none⟩) 1 1) k) (w.alloc (.cells (a.eval x).cells E)) w'' → Ev B w w'' := fun w'' e'' => ⟨e''.os.trans hb.os, e''.tape.trans hb.tape, e''.output.trans hb.output, Nat.le_trans hb.size e''.size, fun k hk hn => (e''.block k (Nat.lt_of_lt_of_le hk hb.size) (fun h' => by
  rcases h' with h' | h'
  ·exact hn h'
  ·simp [Rk.set, vblock] at h'; omega)).trans (hb.block k hk)⟩
 refine ⟨hb, fun b hv => ?_, cellsOf [a.eval x], lit_own (by rw [ecs]; simpa using heap_alloc_last w _) c.lo rfl (by unfold maxLen; omega) (by intro u hu; simp at hu; subst hu; exact hcv), fun b hv => Or.inr hv, fun w'' e'' => ⟨_, rfl, rfl, by intro u hu; simp at hu; subst hu; exact hcv, fun j u φ' hu hφ => ?_⟩⟩
 ·simp [Rk.set, vblock] at hv
  subst hv
  exact ⟨Nat.le_refl _, by simp⟩
 ·match j, hu, hφ with
  | 0, hu, hφ => simp at hu hφ; subst hu; subst hφ; exact hX w'' (hev w'' e'')
  | j + 1, hu, _ => simp at hu
/-- A list of none as a row of the call's own. -/
theorem owe_newb0 {T E sz : Nat} {χ : List Value → World → Prop} (ho : ops[i]? = some o) (hw : Wants ops l bx sl i o) (hop : o.op = .buildSlice T 0 #[]) (hB : Bld0 T E) (hχ : ∀ w, χ [] w) (hk : kdAt l i = .new (.row E sz 0 χ)) : Owed Tryz.prog ops Q l bx sl a0 n0 w0 i := fun vs B a w c o' ho' => by
 obtain rfl : o = o' := Option.some.inj (ho.symm.trans ho')
 have hb : Below w.heap.size w (w.alloc (.cells #[] E)) := (Below.refl _ _).alloc (Nat.le_refl _) _
 have h : (execOp a.eval o).run Tryz.prog w = .ok (.value (.slice (some ⟨w.heap.size, 0, none⟩) 0 0)) (w.alloc (.cells #[] E)) := by
  rw [← hB a.eval o w]
  unfold execOp
  rw [hop]
 simp only [wpOp, ho]
 rw [if_pos (hw a0 n0 w0 vs B a w c)]
 refine Or.inl ?_
 unfold Oper.wp
 rw [h, Oper.upon_value]
 refine ⟨_, rfl, ?_⟩
 rw [hk]
 refine ⟨hb, fun b hv => ?_, [], ⟨by simp, Or.inr ⟨w.heap.size, 0, #[], rfl, c.lo, heap_alloc_last _ _, Nat.zero_le _, Nat.zero_le _, by simp, by simp⟩⟩, fun b hv => Or.inr hv, fun w' _ => hχ w'⟩
 simp [Rk.set, vblock] at hv
 subst hv
 exact ⟨Nat.le_refl _, by simp⟩
end
theorem zn_lit {z : Int} {lo : Nat} : ∀ v w, ZN z lo v w → Celv 2 v ∧ Celv 2 v := fun v w h => ⟨cel_shp (by decide) shp_zn v w h, cel_shp (by decide) shp_zn v w h⟩
end Go.Proofs.YtbgelajoomneiaaGreat
