/-
  Structs of fields of one cell each, read and written field by field, in a box whose address is known.
-/
import Derived.Test.YtgalppimdmjdcaaGreatZPred
namespace Go.Proofs.YtgalppimdmjdcaaGreat
open Go Go.RowKit Nt
set_option linter.unusedSimpArgs false
set_option linter.unusedVariables false
set_option maxRecDepth 20000

def SF (ps : List Pr) : Pr := fun v w => ∃ cs : Array Value, v = .agg cs ∧ cs.size = ps.length ∧ cs.all (·.oneCell') = true ∧ ∀ (f : Nat) (p : Pr), ps[f]? = some p → ∃ u, cs[f]? = some u ∧ p u w
theorem shp_sf {ps : List Pr} : Shp ps.length (SF ps) := fun u w ⟨cs, e, h1, h2, _⟩ => ⟨cs, e, h1, h2⟩
theorem SF.get {ps : List Pr} {cs : Array Value} {w : World} (h : SF ps (.agg cs) w) : cs.size = ps.length ∧ cs.all (·.oneCell') = true ∧ ∀ (f : Nat) (p : Pr), ps[f]? = some p → ∃ u, cs[f]? = some u ∧ p u w := by
  obtain ⟨cs', e, h⟩ := h
  simp at e
  subst e
  exact h
theorem SF.set {ps : List Pr} {cs : Array Value} {w : World} (h : SF ps (.agg cs) w) {f : Nat} {q : Pr} {v : Value} (h1 : v.oneCell' = true) (hq : q v w) : SF (ps.set f q) (.agg (cs.setIfInBounds f v)) w := by
  obtain ⟨a, b, c⟩ := h.get
  refine ⟨_, rfl, by simp [a], ?_, fun g p hp => ?_⟩
  · rw [Array.all_eq_true] at b ⊢
    intro i hi
    rw [Array.getElem_setIfInBounds]
    split
    · exact h1
    · exact b i (by simpa using hi)
  · by_cases e : f = g
    · subst e
      have hl : f < ps.length := by
        apply Classical.byContradiction
        intro hc
        rw [List.getElem?_eq_none (by simp; omega)] at hp
        cases hp
      rw [List.getElem?_set_self hl] at hp
      cases hp
      exact ⟨v, by simp [a, hl], hq⟩
    · rw [List.getElem?_set_ne e] at hp
      obtain ⟨u, hu, hpu⟩ := c g p hp
      exact ⟨u, by rw [Array.getElem?_setIfInBounds_ne e]; exact hu, hpu⟩

/-- A slice, a truth or a number. -/
def Flat (v : Value) : Prop := (∃ p n c, v = .slice p n c) ∨ (∃ b, v = .bool b) ∨ ∃ k z, v = .int k z
theorem Flat.one {v : Value} (h : Flat v) : v.oneCell' = true := by rcases h with ⟨_, _, _, rfl⟩ | ⟨_, rfl⟩ | ⟨_, _, rfl⟩ <;> simp [Value.oneCell']
/-- A value of one cell is loaded, is stored. -/
def Load1 (T : TypeId) : Prop := ∀ (ρ : Operand → Value) (w : World) (o : Oper) (x : Operand) (b f : Nat) (u : Value), ρ x = .pointer (some ⟨b, f, none⟩) → w.cell? ⟨b, f, none⟩ = some u → (execOp ρ { o with op := .load T x }).run Tryz.prog w = .ok (.value u) w
def Store1 (T : TypeId) : Prop := ∀ (ρ : Operand → Value) (w : World) (o : Oper) (x y : Operand) (b f : Nat) (u : Value), ρ x = .pointer (some ⟨b, f, none⟩) → w.cell? ⟨b, f, none⟩ = some u → w.frozen? ⟨b, f, none⟩ = false → Flat (ρ y) → (execOp ρ { o with op := .store T x y }).run Tryz.prog w = .ok .skip (w.setCell ⟨b, f, none⟩ (ρ y))
theorem load1_sl : Load1 25 := fun ρ w o x b f u hx hc => by
  unfold execOp
  go_simp
theorem load1_bool : Load1 4 := fun ρ w o x b f u hx hc => by
  unfold execOp
  go_simp
theorem load1_u64 : Load1 22 := fun ρ w o x b f u hx hc => by
  unfold execOp
  go_simp
theorem store1_sl : Store1 25 := fun ρ w o x y b f u hx hc hf h1 => by
  unfold execOp
  rcases h1 with ⟨_, _, _, hv⟩ | ⟨_, hv⟩ | ⟨_, _, hv⟩ <;> rw [hv] <;> go_simp
theorem store1_bool : Store1 4 := fun ρ w o x y b f u hx hc hf h1 => by
  unfold execOp
  rcases h1 with ⟨_, _, _, hv⟩ | ⟨_, hv⟩ | ⟨_, _, hv⟩ <;> rw [hv] <;> go_simp

section
variable {ops : Array Oper} {l : List Kd} {bx : Bxs} {sl : List (Tmp × Pr)} {i : Nat} {o : Oper} {Q : Exit → Act → World → Prop} {a0 : Act} {n : Nat} {w0 : World}

theorem sf_cell {w : World} {g f : Nat} {cs : Array Value} {T : TypeId} {u : Value} (h : w.heap[g]? = some (.cells (Value.agg cs).cells T (0, 0))) (hu : cs[f]? = some u) : w.cell? ⟨g, f, none⟩ = some u := by
  have h : w.heap[g]? = some (.cells cs T (0, 0)) := h
  simp only [World.cell?, h]
  exact hu
theorem sf_frozen {w : World} {g f : Nat} {cs : Array Value} {T : TypeId} (h : w.heap[g]? = some (.cells (Value.agg cs).cells T (0, 0))) : w.frozen? ⟨g, f, none⟩ = false := by
  have h : w.heap[g]? = some (.cells cs T (0, 0)) := h
  simp [World.frozen?, h]

/-- A field of a struct whose address is known is loaded. -/
theorem owe_sload {T T' : TypeId} {t k j g f : Nat} {x : Operand} {ps : List Pr} {χ : Pr} (ho : ops[i]? = some o) (hw : Wants ops l bx sl i o) (hop : o.op = .load T' x) (hx : Opnd ops l bx sl i x (Is (.pointer (some ⟨g, f, none⟩)))) (hb : bx[k]? = some (t, .box T (SF ps))) (hs : sl[j]? = some (t, Is (.pointer (some ⟨g, 0, none⟩)))) (hn : (unturned ops l i (.inl t) && slotFree ops i t) = true) (hp : ps[f]? = some χ) (hL : Load1 T') (hk : kdAt l i = .val χ) : Owed Tryz.prog ops Q l bx sl a0 n w0 i :=
  owe_val ho hw hk fun vs B a w c => by
    simp only [Bool.and_eq_true] at hn
    obtain ⟨b, u, hp0, hB, hu, hφ⟩ := c.box t _ (List.mem_of_getElem? hb) hn.1
    have e0 : a.eval (.tmp t) = .pointer (some ⟨g, 0, none⟩) := (opnd_slot j t hs hn.2 a0 n w0 vs B a w c).now
    rw [c.slot t hn.2, hp0] at e0
    simp at e0
    subst e0
    obtain ⟨cs, rfl, h1, h2, h3⟩ := hφ.now
    obtain ⟨v, hv, _⟩ := h3 f χ hp
    refine ⟨v, ?_, fun w' e' => ?_⟩
    · have := hL a.eval w o x b f v (hx a0 n w0 vs B a w c).now (sf_cell hu hv)
      rw [← this]
      unfold execOp
      rw [hop]
    · obtain ⟨_, _, h4⟩ := (hφ w' e').get
      obtain ⟨v', hv', hχ⟩ := h4 f χ hp
      rw [hv] at hv'
      cases hv'
      exact hχ
theorem sf_put {lo : Nat} {B : Nat → Prop} {w : World} {T : TypeId} {ps : List Pr} {χ : Pr} {g f : Nat} {u v : Value} {x : Id} {vs : Nat → Value} (hid : ∀ b, vblock (hnd a0 vs x) = some b → idset l bx a0 vs x b) (hx : hnd a0 vs x = .pointer (some ⟨g, 0, none⟩)) (hB : B g) (hu : w.heap[g]? = some (.cells u.cells T (0, 0))) (hφ : Has B w (SF ps) u) (hv : Has B w χ v) (h1 : v.oneCell' = true) (z : Value) : Kd.out l bx lo a0 vs B w z (w.setCell ⟨g, f, none⟩ v) (.put x (.box T (SF (ps.set f χ)))) := by
  obtain ⟨cs, rfl, _⟩ := hφ.now
  have e := setCell_eq_setRow w g f cs T (0, 0) v hu
  rw [e]
  exact put_box (v := .agg (cs.setIfInBounds f v)) hid hx hB hu (fun w' e' => (hφ w' e').set h1 (hv w' e')) z
/-- .. is written: the first one of a statement. -/
theorem owe_sput {T T' : TypeId} {t k j g f : Nat} {x y : Operand} {ps : List Pr} {χ : Pr} (ho : ops[i]? = some o) (hw : Wants ops l bx sl i o) (hop : o.op = .store T' x y) (hx : Opnd ops l bx sl i x (Is (.pointer (some ⟨g, f, none⟩)))) (hb : bx[k]? = some (t, .box T (SF ps))) (hs : sl[j]? = some (t, Is (.pointer (some ⟨g, 0, none⟩)))) (hn : (unturned ops l i (.inl t) && slotFree ops i t) = true) (hy : Opnd ops l bx sl i y χ) (h1 : ∀ v w, χ v w → Flat v) (hf : f < ps.length) (hS : Store1 T') (hk : kdAt l i = .put (.inl t) (.box T (SF (ps.set f χ)))) : Owed Tryz.prog ops Q l bx sl a0 n w0 i := fun vs B a w c o' ho' => by
  obtain rfl : o = o' := Option.some.inj (ho.symm.trans ho')
  simp only [Bool.and_eq_true] at hn
  obtain ⟨b, u, hp0, hB, hu, hφ⟩ := c.box t _ (List.mem_of_getElem? hb) hn.1
  have e0 : a.eval (.tmp t) = .pointer (some ⟨g, 0, none⟩) := (opnd_slot j t hs hn.2 a0 n w0 vs B a w c).now
  rw [c.slot t hn.2, hp0] at e0
  simp at e0
  subst e0
  have hv := hy a0 n w0 vs B a w c
  obtain ⟨cs, rfl, h2, h3, h4⟩ := hφ.now
  obtain ⟨v, hcv, _⟩ := h4 f (ps[f]'hf) (by simp [hf])
  have h := hS a.eval w o x y b f v (hx a0 n w0 vs B a w c).now (sf_cell hu hcv) (sf_frozen hu) (h1 _ _ hv.now)
  have h' : (execOp a.eval o).run Tryz.prog w = .ok .skip (w.setCell ⟨b, f, none⟩ (a.eval y)) := by
    rw [← h]
    unfold execOp
    rw [hop]
  simp only [wpOp, ho]
  rw [if_pos (hw a0 n w0 vs B a w c)]
  refine Or.inl ?_
  unfold Oper.wp
  rw [h', Oper.upon_skip]
  exact ⟨undef, rfl, by rw [hk]; exact sf_put (x := .inl t) (fun b h => idset_plain (x := .inl t) (List.mem_of_getElem? hb) rfl h) hp0 hB hu hφ hv (h1 _ _ hv.now).one _⟩
/-- .. is written behind another one. -/
theorem owe_sput2 (m : Nat) {T T' : TypeId} {t j g f : Nat} {x y : Operand} {ps : List Pr} {χ : Pr} (ho : ops[i]? = some o) (hw : Wants ops l bx sl i o) (hop : o.op = .store T' x y) (hx : Opnd ops l bx sl i x (Is (.pointer (some ⟨g, f, none⟩)))) (hm : ((depsOf ops i).contains m && lastPut ops l i m (.inl t) && slotFree ops i t) = true) (hkm : kdAt l m = .put (.inl t) (.box T (SF ps))) (hs : sl[j]? = some (t, Is (.pointer (some ⟨g, 0, none⟩)))) (hy : Opnd ops l bx sl i y χ) (h1 : ∀ v w, χ v w → Flat v) (hf : f < ps.length) (hS : Store1 T') (hk : kdAt l i = .put (.inl t) (.box T (SF (ps.set f χ)))) : Owed Tryz.prog ops Q l bx sl a0 n w0 i := fun vs B a w c o' ho' => by
  obtain rfl : o = o' := Option.some.inj (ho.symm.trans ho')
  simp only [Bool.and_eq_true, List.contains_iff_mem] at hm
  obtain ⟨b, u, hp0, hB, hu, hφ⟩ := c.puts m _ _ hm.1.1 (by rw [hkm]; rfl) hm.1.2
  have e0 : a.eval (.tmp t) = .pointer (some ⟨g, 0, none⟩) := (opnd_slot j t hs hm.2 a0 n w0 vs B a w c).now
  have hp1 : a0.eval (.tmp t) = .pointer (some ⟨b, 0, none⟩) := hp0
  rw [c.slot t hm.2, hp1] at e0
  simp at e0
  subst e0
  have hv := hy a0 n w0 vs B a w c
  obtain ⟨cs, rfl, h2, h3, h4⟩ := hφ.now
  obtain ⟨v, hcv, _⟩ := h4 f (ps[f]'hf) (by simp [hf])
  have h := hS a.eval w o x y b f v (hx a0 n w0 vs B a w c).now (sf_cell hu hcv) (sf_frozen hu) (h1 _ _ hv.now)
  have h' : (execOp a.eval o).run Tryz.prog w = .ok .skip (w.setCell ⟨b, f, none⟩ (a.eval y)) := by
    rw [← h]
    unfold execOp
    rw [hop]
  simp only [wpOp, ho]
  rw [if_pos (hw a0 n w0 vs B a w c)]
  refine Or.inl ?_
  unfold Oper.wp
  rw [h', Oper.upon_skip]
  exact ⟨undef, rfl, by rw [hk]; exact sf_put (x := .inl t) (fun b h => c.pset m (.inl t) (.box T (SF ps)) hm.1.1 (by rw [hkm]; rfl) b h) hp0 hB hu hφ hv (h1 _ _ hv.now).one _⟩
end
end Go.Proofs.YtgalppimdmjdcaaGreat
