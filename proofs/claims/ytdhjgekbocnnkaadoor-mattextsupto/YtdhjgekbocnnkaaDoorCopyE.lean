/-
  copy into a row of the call's own, of elements of one cell: out of a list, out of its own first part.
-/
import Derived.Test.YtdhjgekbocnnkaaDoorSetJ
import Derived.Test.YtdhjgekbocnnkaaDoorVec
namespace Go.Proofs.YtdhjgekbocnnkaaDoor
open Go Go.RowKit Nt
set_option linter.unusedSimpArgs false
set_option linter.unusedVariables false
set_option maxRecDepth 20000

theorem cells_one : ∀ {us : List Value}, (∀ u ∈ us, Celv 1 u) → cellsOf us = us
  | [], _ => rfl
  | u :: r, h => by
    have e : cellsOf (u :: r) = u.cells.toList ++ cellsOf r := rfl
    rw [e, cells_one (fun v hv => h v (by simp [hv])), (celv1 (h u (by simp))).1]
    rfl
/-- The part of the row in slot t from an element on; its first part. -/
def DstV (a0 : Act) (t n off : Nat) : Pr := fun v _ => ∃ g c, a0.eval (.tmp t) = .slice (some ⟨g, 0, none⟩) n c ∧ v = .slice (some ⟨g, off, none⟩) (n - off) (c - off)
def HeadV (a0 : Act) (t n m : Nat) : Pr := fun v _ => ∃ g c, a0.eval (.tmp t) = .slice (some ⟨g, 0, none⟩) n c ∧ v = .slice (some ⟨g, 0, none⟩) m c
section
variable {ops : Array Oper} {l : List Kd} {bx : Bxs} {sl : List (Tmp × Pr)} {i : Nat} {o : Oper} {Q : Exit → Act → World → Prop} {a0 : Act} {n0 : Nat} {w0 : World}
/-- What a copy leaves. -/
theorem copy_out {B : Nat → Prop} {w : World} {E t n off g cap : Nat} {φs φs2 : List Pr} {cur : Array Value} {vs : Nat → Value} {us us2 : List Value} {v : Value} (hmem : (t, Rk.row E 1 n (CE 1 φs)) ∈ bx) (hg0 : a0.eval (.tmp t) = .slice (some ⟨g, 0, none⟩) n cap) (hlo : w0.heap.size ≤ g) (hB : B g) (hg : w.heap[g]? = some (.cells cur E (0, 0))) (hnc : n ≤ cap) (hcm : cap ≤ maxLen) (hcs : cur.size = cap * 1) (htk : cur.toList.take (n * 1) = cellsOf us)
    (hcv : ∀ u ∈ us, Celv 1 u) (hχ : ∀ w', Ev B w w' → CE 1 φs (cellsOf us) w') (hul : us.length = n) (hcv2 : ∀ u ∈ us2, Celv 1 u) (h2 : ∀ w', Ev B w w' → ∀ (i : Nat) u φ, us2[i]? = some u → φs2[i]? = some φ → φ u w') (hl2 : us2.length = φs2.length) (hfit : off + us2.length ≤ n) (hv : v = .int .i64 (us2.length : Nat)) :
    Kd.out l bx w0.heap.size a0 vs B w v (w.setRow g (cur.toList.take off ++ us2 ++ cur.toList.drop (off + us2.length)).toArray) (.turn (.inl t) (.row E 1 n (CE 1 (φs.take off ++ φs2 ++ φs.drop (off + φs2.length)))) (Is (.int .i64 (us2.length : Nat)))) := by
  have hφl : φs.length = n := by obtain ⟨us', e', hl', hc', _⟩ := hχ w (Ev.refl _ _); rw [← hl', cellsOf_inj (by decide) hc' hcv e'.symm, hul]
  have hev : ∀ w', Ev B (w.setRow g (cur.toList.take off ++ us2 ++ cur.toList.drop (off + us2.length)).toArray) w' → Ev B w w' := fun w' ev => (show Ev B w (w.setRow g (cur.toList.take off ++ us2 ++ cur.toList.drop (off + us2.length)).toArray) from ⟨rfl, rfl, rfl, Nat.le_of_eq (setRow_size _ _ _).symm, fun k _ hn' => setRow_other _ _ _ _ (fun e => hn' (e ▸ hB))⟩).back (fun _ _ h => h) ev
  have e1 := cells_one hcv
  rw [e1, Nat.mul_one] at htk
  have hcl : cur.toList.length = cap := by simpa using hcs
  have hnew : (cur.toList.take off ++ us2 ++ cur.toList.drop (off + us2.length)).take n = us.take off ++ us2 ++ us.drop (off + us2.length) := by
    have t1 : cur.toList.take off = us.take off := by rw [← htk, List.take_take, Nat.min_eq_left (by omega)]
    have t2 : (cur.toList.drop (off + us2.length)).take (n - (off + us2.length)) = us.drop (off + us2.length) := by rw [← htk, List.drop_take]
    have l1 : (us.take off).length = off := by rw [List.length_take]; omega
    rw [t1, ← t2, List.append_assoc, List.append_assoc, take_app3 _ _ _ _ (by rw [l1]; exact hfit), l1]
  have hcv' : ∀ u ∈ us.take off ++ us2 ++ us.drop (off + us2.length), Celv 1 u := fun u hu => by
    rcases List.mem_append.1 hu with hu | hu
    · rcases List.mem_append.1 hu with hu | hu
      · exact hcv u (List.mem_of_mem_take hu)
      · exact hcv2 u hu
    · exact hcv u (List.mem_of_mem_drop hu)
  refine ⟨out_put (v := v) (x := .inl t) hmem rfl rfl ⟨rfl, rfl, rfl, Nat.le_of_eq (setRow_size _ _ _).symm, fun k _ hn' => setRow_other _ _ _ _ (fun e => hn' (by show vblock (a0.eval (.tmp t)) = _; rw [hg0, e]; rfl))⟩ ⟨cellsOf (us.take off ++ us2 ++ us.drop (off + us2.length)), ⟨?_, Or.inr ⟨g, cap, _, hg0, hlo, setRow_heap w _ _ _ _ _ hg, hnc, hcm, ?_, ?_⟩⟩, fun b hb => by rw [show hnd a0 vs (.inl t) = a0.eval (.tmp t) from rfl, hg0] at hb; simp [vblock] at hb; rw [← hb]; exact hB, fun w' ev => ?_⟩, fun _ _ => hv⟩
  · rw [cellsOf_len hcv']
    simp only [List.length_append, List.length_take, List.length_drop]
    omega
  · simp only [List.size_toArray, List.length_append, List.length_take, List.length_drop, hcl]
    omega
  · rw [cells_one hcv', Nat.mul_one]
    exact hnew
  · obtain ⟨us', e', hul', hc', hall'⟩ := hχ w' (hev w' ev)
    have : us' = us := cellsOf_inj (by decide) hc' hcv e'.symm
    subst this
    have h2' := h2 w' (hev w' ev)
    refine ⟨_, rfl, ?_, hcv', fun j u φ hu hφ => ?_⟩
    · simp only [List.length_append, List.length_take, List.length_drop, hφl]
      omega
    · have l1 : (us'.take off).length = off := by rw [List.length_take]; omega
      have l2 : (φs.take off).length = off := by rw [List.length_take]; omega
      by_cases h0 : j < off
      · rw [List.append_assoc, List.getElem?_append_left (by omega), List.getElem?_take, if_pos h0] at hu hφ
        exact hall' j u φ hu hφ
      · by_cases h1 : j < off + us2.length
        · rw [List.append_assoc, List.getElem?_append_right (by omega), l1, List.getElem?_append_left (by omega)] at hu
          rw [List.append_assoc, List.getElem?_append_right (by omega), l2, List.getElem?_append_left (by omega)] at hφ
          exact h2' _ u φ hu hφ
        · rw [List.getElem?_append_right (by simp; omega), List.getElem?_drop] at hu hφ
          simp only [List.length_append, l1, l2] at hu hφ
          rw [show off + us2.length + (j - (off + us2.length)) = j from by omega] at hu
          rw [← hl2, show off + us2.length + (j - (off + us2.length)) = j from by omega] at hφ
          exact hall' j u φ hu hφ
theorem owe_copySelf {x y : Operand} {T E t k n off m : Nat} {φs : List Pr} (ho : ops[i]? = some o) (hw : Wants ops l bx sl i o) (hop : o.op = .call { callee := .builtin .copy, args := #[x, y], argTypes := #[T, T] }) (hT : Tryd.prog.underlying T = some (.slice E)) (hE : (Tryd.prog.info? E).map (·.size) = some 1) (hx : Opnd ops l bx sl i x (DstV a0 t n off)) (hy : Opnd ops l bx sl i y (HeadV a0 t n off)) (hb : bx[k]? = some (t, .row E 1 n (CE 1 φs))) (hn : unturned ops l i (.inl t) = true) (hm : m = Nat.min off (n - off)) (hlt : off < n)
    (hk : kdAt l i = .turn (.inl t) (.row E 1 n (CE 1 (φs.take off ++ φs.take m ++ φs.drop (off + m)))) (Is (.int .i64 (m : Nat)))) : Owed Tryd.prog ops Q l bx sl a0 n0 w0 i := fun vs B a w c o' ho' => by
  obtain rfl : o = o' := Option.some.inj (ho.symm.trans ho')
  obtain ⟨g, cap', hg0, hxv⟩ := (hx a0 n0 w0 vs B a w c).now
  obtain ⟨g', cap'', hg1, hyv⟩ := (hy a0 n0 w0 vs B a w c).now
  rw [hg0] at hg1
  simp only [Value.slice.injEq, Option.some.injEq, Addr.mk.injEq] at hg1
  obtain ⟨⟨rfl, _⟩, _, rfl⟩ := hg1
  obtain ⟨zs, ⟨hl, hown⟩, hB, hχ⟩ := c.box t _ (List.mem_of_getElem? hb) hn
  obtain ⟨us, rfl, hul0, hcv, _⟩ := hχ w (Ev.refl _ _)
  have hul := ce_count (by decide) hcv hl
  rcases hown with ⟨_, h0⟩ | ⟨g', cap, cur, e, hlo, hg, hnc, hcm, hcs, htk⟩
  · omega
  rw [hg0] at e
  simp only [Value.slice.injEq, Option.some.injEq, Addr.mk.injEq] at e
  obtain ⟨⟨rfl, _⟩, _, rfl⟩ := e
  have hmo : m ≤ off := by rw [hm]; exact Nat.min_le_left _ _
  have hmn : m ≤ n - off := by rw [hm]; exact Nat.min_le_right _ _
  have hl2 : (us.take m).length = m := by rw [List.length_take]; omega
  have e1 := cells_one hcv
  have hsrc : ∀ j v, (us.take m)[j]? = some v → w.cell? ((⟨g, 0, none⟩ : Addr).add j) = some v := fun j v hv => by
    have hj : j < m := by have := (List.getElem?_eq_some_iff.1 hv).1; omega
    rw [List.getElem?_take, if_pos hj] at hv
    rw [addr_add]
    have h3 : (cur.toList.take (n * 1))[j]? = us[j]? := by rw [htk, e1]
    rw [List.getElem?_take, if_pos (by omega), hv] at h3
    simp only [World.cell?, hg, Nat.zero_add]
    simpa using h3
  have hr := run_copy_row Tryd.prog w T T o.type E g off (n - off) (cap' - off) ⟨g, 0, none⟩ off cap' cur E (us.take m) hT hE hg (by rw [hl2]; exact hm) hsrc (by rw [hl2]; omega) (fun v hv => (celv1 (hcv v (List.mem_of_mem_take hv))).2)
  have h : (execOp a.eval o).run Tryd.prog w = .ok (.value (goInt (us.take m).length)) (w.setRow g (cur.toList.take off ++ us.take m ++ cur.toList.drop (off + (us.take m).length)).toArray) := by
    unfold execOp
    rw [hop]
    simp only [resolve, invoke, builtin, Sem.run_bind, Sem.run_pure, Result.andThen_ok, List.map_toArray, List.map_cons, List.map_nil, hxv, hyv, hr]
  simp only [wpOp, ho]
  rw [if_pos (hw a0 n0 w0 vs B a w c)]
  refine Or.inl ?_
  unfold Oper.wp
  rw [h, Oper.upon_value]
  refine ⟨_, rfl, ?_⟩
  have hφ2 : (φs.take m).length = m := by rw [List.length_take]; omega
  have := copy_out (l := l) (bx := bx) (a0 := a0) (w0 := w0) (vs := vs) (v := goInt (us.take m).length) (off := off) (φs2 := φs.take m) (us2 := us.take m) (List.mem_of_getElem? hb) hg0 hlo (hB g (by rw [hg0]; rfl)) hg hnc hcm hcs htk hcv hχ hul (fun u hu => hcv u (List.mem_of_mem_take hu)) (fun w' ev j u φ hu hφ => by
    obtain ⟨us', e', _, hc', hall'⟩ := hχ w' ev
    have : us' = us := cellsOf_inj (by decide) hc' hcv e'.symm
    subst this
    have hj : j < m := by have := (List.getElem?_eq_some_iff.1 hu).1; omega
    rw [List.getElem?_take, if_pos hj] at hu hφ
    exact hall' j u φ hu hφ) (by rw [hl2, hφ2]) (by rw [hl2]; omega) rfl
  rw [hk]
  rw [hl2, hφ2] at this
  rw [hl2]
  exact this
theorem owe_copyIn {x y : Operand} {T E t k n m m' : Nat} {φs φs2 : List Pr} (ho : ops[i]? = some o) (hw : Wants ops l bx sl i o) (hop : o.op = .call { callee := .builtin .copy, args := #[x, y], argTypes := #[T, T] }) (hT : Tryd.prog.underlying T = some (.slice E)) (hE : (Tryd.prog.info? E).map (·.size) = some 1) (hx : Opnd ops l bx sl i x (Is (a0.eval (.tmp t)))) (hy : Opnd ops l bx sl i y (Ar 1 m φs2)) (hc2 : ∀ (i : Nat) φ, φs2[i]? = some φ → Cel 1 φ) (hb : bx[k]? = some (t, .row E 1 n (CE 1 φs))) (hn : unturned ops l i (.inl t) = true) (hm : m' = Nat.min m n) (h0 : 0 < n) (h0' : 0 < m)
    (hk : kdAt l i = .turn (.inl t) (.row E 1 n (CE 1 (φs2.take m' ++ φs.drop m'))) (Is (.int .i64 (m' : Nat)))) : Owed Tryd.prog ops Q l bx sl a0 n0 w0 i := fun vs B a w c o' ho' => by
  obtain rfl : o = o' := Option.some.inj (ho.symm.trans ho')
  have hxv : a.eval x = a0.eval (.tmp t) := (hx a0 n0 w0 vs B a w c).now
  have hY := hy a0 n0 w0 vs B a w c
  obtain ⟨zs, ⟨hl, hown⟩, hB, hχ⟩ := c.box t _ (List.mem_of_getElem? hb) hn
  obtain ⟨us, rfl, hul0, hcv, _⟩ := hχ w (Ev.refl _ _)
  have hul := ce_count (by decide) hcv hl
  rcases hown with ⟨_, h1⟩ | ⟨g, cap, cur, e, hlo, hg, hnc, hcm, hcs, htk⟩
  · omega
  rw [e] at hxv
  have hml : φs2.length = m := by obtain ⟨p, c', _, hl', _⟩ := hY.now; exact hl'
  have hmm : m' ≤ m := by rw [hm]; exact Nat.min_le_left _ _
  have hmn : m' ≤ n := by rw [hm]; exact Nat.min_le_right _ _
  obtain ⟨φ0, hφ0⟩ : ∃ φ, φs2[0]? = some φ := ⟨φs2[0]'(by omega), List.getElem?_eq_getElem _⟩
  obtain ⟨b, ob, cy, hyv, _, _⟩ := ar_at hY hφ0
  -- the values of the list
  have each : ∀ j, ∃ u, ∀ φ, φs2[j]? = some φ → Celv 1 u ∧ w.cell? ⟨b, ob + j, none⟩ = some u ∧ Has B w φ u := fun j => by
    cases hj : φs2[j]? with
    | none => exact ⟨undef, fun φ h => by cases h⟩
    | some φ =>
      obtain ⟨b', ob', cy', e', _, hat⟩ := ar_at hY hj
      rw [hyv] at e'
      cases e'
      obtain ⟨b2, o2, u, e2, h2, h3, h4⟩ := at_fix (by decide) (hc2 j φ hj) hat
      cases e2
      have h5 := h2 0 u (by rw [(celv1 h3).1]; rfl)
      rw [Nat.one_mul] at h5
      exact ⟨u, fun φ' h => by cases h; exact ⟨h3, h5, h4⟩⟩
  obtain ⟨U, hU⟩ : ∃ U : Nat → Value, ∀ j φ, φs2[j]? = some φ → Celv 1 (U j) ∧ w.cell? ⟨b, ob + j, none⟩ = some (U j) ∧ Has B w φ (U j) := ⟨fun j => Classical.choose (each j), fun j => Classical.choose_spec (each j)⟩
  have hget : ∀ j v, ((List.range m').map U)[j]? = some v → j < m' ∧ v = U j := fun j v hv => by
    obtain ⟨q, hq, rfl⟩ := map_get hv
    have hj : j < m' := by simpa using (List.getElem?_eq_some_iff.1 hq).1
    rw [List.getElem?_range hj] at hq
    cases hq
    exact ⟨hj, rfl⟩
  have hsome : ∀ j, j < m' → ∃ φ, φs2[j]? = some φ := fun j hj => ⟨φs2[j]'(by omega), List.getElem?_eq_getElem _⟩
  have hcvU : ∀ u ∈ (List.range m').map U, Celv 1 u := fun u hu => by
    obtain ⟨j, hj, rfl⟩ := List.mem_map.1 hu
    obtain ⟨φ, hφ⟩ := hsome j (List.mem_range.1 hj)
    exact (hU j φ hφ).1
  have hsrc : ∀ j v, ((List.range m').map U)[j]? = some v → w.cell? ((⟨b, ob, none⟩ : Addr).add j) = some v := fun j v hv => by
    obtain ⟨hj, rfl⟩ := hget j v hv
    obtain ⟨φ, hφ⟩ := hsome j hj
    rw [addr_add]
    exact (hU j φ hφ).2.1
  have hlU : ((List.range m').map U).length = m' := by simp
  have hr := run_copy_row Tryd.prog w T T o.type E g 0 n cap ⟨b, ob, none⟩ m cy cur E ((List.range m').map U) hT hE hg (by rw [hlU]; exact hm) hsrc (by rw [hlU]; omega) (fun v hv => (celv1 (hcvU v hv)).2)
  have h : (execOp a.eval o).run Tryd.prog w = .ok (.value (goInt ((List.range m').map U).length)) (w.setRow g (cur.toList.take 0 ++ (List.range m').map U ++ cur.toList.drop (0 + ((List.range m').map U).length)).toArray) := by
    unfold execOp
    rw [hop]
    simp only [resolve, invoke, builtin, Sem.run_bind, Sem.run_pure, Result.andThen_ok, List.map_toArray, List.map_cons, List.map_nil, hxv, hyv, hr]
  simp only [wpOp, ho]
  rw [if_pos (hw a0 n0 w0 vs B a w c)]
  refine Or.inl ?_
  unfold Oper.wp
  rw [h, Oper.upon_value]
  refine ⟨_, rfl, ?_⟩
  have hφ2 : (φs2.take m').length = m' := by rw [List.length_take]; omega
  have := copy_out (l := l) (bx := bx) (a0 := a0) (w0 := w0) (vs := vs) (v := goInt ((List.range m').map U).length) (off := 0) (φs2 := φs2.take m') (us2 := (List.range m').map U) (List.mem_of_getElem? hb) e hlo (hB g (by rw [e]; rfl)) hg hnc hcm hcs htk hcv hχ hul hcvU (fun w' ev j u φ hu hφ => by
    obtain ⟨hj, rfl⟩ := hget j u hu
    rw [List.getElem?_take, if_pos hj] at hφ
    exact (hU j φ hφ).2.2 w' ev) (by rw [hlU, hφ2]) (by rw [hlU]; omega) rfl
  rw [hk]
  rw [hlU, hφ2] at this
  rw [hlU]
  simpa using this
end

theorem slo_is (ρ : Operand → Value) (o : Oper) (x y : Operand) (w : World) (g n c k : Nat) (h1 : k < n) (h2 : n ≤ c) (h3 : c ≤ 9223372036854775807) (hx : ρ x = .slice (some ⟨g, 0, none⟩) n c) (hy : ρ y = .int .i64 (k : Nat)) : (execOp ρ { o with op := .slice 98 x (some y) none none }).run Tryd.prog w = .ok (.value (.slice (some ⟨g, k, none⟩) (n - k) (c - k))) w := by
  have h4 : (0 : Int) ≤ (k : Int) := by omega
  have h5 : (k : Int) ≤ (n : Int) := by omega
  have h6 : k < c := by omega
  have h7 : k ≠ c := by omega
  have h8 : k ≤ n := by omega
  unfold execOp
  go_simp
  intro e
  omega
theorem shi_is (ρ : Operand → Value) (o : Oper) (x y : Operand) (w : World) (g n c k : Nat) (h1 : k ≤ n) (h2 : n ≤ c) (h3 : c ≤ 9223372036854775807) (hx : ρ x = .slice (some ⟨g, 0, none⟩) n c) (hy : ρ y = .int .i64 (k : Nat)) : (execOp ρ { o with op := .slice 98 x none (some y) none }).run Tryd.prog w = .ok (.value (.slice (some ⟨g, 0, none⟩) k c)) w := by
  have h4 : (0 : Int) ≤ (k : Int) := by omega
  have h5 : (k : Int) ≤ (c : Int) := by omega
  have h6 : k ≤ c := by omega
  unfold execOp
  go_simp
section
variable {ops : Array Oper} {l : List Kd} {bx : Bxs} {sl : List (Tmp × Pr)} {i : Nat} {o : Oper} {Q : Exit → Act → World → Prop} {a0 : Act} {n0 : Nat} {w0 : World}
theorem owe_dst {x y : Operand} {T E t k n off : Nat} {χ : List Value → World → Prop} (ho : ops[i]? = some o) (hw : Wants ops l bx sl i o) (hop : o.op = .slice T x (some y) none none) (hT : ∀ (ρ : Operand → Value) (o : Oper) (x y : Operand) (w : World) (g n c k : Nat), k < n → n ≤ c → c ≤ 9223372036854775807 → ρ x = .slice (some ⟨g, 0, none⟩) n c → ρ y = .int .i64 (k : Nat) → (execOp ρ { o with op := .slice T x (some y) none none }).run Tryd.prog w = .ok (.value (.slice (some ⟨g, k, none⟩) (n - k) (c - k))) w)
    (hx : Opnd ops l bx sl i x (Is (a0.eval (.tmp t)))) (hb : bx[k]? = some (t, .row E 1 n χ)) (hn : unturned ops l i (.inl t) = true) (hy : Opnd ops l bx sl i y (Is (.int .i64 (off : Nat)))) (hlt : off < n) (hk : kdAt l i = .val (DstV a0 t n off)) : Owed Tryd.prog ops Q l bx sl a0 n0 w0 i :=
  owe_val ho hw hk fun vs B a w c => by
    have hxv : a.eval x = a0.eval (.tmp t) := (hx a0 n0 w0 vs B a w c).now
    have hyv : a.eval y = .int .i64 (off : Nat) := (hy a0 n0 w0 vs B a w c).now
    obtain ⟨xs, ⟨hl, hown⟩, _, _⟩ := c.box t _ (List.mem_of_getElem? hb) hn
    rcases hown with ⟨_, h0⟩ | ⟨g, cap, cur, e, _, hg, hnc, hcm, _⟩
    · omega
    · rw [e] at hxv
      refine ⟨.slice (some ⟨g, off, none⟩) (n - off) (cap - off), ?_, fun _ _ => ⟨g, cap, e, rfl⟩⟩
      rw [← hT a.eval o x y w g n cap off hlt hnc (by unfold maxLen at hcm; omega) hxv hyv]
      unfold execOp
      rw [hop]
theorem owe_head {x y : Operand} {T E t k n off : Nat} {χ : List Value → World → Prop} (ho : ops[i]? = some o) (hw : Wants ops l bx sl i o) (hop : o.op = .slice T x none (some y) none) (hT : ∀ (ρ : Operand → Value) (o : Oper) (x y : Operand) (w : World) (g n c k : Nat), k ≤ n → n ≤ c → c ≤ 9223372036854775807 → ρ x = .slice (some ⟨g, 0, none⟩) n c → ρ y = .int .i64 (k : Nat) → (execOp ρ { o with op := .slice T x none (some y) none }).run Tryd.prog w = .ok (.value (.slice (some ⟨g, 0, none⟩) k c)) w)
    (hx : Opnd ops l bx sl i x (Is (a0.eval (.tmp t)))) (hb : bx[k]? = some (t, .row E 1 n χ)) (hn : unturned ops l i (.inl t) = true) (hy : Opnd ops l bx sl i y (Is (.int .i64 (off : Nat)))) (h0 : 0 < n) (hlt : off ≤ n) (hk : kdAt l i = .val (HeadV a0 t n off)) : Owed Tryd.prog ops Q l bx sl a0 n0 w0 i :=
  owe_val ho hw hk fun vs B a w c => by
    have hxv : a.eval x = a0.eval (.tmp t) := (hx a0 n0 w0 vs B a w c).now
    have hyv : a.eval y = .int .i64 (off : Nat) := (hy a0 n0 w0 vs B a w c).now
    obtain ⟨xs, ⟨hl, hown⟩, _, _⟩ := c.box t _ (List.mem_of_getElem? hb) hn
    rcases hown with ⟨_, h1⟩ | ⟨g, cap, cur, e, _, hg, hnc, hcm, _⟩
    · omega
    · rw [e] at hxv
      refine ⟨.slice (some ⟨g, 0, none⟩) off cap, ?_, fun _ _ => ⟨g, cap, e, rfl⟩⟩
      rw [← hT a.eval o x y w g n cap off hlt hnc (by unfold maxLen at hcm; omega) hxv hyv]
      unfold execOp
      rw [hop]
/-- How long a row of the call's own is. -/
theorem owe_lenrow {x : Operand} {T E E' sz t k n : Nat} {χ : List Value → World → Prop} (ho : ops[i]? = some o) (hw : Wants ops l bx sl i o) (hop : o.op = .call { callee := .builtin .len, args := #[x], argTypes := #[T] }) (hT : Tryd.prog.underlying T = some (.slice E')) (hx : Opnd ops l bx sl i x (Is (a0.eval (.tmp t)))) (hb : bx[k]? = some (t, .row E sz n χ)) (hn : unturned ops l i (.inl t) = true) (hk : kdAt l i = .val (Is (.int .i64 (n : Nat)))) : Owed Tryd.prog ops Q l bx sl a0 n0 w0 i :=
  owe_is ho hw hk fun vs B a w c => by
    have hxv : a.eval x = a0.eval (.tmp t) := (hx a0 n0 w0 vs B a w c).now
    obtain ⟨xs, ⟨hl, hown⟩, _, _⟩ := c.box t _ (List.mem_of_getElem? hb) hn
    obtain ⟨p, cap, e⟩ : ∃ p cap, a0.eval (.tmp t) = .slice p n cap := by
      rcases hown with ⟨e, h0⟩ | ⟨g, cap, cur, e, _⟩
      · exact ⟨none, 0, by rw [e, h0]⟩
      · exact ⟨_, _, e⟩
    rw [e] at hxv
    unfold execOp
    rw [hop]
    generalize a.eval = ρ at hxv
    go_simp
end
theorem owe_copy0 {ops : Array Oper} {l : List Kd} {bx : Bxs} {sl : List (Tmp × Pr)} {i : Nat} {o : Oper} {Q : Exit → Act → World → Prop} {a0 : Act} {n0 : Nat} {w0 : World} {x y : Operand} {T E t k m n : Nat} {χ : List Value → World → Prop} {φs2 : List Pr} (ho : ops[i]? = some o) (hw : Wants ops l bx sl i o) (hop : o.op = .call { callee := .builtin .copy, args := #[x, y], argTypes := #[T, T] }) (hT : Tryd.prog.underlying T = some (.slice E)) (hE : (Tryd.prog.info? E).map (·.size) = some 1) (hx : Opnd ops l bx sl i x (Is (a0.eval (.tmp t)))) (hy : Opnd ops l bx sl i y (Ar 1 m φs2)) (hb : bx[k]? = some (t, .row E 1 n χ)) (hn : unturned ops l i (.inl t) = true) (hk : kdAt l i = .val (Is (.int .i64 0))) (h0 : n = 0) (h0' : 0 < m) : Owed Tryd.prog ops Q l bx sl a0 n0 w0 i :=
  owe_is ho hw hk fun vs B a w c => by
    subst h0
    have hxv : a.eval x = a0.eval (.tmp t) := (hx a0 n0 w0 vs B a w c).now
    have hY := hy a0 n0 w0 vs B a w c
    have hml : φs2.length = m := by obtain ⟨p, c', _, hl', _⟩ := hY.now; exact hl'
    obtain ⟨φ0, hφ0⟩ : ∃ φ, φs2[0]? = some φ := ⟨φs2[0]'(by omega), List.getElem?_eq_getElem _⟩
    obtain ⟨b, ob, cy, hyv, _, _⟩ := ar_at hY hφ0
    obtain ⟨xs, ⟨hl, hown⟩, _, _⟩ := c.box t _ (List.mem_of_getElem? hb) hn
    have hr : ∃ v, a0.eval (.tmp t) = v ∧ (Builtin.copy_ #[T, T] o.type #[v, .slice (some ⟨b, ob, none⟩) m cy]).run Tryd.prog w = .ok (goInt 0) w := by
      rcases hown with ⟨e, _⟩ | ⟨g, cap, cur, e, _, hg, _⟩
      · refine ⟨_, e, ?_⟩
        obtain ⟨i0, hi⟩ : ∃ i0, Tryd.prog.info? E = some i0 := by cases hq : Tryd.prog.info? E with | none => simp [hq] at hE | some i0 => exact ⟨i0, rfl⟩
        simp [Builtin.copy_, run_underlying hT, sizeOf, typeInfo, hi, Builtin.lenOf, Builtin.firstCells, loadCells, loadCellsFrom]
      · refine ⟨_, e, ?_⟩
        have := run_copy_row Tryd.prog w T T o.type E g 0 0 cap ⟨b, ob, none⟩ m cy cur E [] hT hE hg (by simp) (fun j v hv => by simp at hv) (by simp) (fun v hv => by simp at hv)
        rw [this]
        simp only [List.take_zero, List.nil_append, List.length_nil, Nat.zero_add, List.drop_zero, Array.toArray_toList]
        rw [setRow_self w g cur E (0, 0) hg]
        rfl
    obtain ⟨v, e, hr⟩ := hr
    rw [e] at hxv
    unfold execOp
    rw [hop]
    simp only [resolve, invoke, builtin, Sem.run_bind, Sem.run_pure, Result.andThen_ok, List.map_toArray, List.map_cons, List.map_nil, hxv, hyv, hr]
    rfl
theorem rep_step {α : Type} (x z : α) (h k m : Nat) (hk : k + m ≤ h) (hm : m ≤ k) : (List.replicate k x ++ List.replicate (h - k) z).take k ++ (List.replicate k x ++ List.replicate (h - k) z).take m ++ (List.replicate k x ++ List.replicate (h - k) z).drop (k + m) = List.replicate (k + m) x ++ List.replicate (h - (k + m)) z := by
  have e1 : (List.replicate k x ++ List.replicate (h - k) z).take k = List.replicate k x := by rw [List.take_append_of_le_length (by simp), List.take_of_length_le (by simp)]
  have e2 : (List.replicate k x ++ List.replicate (h - k) z).take m = List.replicate m x := by rw [List.take_append_of_le_length (by simp; omega), List.take_replicate, Nat.min_eq_left hm]
  have e3 : (List.replicate k x ++ List.replicate (h - k) z).drop (k + m) = List.replicate (h - (k + m)) z := by
    rw [List.drop_append, List.drop_of_length_le (by simp), List.length_replicate, List.drop_replicate]
    simp
    omega
  rw [e1, e2, e3, List.replicate_append_replicate]
end Go.Proofs.YtdhjgekbocnnkaaDoor
