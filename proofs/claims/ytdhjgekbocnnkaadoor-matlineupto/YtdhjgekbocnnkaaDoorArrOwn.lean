/-
  Rows of a call's own, by what is said of their elements: made, written in place, read, handed on.
-/
import Derived.Test.YtdhjgekbocnnkaaDoorArr
namespace Go.Proofs.YtdhjgekbocnnkaaDoor
open Go Go.RowKit Nt
set_option linter.unusedSimpArgs false
set_option linter.unusedVariables false
set_option maxRecDepth 20000

/-- The cells of these values, one behind the other. -/
def cellsOf (us : List Value) : List Value := us.flatMap (·.cells.toList)
theorem cellsOf_len {sz : Nat} : ∀ {us : List Value}, (∀ u ∈ us, Celv sz u) → (cellsOf us).length = us.length * sz
  | [], _ => by simp [cellsOf]
  | u :: r, h => by
    have h1 := (h u (by simp)).siz
    have h2 := cellsOf_len (us := r) (fun v hv => h v (by simp [hv]))
    have e : cellsOf (u :: r) = u.cells.toList ++ cellsOf r := rfl
    rw [e, List.length_append, h2]
    simp only [Array.length_toList, h1, List.length_cons, Nat.add_mul, Nat.one_mul]
    omega
theorem cellsOf_append (us vs : List Value) : cellsOf (us ++ vs) = cellsOf us ++ cellsOf vs := by simp [cellsOf]
theorem cellsOf_take {sz : Nat} {us : List Value} (h : ∀ u ∈ us, Celv sz u) (k : Nat) (hk : k ≤ us.length) : (cellsOf us).take (k * sz) = cellsOf (us.take k) := by
  have e : us = us.take k ++ us.drop k := (List.take_append_drop k us).symm
  have hl : (cellsOf (us.take k)).length = k * sz := by
    rw [cellsOf_len (sz := sz) (fun u hu => h u (List.mem_of_mem_take hu)), List.length_take, Nat.min_eq_left hk]
  conv => lhs; rw [e, cellsOf_append]
  rw [List.take_append_of_le_length (by omega), List.take_of_length_le (by omega)]
theorem cellsOf_drop {sz : Nat} {us : List Value} (h : ∀ u ∈ us, Celv sz u) (k : Nat) (hk : k ≤ us.length) : (cellsOf us).drop (k * sz) = cellsOf (us.drop k) := by
  have e : us = us.take k ++ us.drop k := (List.take_append_drop k us).symm
  have hl : (cellsOf (us.take k)).length = k * sz := by
    rw [cellsOf_len (sz := sz) (fun u hu => h u (List.mem_of_mem_take hu)), List.length_take, Nat.min_eq_left hk]
  conv => lhs; rw [e, cellsOf_append]
  rw [← hl, List.drop_left]
theorem cellsOf_get {sz : Nat} {us : List Value} (h : ∀ u ∈ us, Celv sz u) {k : Nat} {u : Value} (hk : us[k]? = some u) (j : Nat) (hj : j < sz) : (cellsOf us)[k * sz + j]? = u.cells[j]? := by
  have hlt := (List.getElem?_eq_some_iff.1 hk).1
  have h1 := cellsOf_drop h k (by omega)
  have : us.drop k = u :: us.drop (k + 1) := by
    rw [List.drop_eq_getElem_cons hlt]
    rw [(List.getElem?_eq_some_iff.1 hk).2]
  rw [this] at h1
  have h2 : ((cellsOf us).drop (k * sz))[j]? = (cellsOf us)[k * sz + j]? := by rw [List.getElem?_drop]
  rw [← h2, h1]
  have hs := (h u (List.mem_of_getElem? hk)).siz
  show (u.cells.toList ++ cellsOf _)[j]? = _
  rw [List.getElem?_append_left (by simp; omega)]
  simp
theorem cellsOf_inj {sz : Nat} (hz : 0 < sz) : ∀ {us vs : List Value}, (∀ u ∈ us, Celv sz u) → (∀ u ∈ vs, Celv sz u) → cellsOf us = cellsOf vs → us = vs
  | [], [], _, _, _ => rfl
  | [], v :: r, _, h, e => by
    have := (h v (by simp)).siz
    have h2 := congrArg List.length e
    rw [cellsOf_len h] at h2
    simp [cellsOf, Nat.add_mul] at h2
    omega
  | v :: r, [], h, _, e => by
    have h2 := congrArg List.length e
    rw [cellsOf_len h] at h2
    simp [cellsOf, Nat.add_mul] at h2
    omega
  | u :: r, v :: s, h, h', e => by
    have e' : u.cells.toList ++ cellsOf r = v.cells.toList ++ cellsOf s := e
    have h1 := (h u (by simp)).siz
    have h2 := (h' v (by simp)).siz
    obtain ⟨e1, e2⟩ := List.append_inj e' (by simp [h1, h2])
    rw [celv_inj (h u (by simp)) (h' v (by simp)) (Array.toList_inj.1 e1), cellsOf_inj hz (fun x hx => h x (by simp [hx])) (fun x hx => h' x (by simp [hx])) e2]

/-- Cells that hold values of which this is said, one by one. -/
def CE (sz : Nat) (φs : List Pr) : List Value → World → Prop := fun ys w => ∃ us, ys = cellsOf us ∧ us.length = φs.length ∧ (∀ u ∈ us, Celv sz u) ∧ ∀ (i : Nat) u φ, us[i]? = some u → φs[i]? = some φ → φ u w
theorem ce_nil {sz : Nat} : ∀ w, CE sz [] [] w := fun w => ⟨[], rfl, rfl, fun u h => by simp at h, fun i u φ h => by simp at h⟩
theorem ce_append {sz : Nat} {φs φs' : List Pr} : ∀ xs ys w, CE sz φs xs w → CE sz φs' ys w → CE sz (φs ++ φs') (xs ++ ys) w := by
  rintro xs ys w ⟨us, rfl, l1, c1, a1⟩ ⟨vs, rfl, l2, c2, a2⟩
  refine ⟨us ++ vs, (cellsOf_append us vs).symm, by simp [l1, l2], fun u hu => ?_, fun i u φ hu hφ => ?_⟩
  · rcases List.mem_append.1 hu with h | h
    · exact c1 u h
    · exact c2 u h
  · by_cases hi : i < us.length
    · rw [List.getElem?_append_left hi] at hu
      rw [List.getElem?_append_left (by omega)] at hφ
      exact a1 i u φ hu hφ
    · rw [List.getElem?_append_right (by omega)] at hu
      rw [List.getElem?_append_right (by omega), ← l1] at hφ
      exact a2 _ u φ hu hφ
theorem ce_imp {sz : Nat} {φs φs' : List Pr} (hl : φs'.length = φs.length) (h : ∀ (i : Nat) φ φ', φs[i]? = some φ → φs'[i]? = some φ' → ∀ v w, φ v w → φ' v w) : ∀ ys w, CE sz φs ys w → CE sz φs' ys w := fun ys w ⟨us, e, l, c, a⟩ =>
  ⟨us, e, l.trans hl.symm, c, fun i u φ' hu hφ' => by
    obtain ⟨φ, hφ⟩ : ∃ φ, φs[i]? = some φ := ⟨φs[i]'(by rw [← hl]; exact (List.getElem?_eq_some_iff.1 hφ').1), List.getElem?_eq_getElem _⟩
    exact h i φ φ' hφ hφ' u w (a i u φ hu hφ)⟩

/-- A list in new memory, and what its elements are. -/
def LF (sz n : Nat) (ψs : List (Nat → Pr)) : Nat → Pr := fun lo v w => Ar sz n (ψs.map (· lo)) v w ∧ ∀ b o n c, v = .slice (some ⟨b, o, none⟩) n c → lo ≤ b
theorem fresh_lf {sz n : Nat} {ψs : List (Nat → Pr)} (hz : 0 < sz) (h : ∀ (i : Nat) ψ, ψs[i]? = some ψ → Fresh ψ) : Fresh (LF sz n ψs) := by
  refine ⟨fun lo lo' v w hl ⟨⟨p, c, e, l, b, a⟩, hf⟩ => ⟨⟨p, c, e, by simpa using l, b, fun i φ hφ => ?_⟩, fun b o n c e => Nat.le_trans hl (hf b o n c e)⟩, fun lo v w w' B hB ⟨⟨p, c, e, l, hcc, a⟩, hf⟩ ev => ⟨⟨p, c, e, l, hcc, fun i φ hφ => ?_⟩, hf⟩⟩
  · rw [List.getElem?_map] at hφ
    cases hψ : ψs[i]? with
    | none => simp [hψ] at hφ
    | some ψ =>
      simp [hψ] at hφ
      subst hφ
      obtain ⟨b, o, u, e1, e2, e3, e4⟩ := a i (ψ lo) (by rw [List.getElem?_map, hψ]; rfl)
      exact ⟨b, o, u, e1, e2, e3, (h i ψ hψ).mono _ _ _ _ hl e4⟩
  · obtain ⟨b, o, u, e1, e2, e3, e4⟩ := a i φ hφ
    subst e1
    have hb := hf b o _ _ e
    refine ⟨b, o, u, rfl, fun j x hx => cell_ev' (e2 j x hx) (fun h => by have := hB b h; omega) ev, e3, ?_⟩
    rw [List.getElem?_map] at hφ
    cases hψ : ψs[i]? with
    | none => simp [hψ] at hφ
    | some ψ =>
      simp [hψ] at hφ
      subst hφ
      exact (h i ψ hψ).ev _ _ _ _ B hB e4 ev
theorem lf_ar {sz n : Nat} {ψs : List (Nat → Pr)} {lo : Nat} : ∀ v w, LF sz n ψs lo v w → Ar sz n (ψs.map (· lo)) v w := fun v w h => h.1
/-- A list in new memory as a list of weaker words. -/
theorem lf_to {sz n lo : Nat} {ψs : List (Nat → Pr)} {φs : List Pr} (hl : φs.length = ψs.length) (h : ∀ (i : Nat) ψ φ, ψs[i]? = some ψ → φs[i]? = some φ → ∀ v w, ψ lo v w → φ v w) : ∀ v w, LF sz n ψs lo v w → Ar sz n φs v w := fun v w hv =>
  ar_imp (by simp [hl]) (fun i φ φ' h1 h2 => by
    rw [List.getElem?_map] at h1
    cases hψ : ψs[i]? with
    | none => simp [hψ] at h1
    | some ψ =>
      simp [hψ] at h1
      subst h1
      exact h i ψ φ' hψ h2) v w hv.1
theorem lf_nil {sz : Nat} {lo : Nat} : ∀ w, LF sz 0 [] lo (.slice none 0 0) w := fun w => ⟨ar_nil w, fun b o n c e => by cases e⟩
theorem ce_count {sz n : Nat} {us : List Value} (hz : 0 < sz) (hcv : ∀ u ∈ us, Celv sz u) (hl : (cellsOf us).length = n * sz) : us.length = n := by
  rw [cellsOf_len hcv] at hl
  exact Nat.eq_of_mul_eq_mul_right hz hl
/-- The cells of an element of a row. -/
theorem row_cells {w : World} {sz n cap g E k : Nat} {cur : Array Value} {us : List Value} {u : Value} (hz : 0 < sz) (hcv : ∀ u ∈ us, Celv sz u) (hg : w.heap[g]? = some (.cells cur E (0, 0))) (htk : cur.toList.take (n * sz) = cellsOf us) (hn : us.length = n) (hk : us[k]? = some u) :
    ∀ (j : Nat) x, u.cells[j]? = some x → w.cell? ⟨g, sz * k + j, none⟩ = some x := fun j x hx => by
  have hlt := (List.getElem?_eq_some_iff.1 hk).1
  have hj : j < sz := by
    have := (Array.getElem?_eq_some_iff.1 hx).1
    rw [(hcv u (List.mem_of_getElem? hk)).siz] at this
    exact this
  have h1 := cellsOf_get hcv hk j hj
  have hlt' : k * sz + j < n * sz := by
    have : (k + 1) * sz ≤ n * sz := Nat.mul_le_mul_right _ (by omega)
    rw [Nat.add_mul] at this
    omega
  rw [← htk, List.getElem?_take, if_pos hlt', hx] at h1
  simp only [World.cell?, hg, Nat.mul_comm sz k]
  simpa using h1
theorem row_ar {sz n lo E : Nat} {φs : List Pr} (hz : 0 < sz) : ∀ v w ys, World.ownsRow w lo E sz v n ys → CE sz φs ys w → Ar sz n φs v w := by
  rintro v w ys ⟨hl, hown⟩ ⟨us, rfl, hul, hcv, hall⟩
  have hn := ce_count hz hcv hl
  rcases hown with ⟨rfl, h0⟩ | ⟨g, cap, cur, rfl, hg0, hg, hnc, hcm, hcs, htk⟩
  · subst h0
    refine ⟨none, 0, rfl, by rw [← hul]; exact hn, ⟨Nat.le_refl _, Nat.zero_le _, fun _ => rfl⟩, fun i φ hφ => ?_⟩
    have := (List.getElem?_eq_some_iff.1 hφ).1
    omega
  · refine ⟨_, cap, rfl, by rw [← hul]; exact hn, ⟨hnc, hcm, (fun e => by cases e)⟩, fun i φ hφ => ?_⟩
    have hlt := (List.getElem?_eq_some_iff.1 hφ).1
    obtain ⟨u, hu⟩ : ∃ u, us[i]? = some u := ⟨us[i]'(by omega), List.getElem?_eq_getElem _⟩
    refine ⟨g, 0, u, rfl, fun j x hx => ?_, (hcv u (List.mem_of_getElem? hu)).siz, hall i u φ hu hφ⟩
    rw [Nat.zero_add]
    exact row_cells (cap := cap) hz hcv hg htk hn hu j x hx
theorem row_lf {sz n lo E : Nat} {ψs : List (Nat → Pr)} (hz : 0 < sz) : ∀ v w ys, World.ownsRow w lo E sz v n ys → CE sz (ψs.map (· lo)) ys w → LF sz n ψs lo v w := by
  rintro v w ys hown hce
  refine ⟨row_ar hz v w ys hown hce, fun b o n c e => ?_⟩
  rcases hown.2 with ⟨rfl, h0⟩ | ⟨g, cap, cur, rfl, hg0, hg, hnc, hcm, hcs, htk⟩
  · cases e
  · cases e
    exact hg0

/-! Rows are made. -/
theorem made_cells {z : Value} {sz : Nat} (h : Celv sz z) (hz : 0 < sz) (n : Nat) : (madeCells z.cells (n * sz)).toList = cellsOf (List.replicate n z) := by
  have hcv : ∀ u ∈ List.replicate n z, Celv sz u := fun u hu => by rw [(List.mem_replicate.1 hu).2]; exact h
  apply List.ext_getElem?
  intro m
  by_cases hm : m < n * sz
  · have hk : m / sz < n := Nat.div_lt_of_lt_mul (by rw [Nat.mul_comm]; exact hm)
    have hj : m % sz < sz := Nat.mod_lt _ hz
    have e : m = (m / sz) * sz + m % sz := by rw [Nat.mul_comm]; exact (Nat.div_add_mod m sz).symm
    have h1 := cellsOf_get hcv (k := m / sz) (u := z) (by simp [List.getElem?_replicate, hk]) (m % sz) hj
    rw [← e] at h1
    rw [h1]
    have h2 := h.siz
    simp only [madeCells, Array.toList_map, List.getElem?_map, Array.toList_range, List.getElem?_range hm, Option.map_some, h2]
    rw [Array.getElem?_eq_getElem (by omega), getElem!_pos _ _ (by omega)]
  · rw [List.getElem?_eq_none (by simp [size_madeCells]; omega), List.getElem?_eq_none (by rw [cellsOf_len hcv]; simp; omega)]
section
variable {ops : Array Oper} {l : List Kd} {bx : Bxs} {sl : List (Tmp × Pr)} {i : Nat} {o : Oper} {Q : Exit → Act → World → Prop} {a0 : Act} {n0 : Nat} {w0 : World}
theorem owe_makeE {x : Operand} {T E sz bytes n : Nat} {z : Value} (ho : ops[i]? = some o) (hw : Wants ops l bx sl i o) (hop : o.op = .makeSlice T x x) (hT : Tryd.prog.underlying T = some (.slice E)) (hE : (Tryd.prog.info? E).map (fun i => (i.zero, i.size, i.bytes)) = some (some z, sz, bytes)) (hc : Celv sz z) (hz : 0 < sz) (hx : Opnd ops l bx sl i x (Is (.int .i64 (n : Nat)))) (hn : bytes * n ≤ 281474976710656 ∧ n ≤ maxLen) (hk : kdAt l i = .new (.row E sz n (CE sz (List.replicate n (Is z))))) : Owed Tryd.prog ops Q l bx sl a0 n0 w0 i := fun vs B a w c o' ho' => by
  obtain rfl : o = o' := Option.some.inj (ho.symm.trans ho')
  have hxv : a.eval x = .int .i64 (n : Nat) := (hx a0 n0 w0 vs B a w c).now
  obtain ⟨i0, hi, hz0, hz1, hz2⟩ := info_parts hE
  have hm : (n : Int) ≤ 9223372036854775807 := by have := hn.2; unfold maxLen at this; omega
  have hby : ((bytes * n : Nat) : Int) ≤ 281474976710656 := by have := hn.1; omega
  have hr := run_make (P := Tryd.prog) w T E i0 z hT hi hz0 .i64 .i64 n n (by omega) (Int.le_refl _) (by rw [hz2, ← Int.natCast_mul]; exact hby) hm
  have hb : Below w.heap.size w (w.alloc (.cells (madeCells z.cells (n * sz)) E)) := (Below.refl _ _).alloc (Nat.le_refl _) _
  have h : (execOp a.eval o).run Tryd.prog w = .ok (.value (.slice (some ⟨w.heap.size, 0, none⟩) n n)) (w.alloc (.cells (madeCells z.cells (n * sz)) E)) := by
    unfold execOp
    rw [hop]
    simp only [hxv, Sem.run_bind, hr, Result.andThen_ok, Sem.run_pure, Int.toNat_natCast, hz1]
  simp only [wpOp, ho]
  rw [if_pos (hw a0 n0 w0 vs B a w c)]
  refine Or.inl ?_
  unfold Oper.wp
  rw [h, Oper.upon_value]
  refine ⟨_, rfl, ?_⟩
  rw [hk]
  have hcv : ∀ u ∈ List.replicate n z, Celv sz u := fun u hu => by rw [(List.mem_replicate.1 hu).2]; exact hc
  refine ⟨hb, fun b hv => ?_, cellsOf (List.replicate n z), ⟨by rw [cellsOf_len hcv]; simp, Or.inr ⟨w.heap.size, n, _, rfl, c.lo, heap_alloc_last _ _, Nat.le_refl _, hn.2, size_madeCells _ _, ?_⟩⟩, fun b hv => Or.inr hv, fun w' _ => ⟨_, rfl, by simp, hcv, fun j u φ hu hφ => ?_⟩⟩
  · simp [Rk.set, vblock] at hv
    subst hv
    simp
  · rw [made_cells hc hz, List.take_of_length_le (by rw [cellsOf_len hcv]; simp)]
  · have h1 := List.mem_of_getElem? hu
    have h2 := List.mem_of_getElem? hφ
    rw [(List.mem_replicate.1 h1).2, (List.mem_replicate.1 h2).2]
    rfl

/-! Elements of a row of the call's own. -/
/-- A pointer at a cell of the row in slot t. -/
def REt (a0 : Act) (t off : Nat) : Pr := fun v _ => ∃ g n c, a0.eval (.tmp t) = .slice (some ⟨g, 0, none⟩) n c ∧ v = .pointer (some ⟨g, off, none⟩)
theorem owe_rindexE {x y : Operand} {T E sz t k n idx : Nat} {χ : List Value → World → Prop} (ho : ops[i]? = some o) (hw : Wants ops l bx sl i o) (hop : o.op = .indexAddr T x y) (hT : Idx T sz) (hx : Opnd ops l bx sl i x (Is (a0.eval (.tmp t)))) (hb : bx[k]? = some (t, .row E sz n χ)) (hn : unturned ops l i (.inl t) = true) (hy : Opnd ops l bx sl i y (Is (.int .i64 (idx : Nat)))) (hlt : idx < n) (hk : kdAt l i = .val (REt a0 t (sz * idx))) : Owed Tryd.prog ops Q l bx sl a0 n0 w0 i :=
  owe_val ho hw hk fun vs B a w c => by
    have hxv : a.eval x = a0.eval (.tmp t) := (hx a0 n0 w0 vs B a w c).now
    have hyv : a.eval y = .int .i64 (idx : Nat) := (hy a0 n0 w0 vs B a w c).now
    obtain ⟨xs, ⟨hl, hown⟩, _, _⟩ := c.box t _ (List.mem_of_getElem? hb) hn
    rcases hown with ⟨_, h0⟩ | ⟨g, cap, cur, e, _⟩
    · omega
    · rw [e] at hxv
      refine ⟨.pointer (some ⟨g, sz * idx, none⟩), ?_, fun _ _ => ⟨g, n, cap, e, rfl⟩⟩
      have := hT a.eval o x y w g 0 idx n cap hlt hxv hyv
      rw [Nat.zero_add] at this
      rw [← this]
      unfold execOp
      rw [hop]
theorem take_app3 (A B C : List Value) (m : Nat) (h : A.length + B.length ≤ m) : (A ++ (B ++ C)).take m = A ++ (B ++ C.take (m - (A.length + B.length))) := by
  rw [← List.append_assoc, ← List.append_assoc, List.take_append, List.take_of_length_le (by simp; omega)]
  simp
theorem setsFrom_list (vs : List Value) (o : Nat) (cur : Array Value) (h : o + vs.length ≤ cur.size) : (setsFrom cur o vs).toList = cur.toList.take o ++ vs ++ cur.toList.drop (o + vs.length) := by
  apply List.ext_getElem?
  intro k
  rw [Array.getElem?_toList, setsFrom_get vs o cur k h]
  by_cases h1 : k < o
  · rw [if_neg (by omega), List.append_assoc, List.getElem?_append_left (by simp; omega), List.getElem?_take, if_pos h1]
    simp
  · by_cases h2 : k < o + vs.length
    · rw [if_pos (by omega), List.append_assoc, List.getElem?_append_right (by simp; omega), List.getElem?_append_left (by simp; omega)]
      congr 1
      simp
      omega
    · rw [if_neg (by omega), List.getElem?_append_right (by simp; omega), List.getElem?_drop]
      simp only [List.length_append, List.length_take, Array.length_toList]
      rw [show o + vs.length + (k - (min o cur.size + vs.length)) = k from by omega]
      simp
theorem owe_rstoreE {x y : Operand} {E sz t k n idx : Nat} {φs : List Pr} {ψ : Pr} (ho : ops[i]? = some o) (hw : Wants ops l bx sl i o) (hop : o.op = .store E x y) (hE : Sto E sz) (hz : 0 < sz) (hx : Opnd ops l bx sl i x (REt a0 t (sz * idx))) (hb : bx[k]? = some (t, .row E sz n (CE sz φs))) (hn : unturned ops l i (.inl t) = true) (hy : Opnd ops l bx sl i y ψ) (hc : Cel sz ψ) (hlt : idx < n) (hk : kdAt l i = .put (.inl t) (.row E sz n (CE sz (φs.set idx ψ)))) : Owed Tryd.prog ops Q l bx sl a0 n0 w0 i := fun vs B a w c o' ho' => by
  obtain rfl : o = o' := Option.some.inj (ho.symm.trans ho')
  obtain ⟨g, n', cap', hg0, hxv⟩ := (hx a0 n0 w0 vs B a w c).now
  have hyv := hy a0 n0 w0 vs B a w c
  have hcy := hc _ _ hyv.now
  obtain ⟨zs, ⟨hl, hown⟩, hB, hχ⟩ := c.box t _ (List.mem_of_getElem? hb) hn
  obtain ⟨us, rfl, hul, hcv, hall⟩ := hχ w (Ev.refl _ _)
  have hun := ce_count hz hcv hl
  rcases hown with ⟨_, h0⟩ | ⟨g', cap, cur, e, hlo, hg, hnc, hcm, hcs, htk⟩
  · omega
  rw [hg0] at e
  simp only [Value.slice.injEq, Option.some.injEq, Addr.mk.injEq] at e
  obtain ⟨⟨rfl, _⟩, rfl, rfl⟩ := e
  have hBg : B g := hB g (by rw [hg0]; rfl)
  have hfit : (idx + 1) * sz ≤ n' * sz := Nat.mul_le_mul_right _ hlt
  have hfit2 : n' * sz ≤ cap' * sz := Nat.mul_le_mul_right _ hnc
  rw [Nat.add_mul, Nat.one_mul] at hfit
  have hthere : w.there g (sz * idx) sz := fun j hj => by
    refine ⟨?_, by simp [World.frozen?, hg]⟩
    simp only [World.cell?, hg]
    rw [Nat.mul_comm sz idx]
    simp [show idx * sz + j < cur.size from by omega]
  have hlenu : (a.eval y).cells.toList.length = sz := by simp [hcy.siz]
  have h : (execOp a.eval o).run Tryd.prog w = .ok .skip (w.setRow g (setsFrom cur (sz * idx) (a.eval y).cells.toList)) := by
    rw [← setCells_row g _ _ w cur hg, ← hE a.eval o x y w g (sz * idx) _ hcy hthere hxv rfl]
    unfold execOp
    rw [hop]
  simp only [wpOp, ho]
  rw [if_pos (hw a0 n0 w0 vs B a w c)]
  refine Or.inl ?_
  unfold Oper.wp
  rw [h, Oper.upon_skip]
  refine ⟨undef, rfl, ?_⟩
  rw [hk]
  have hcv' : ∀ u ∈ us.set idx (a.eval y), Celv sz u := fun u hu => by
    rcases List.mem_or_eq_of_mem_set hu with h | h
    · exact hcv u h
    · rw [h]; exact hcy
  have hsl := setsFrom_list (a.eval y).cells.toList (sz * idx) cur (by rw [hlenu, Nat.mul_comm]; omega)
  have hev : ∀ w', Ev B (w.setRow g (setsFrom cur (sz * idx) (a.eval y).cells.toList)) w' → Ev B w w' := fun w' ev => (show Ev B w (w.setRow g (setsFrom cur (sz * idx) (a.eval y).cells.toList)) from ⟨rfl, rfl, rfl, Nat.le_of_eq (setRow_size _ _ _).symm, fun k _ hn' => setRow_other _ _ _ _ (fun e => hn' (e ▸ hBg))⟩).back (fun _ _ h => h) ev
  refine out_put (x := .inl t) (List.mem_of_getElem? hb) rfl rfl ⟨rfl, rfl, rfl, Nat.le_of_eq (setRow_size _ _ _).symm, fun k _ hn' => setRow_other _ _ _ _ (fun e => hn' (by show vblock (a0.eval (.tmp t)) = _; rw [hg0, e]; rfl))⟩ ⟨cellsOf (us.set idx (a.eval y)), ⟨?_, Or.inr ⟨g, cap', _, hg0, hlo, setRow_heap w _ _ _ _ _ hg, hnc, hcm, ?_, ?_⟩⟩, hB, fun w' ev => ?_⟩
  · rw [cellsOf_len hcv', List.length_set, hun]
  · have := congrArg List.length hsl
    simp only [Array.length_toList, List.length_append, List.length_take, List.length_drop] at this
    rw [this]
    have := hcy.siz
    rw [Nat.mul_comm sz idx]
    omega
  · rw [hsl, hlenu, Nat.mul_comm sz idx]
    have t1 : cur.toList.take (idx * sz) = cellsOf (us.take idx) := by
      rw [← cellsOf_take hcv idx (by omega), ← htk, List.take_take, Nat.min_eq_left (by omega)]
    have t2 : (cur.toList.drop (idx * sz + sz)).take (n' * sz - (idx * sz + sz)) = cellsOf (us.drop (idx + 1)) := by
      rw [← cellsOf_drop hcv (idx + 1) (by omega), ← htk, List.drop_take, Nat.add_mul, Nat.one_mul]
    rw [List.set_eq_take_append_cons_drop, if_pos (by omega), cellsOf_append, List.append_assoc, t1]
    have e1 : cellsOf (a.eval y :: us.drop (idx + 1)) = (a.eval y).cells.toList ++ cellsOf (us.drop (idx + 1)) := rfl
    have l1 : (cellsOf (us.take idx)).length = idx * sz := by rw [← t1]; simp; omega
    rw [e1, take_app3 _ _ _ _ (by rw [l1, hlenu]; omega), l1, hlenu, t2]
  · obtain ⟨us', e', hul', hcv2, hall'⟩ := hχ w' (hev w' ev)
    have : us' = us := cellsOf_inj hz hcv2 hcv e'.symm
    subst this
    refine ⟨_, rfl, by simp [hul], hcv', fun j u φ hu hφ => ?_⟩
    by_cases hj : j = idx
    · subst hj
      rw [List.getElem?_set_self (by omega)] at hu hφ
      cases hu
      cases hφ
      exact hyv w' (hev w' ev)
    · rw [List.getElem?_set_ne (Ne.symm hj)] at hu hφ
      exact hall' j u φ hu hφ
theorem owe_rloadE {x : Operand} {E sz t k n idx : Nat} {φs : List Pr} {φ : Pr} (ho : ops[i]? = some o) (hw : Wants ops l bx sl i o) (hop : o.op = .load E x) (hE : Ldr E sz) (hz : 0 < sz) (hx : Opnd ops l bx sl i x (REt a0 t (sz * idx))) (hb : bx[k]? = some (t, .row E sz n (CE sz φs))) (hn : unturned ops l i (.inl t) = true) (hφ : φs[idx]? = some φ) (hk : kdAt l i = .val φ) : Owed Tryd.prog ops Q l bx sl a0 n0 w0 i :=
  owe_val ho hw hk fun vs B a w c => by
    obtain ⟨g, n', cap', hg0, hxv⟩ := (hx a0 n0 w0 vs B a w c).now
    obtain ⟨zs, ⟨hl, hown⟩, hB, hχ⟩ := c.box t _ (List.mem_of_getElem? hb) hn
    obtain ⟨us, rfl, hul, hcv, hall⟩ := hχ w (Ev.refl _ _)
    have hun := ce_count hz hcv hl
    have hlt := (List.getElem?_eq_some_iff.1 hφ).1
    rcases hown with ⟨_, h0⟩ | ⟨g', cap, cur, e, hlo, hg, hnc, hcm, hcs, htk⟩
    · omega
    rw [hg0] at e
    simp only [Value.slice.injEq, Option.some.injEq, Addr.mk.injEq] at e
    obtain ⟨⟨rfl, _⟩, rfl, rfl⟩ := e
    obtain ⟨u, hu⟩ : ∃ u, us[idx]? = some u := ⟨us[idx]'(by omega), List.getElem?_eq_getElem _⟩
    refine ⟨u, ?_, fun w' ev => ?_⟩
    · rw [← hE a.eval o x w g (sz * idx) u (hcv u (List.mem_of_getElem? hu)) (row_cells (cap := cap') hz hcv hg htk hun hu) hxv]
      unfold execOp
      rw [hop]
    · obtain ⟨us', e', hul', hcv2, hall'⟩ := hχ w' ev
      have : us' = us := cellsOf_inj hz hcv2 hcv e'.symm
      subst this
      exact hall' idx u φ hu hφ
end
/-- A box that is written no more becomes a pointer at what it holds. -/
theorem Sta.freezeBox {w0 W : World} {n : Nat} {bx bx' : Bxs} {sl : List (Tmp × Pr)} {B : Nat → Prop} {a : Act} (S : Sta w0 n bx sl B a W) (k : Nat) {t T sz : Nat} {φ : Pr} (h : bx[k]? = some (t, .box T φ)) (hs : ∀ x ∈ bx', x ∈ bx ∧ x.1 ≠ t) (hc : Cel sz φ) :
    Sta w0 n bx' ((t, AtE sz φ) :: sl) (fun j => B j ∧ vblock (a.eval (.tmp t)) ≠ some j) a W := by
  have hm := List.mem_of_getElem? h
  obtain ⟨g, u, hp, hBg, hu, hφ⟩ := S.box _ hm
  have sub : ∀ w', Ev (fun j => B j ∧ vblock (a.eval (.tmp t)) ≠ some j) W w' → Ev B W w' := fun w' e => ⟨e.os, e.tape, e.output, e.size, fun k hk hn => e.block k hk (fun h' => hn h'.1)⟩
  refine ⟨S.ent, fun k hk => S.bnd k hk.1, S.siz, S.dfr, fun x hx => ?_, fun x hx y hy => S.sep x (hs x hx).1 y (hs y hy).1, fun x hx => ?_⟩
  · obtain ⟨hx1, hx2⟩ := hs x hx
    have hat := S.box x hx1
    have hin : ∀ b, x.2.set (a.eval (.tmp x.1)) b → B b ∧ vblock (a.eval (.tmp t)) ≠ some b := fun b hb => ⟨(Rk.inB hat hb).1, fun h' => hx2 (S.sep x hx1 _ hm b hb h')⟩
    obtain ⟨xt, xr⟩ := x
    cases xr with
    | own S0 e0 χ0 =>
      obtain ⟨C, h1, h2⟩ := hat
      exact ⟨C, fun b hb => ⟨hin b hb, (h1 b hb).2⟩, fun w' e => h2 w' (sub w' e)⟩
    | box T ψ =>
      obtain ⟨b, u, h1, h2, h3, h4⟩ := hat
      exact ⟨b, u, h1, hin b (by show vblock (a.eval (.tmp xt)) = _; rw [h1]; rfl), h3, fun w' e => h4 w' (sub w' e)⟩
    | row e' s' n'' χ' =>
      obtain ⟨ys, h1, h2, h3⟩ := hat
      exact ⟨ys, h1, hin, fun w' e => h3 w' (sub w' e)⟩
  · rcases List.mem_cons.1 hx with rfl | hx
    · intro w' ew
      have hφ' := hφ w' (sub w' ew)
      have hg' : w'.heap[g]? = some (.cells u.cells T (0, 0)) := (ew.block g (Array.getElem?_eq_some_iff.1 hu).1 (fun h' => h'.2 (by show vblock (a.eval (.tmp t)) = _; rw [hp]; rfl))).trans hu
      refine ⟨g, 0, u, hp, fun j x hx => ?_, (hc _ _ hφ').siz, hφ'⟩
      simp only [World.cell?, hg', Nat.zero_add]
      simpa using hx
    · exact fun w' e => S.slt x hx w' (sub w' e)
end Go.Proofs.YtdhjgekbocnnkaaDoor
