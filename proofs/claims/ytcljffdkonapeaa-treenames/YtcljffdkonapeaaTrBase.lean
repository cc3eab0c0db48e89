/-
  Layer 11: the struct of a tree, its rules; lists of rationals that come in.
-/
import Derived.Test.YtcljffdkonapeaaFieldsX
import Derived.Test.YtcljffdkonapeaaGsD
import Derived.Test.YtcljffdkonapeaaGsA
namespace Go.Proofs.Ytcljffdkonapeaa
open Go Go.RowKit Nt
set_option linter.unusedSimpArgs false
set_option linter.unusedVariables false

/-- The data's two lists, the target's list, the bound. -/
def TR (pd pl pt pr : Pr) : Pr := fun v w => ∃ x y t a b c d, v = .agg #[x, y, t, a, b, c, d] ∧ (#[x, y, t, a, b, c, d] : Array Value).all (·.oneCell') = true ∧ pd x w ∧ pl y w ∧ pt t w ∧ pr (.agg #[a, b, c, d]) w
theorem shp_tr {pd pl pt pr : Pr} : Shp 7 (TR pd pl pt pr) := fun u w ⟨x, y, t, a, b, c, d, e, h, _⟩ => ⟨_, e, rfl, h⟩
theorem shp_t0 : Shp 7 (Is (.agg #[.slice none 0 0, .slice none 0 0, .slice none 0 0, .bool false, .slice none 0 0, .bool false, .slice none 0 0])) := fun u w h => ⟨_, h, rfl, by simp [Value.oneCell']⟩
theorem tr_imp {pd pl pt pz pd' pl' pt' pz' : Pr} (h1 : ∀ v w, pd v w → pd' v w) (h2 : ∀ v w, pl v w → pl' v w) (h3 : ∀ v w, pt v w → pt' v w) (h4 : ∀ v w, pz v w → pz' v w) : ∀ v w, TR pd pl pt pz v w → TR pd' pl' pt' pz' v w :=
  fun v w ⟨x, y, t, p, q, p', q', e, h, a, b, c, d⟩ => ⟨x, y, t, p, q, p', q', e, h, h1 _ _ a, h2 _ _ b, h3 _ _ c, h4 _ _ d⟩
theorem strct_tree : Strct 35 7 := ⟨⟨_, Try.underlying35, rfl⟩, by kernel_rfl⟩
theorem alloc_tree (ρ : Operand → Value) (o : Oper) (w : World) : (execOp ρ { o with op := .alloc 35 }).run Try.prog w = .ok (.value (.pointer (some ⟨w.heap.size, 0, none⟩))) (w.alloc (.cells (Value.agg #[.slice none 0 0, .slice none 0 0, .slice none 0 0, .bool false, .slice none 0 0, .bool false, .slice none 0 0]).cells 35 (0, 0))) := by
  unfold execOp
  go_simp
theorem box_tree {φ : Pr} (h : Shp 7 φ) (ρ : Operand → Value) (o : Oper) (x : Operand) (w : World) (hφ : φ (ρ x) w) : (execOp ρ { o with op := .box 35 x }).run Try.prog w = .ok (.value (.pointer (some ⟨w.heap.size, 0, none⟩))) (w.alloc (.cells (ρ x).cells 35 (0, 0))) := by
  obtain ⟨cs, e, h1, h2⟩ := h _ _ hφ
  unfold execOp
  rw [e]
  go_simp
theorem part_tree0 (ρ : Operand → Value) (o : Oper) (x : Operand) (w : World) (b f : Nat) (h : ρ x = .pointer (some ⟨b, f, none⟩)) : (execOp ρ { o with op := .fieldAddr 35 x 0 }).run Try.prog w = .ok (.value (.pointer (some ⟨b, f, none⟩))) w := by
  unfold execOp
  go_simp
theorem part_tree1 (ρ : Operand → Value) (o : Oper) (x : Operand) (w : World) (b f : Nat) (h : ρ x = .pointer (some ⟨b, f, none⟩)) : (execOp ρ { o with op := .fieldAddr 35 x 1 }).run Try.prog w = .ok (.value (.pointer (some ⟨b, f + 2, none⟩))) w := by
  unfold execOp
  go_simp
theorem part_tree2 (ρ : Operand → Value) (o : Oper) (x : Operand) (w : World) (b f : Nat) (h : ρ x = .pointer (some ⟨b, f, none⟩)) : (execOp ρ { o with op := .fieldAddr 35 x 2 }).run Try.prog w = .ok (.value (.pointer (some ⟨b, f + 3, none⟩))) w := by
  unfold execOp
  go_simp
/-- A struct that lies in the midst of a block. -/
theorem load_midS {T n : Nat} (hS : Strct T n) {ρ : Operand → Value} {o : Oper} {x : Operand} {w : World} {b off : Nat} {xs : List Value} (hx : ρ x = .pointer (some ⟨b, off, none⟩)) (hn : xs.length = n) (h0 : ∀ (j : Nat) v, xs[j]? = some v → w.cell? ⟨b, off + j, none⟩ = some v) :
    (execOp ρ { o with op := .load T x }).run Try.prog w = .ok (.value (.agg xs.toArray)) w := by
  obtain ⟨⟨d, hu, hd⟩, hi⟩ := hS
  unfold execOp
  simp only [hx, Sem.run_bind, run_loadAt_mid (P := Try.prog) w b off T xs d h0 hu hd (by rw [hi, hn]), Result.andThen_ok, Sem.run_pure]
theorem pload_tr0 {pd pl pt pr : Pr} (ρ : Operand → Value) (o : Oper) (x : Operand) (w : World) (b : Nat) (u : Value) (hφ : TR pd pl pt pr u w) (hx : ρ x = .pointer (some ⟨b, 0, none⟩)) (hb : w.heap[b]? = some (.cells u.cells 35 (0, 0))) :
    ∃ v, (execOp ρ { o with op := .load 27 x }).run Try.prog w = .ok (.value v) w ∧ ∀ w', TR pd pl pt pr u w' → SF [pd, pl] v w' := by
  obtain ⟨x0, x1, x2, x3, x4, x5, x6, rfl, ho, _⟩ := hφ
  refine ⟨.agg #[x0, x1], load_midS strct_gso (xs := [x0, x1]) hx rfl (fun j v hv => ?_), fun w' ⟨y0, y1, y2, y3, y4, y5, y6, e, ha, h1, h2, _⟩ => ?_⟩
  · match j, hv with
    | 0, hv => simp at hv; subst hv; exact (cell_of hb).trans rfl
    | 1, hv => simp at hv; subst hv; exact (cell_of hb).trans rfl
    | j + 2, hv => simp at hv
  · simp at e
    obtain ⟨rfl, rfl, _⟩ := e
    simp only [List.all_toArray, List.all_cons, Bool.and_eq_true] at ha
    refine ⟨_, rfl, rfl, by simp [ha.1, ha.2.1], fun f p hf => ?_⟩
    match f, hf with
    | 0, hf => simp at hf; subst hf; exact ⟨_, rfl, h1⟩
    | 1, hf => simp at hf; subst hf; exact ⟨_, rfl, h2⟩
    | f + 2, hf => simp at hf
theorem pload_tr1 {pd pl pt pr : Pr} (ρ : Operand → Value) (o : Oper) (x : Operand) (w : World) (b : Nat) (u : Value) (hφ : TR pd pl pt pr u w) (hx : ρ x = .pointer (some ⟨b, 1, none⟩)) (hb : w.heap[b]? = some (.cells u.cells 35 (0, 0))) :
    ∃ v, (execOp ρ { o with op := .load 25 x }).run Try.prog w = .ok (.value v) w ∧ ∀ w', TR pd pl pt pr u w' → pl v w' := by
  obtain ⟨x0, x1, x2, x3, x4, x5, x6, rfl, ho, _⟩ := hφ
  refine ⟨x1, load1_mat ρ w o x b 1 x1 hx ((cell_of hb).trans rfl), fun w' ⟨y0, y1, y2, y3, y4, y5, y6, e, _, _, h, _⟩ => ?_⟩
  simp at e
  rw [e.2.1]
  exact h
theorem pload_tr2 {pd pl pt pr : Pr} (ρ : Operand → Value) (o : Oper) (x : Operand) (w : World) (b : Nat) (u : Value) (hφ : TR pd pl pt pr u w) (hx : ρ x = .pointer (some ⟨b, 2, none⟩)) (hb : w.heap[b]? = some (.cells u.cells 35 (0, 0))) :
    ∃ v, (execOp ρ { o with op := .load 28 x }).run Try.prog w = .ok (.value v) w ∧ ∀ w', TR pd pl pt pr u w' → pt v w' := by
  obtain ⟨x0, x1, x2, x3, x4, x5, x6, rfl, ho, _⟩ := hφ
  refine ⟨x2, load1_qvec ρ w o x b 2 x2 hx ((cell_of hb).trans rfl), fun w' ⟨y0, y1, y2, y3, y4, y5, y6, e, _, _, _, h, _⟩ => ?_⟩
  simp at e
  rw [e.2.2.1]
  exact h
theorem pload_tr3 {pd pl pt pr : Pr} (ρ : Operand → Value) (o : Oper) (x : Operand) (w : World) (b : Nat) (u : Value) (hφ : TR pd pl pt pr u w) (hx : ρ x = .pointer (some ⟨b, 3, none⟩)) (hb : w.heap[b]? = some (.cells u.cells 35 (0, 0))) :
    ∃ v, (execOp ρ { o with op := .load 33 x }).run Try.prog w = .ok (.value v) w ∧ ∀ w', TR pd pl pt pr u w' → pr v w' := by
  obtain ⟨x0, x1, x2, x3, x4, x5, x6, rfl, ho, _⟩ := hφ
  refine ⟨.agg #[x3, x4, x5, x6], load_midS strct_rat (xs := [x3, x4, x5, x6]) hx rfl (fun j v hv => ?_), fun w' ⟨y0, y1, y2, y3, y4, y5, y6, e, _, _, _, _, h⟩ => ?_⟩
  · match j, hv with
    | 0, hv => simp at hv; subst hv; exact (cell_of hb).trans rfl
    | 1, hv => simp at hv; subst hv; exact (cell_of hb).trans rfl
    | 2, hv => simp at hv; subst hv; exact (cell_of hb).trans rfl
    | 3, hv => simp at hv; subst hv; exact (cell_of hb).trans rfl
    | j + 4, hv => simp at hv
  · simp at e
    rw [e.2.2.2.1, e.2.2.2.2.1, e.2.2.2.2.2.1, e.2.2.2.2.2.2]
    exact h
theorem pload_trn {pd pl pt φ ψ : Pr} (ρ : Operand → Value) (o : Oper) (x : Operand) (w : World) (b : Nat) (u : Value) (hφ : TR pd pl pt (PR φ ψ) u w) (hx : ρ x = .pointer (some ⟨b, 3, none⟩)) (hb : w.heap[b]? = some (.cells u.cells 35 (0, 0))) :
    ∃ v, (execOp ρ { o with op := .load 31 x }).run Try.prog w = .ok (.value v) w ∧ ∀ w', TR pd pl pt (PR φ ψ) u w' → φ v w' := by
  obtain ⟨x0, x1, x2, x3, x4, x5, x6, rfl, ho, _⟩ := hφ
  refine ⟨.agg #[x3, x4], load_mid hx ((cell_of hb).trans rfl) ((cell_of hb).trans rfl), fun w' ⟨y0, y1, y2, y3, y4, y5, y6, e, _, _, _, _, h⟩ => ?_⟩
  obtain ⟨a0, a1, b0, b1, e', ha, _⟩ := h
  simp at e e'
  rw [e.2.2.2.1, e.2.2.2.2.1, e'.1, e'.2.1]
  exact ha
/-- A list of rationals that came in, by worth. -/
abbrev QV (n : Nat) (ts : List (Int × Int)) (k : Nat) : Pr := Ar 4 n (ts.map (fun t => PR (Zv t.1 k) (Zv t.2 k)))
theorem nil_qv {k : Nat} : ∀ v w, Is (.slice none 0 0) v w → QV 0 [] k v w := fun v w h => ⟨none, 0, h, rfl, ⟨Nat.le_refl _, by unfold maxLen; omega, fun _ => rfl⟩, fun i φ hφ => by simp at hφ⟩
theorem qv_at {ts : List (Int × Int)} {k i : Nat} (h : i < ts.length) : (ts.map (fun t => PR (Zv t.1 k) (Zv t.2 k)))[i]? = some (PR (Zv (ts.getD i (0, 0)).1 k) (Zv (ts.getD i (0, 0)).2 k)) := by
  rw [List.getElem?_map, List.getElem?_eq_getElem h, List.getD_eq_getElem?_getD, List.getElem?_eq_getElem h]
  rfl
section
variable {ops : Array Oper} {l : List Kd} {bx : Bxs} {sl : List (Tmp × Pr)} {i : Nat} {o : Oper} {Q : Exit → Act → World → Prop} {a0 : Act} {n : Nat} {w0 : World}
/-- The struct is made of its data and its bound. -/
theorem owe_build_tr {x z : Operand} {pd pl pr : Pr} (ho : ops[i]? = some o) (hw : Wants ops l bx sl i o) (hop : o.op = .build 35 #[(0, x), (2, z)]) (hx : Opnd ops l bx sl i x (SF [pd, pl])) (hz : Opnd ops l bx sl i z pr) (hS : Shp 4 pr) (hk : kdAt l i = .val (TR pd pl (Is (.slice none 0 0)) pr)) : Owed Try.prog ops Q l bx sl a0 n w0 i :=
  owe_val ho hw hk fun vs B a w c => by
    have h1 := hx a0 n w0 vs B a w c
    have h3 := hz a0 n w0 vs B a w c
    obtain ⟨cs, e1, c1, c2, _⟩ := id h1.now
    obtain ⟨ds, e3, d1, d2⟩ := hS _ _ h3.now
    match cs, c1, e1, c2 with
    | ⟨[x0, x1]⟩, _, e1, c2 =>
      match ds, d1, e3, d2 with
      | ⟨[z0, z1, z2, z3]⟩, _, e3, d2 =>
        have c3 : x0.oneCell' = true ∧ x1.oneCell' = true := by simpa using c2
        have d3 : z0.oneCell' = true ∧ z1.oneCell' = true ∧ z2.oneCell' = true ∧ z3.oneCell' = true := by simpa using d2
        have hall : (#[x0, x1, .slice none 0 0, z0, z1, z2, z3] : Array Value).all (·.oneCell') = true := by
          have hone : (Value.slice none 0 0).oneCell' = true := rfl
          simp at ⊢
          exact ⟨c3.1, c3.2, hone, d3.1, d3.2.1, d3.2.2.1, d3.2.2.2⟩
        refine ⟨.agg #[x0, x1, .slice none 0 0, z0, z1, z2, z3], ?_, fun w' e' => ⟨x0, x1, _, z0, z1, z2, z3, rfl, hall, ?_, ?_, rfl, e3 ▸ h3 w' e'⟩⟩
        · unfold execOp
          rw [hop]
          clear h1 h3 hx hz hall c2 d2
          generalize a.eval = ρ at e1 e3
          obtain ⟨c4, c5⟩ := c3
          obtain ⟨d4, d5, d6, d7⟩ := d3
          go_simp
        · obtain ⟨cs', e4, _, _, h4⟩ := h1 w' e'
          rw [e1] at e4
          simp at e4
          subst e4
          obtain ⟨u, hu, hp⟩ := h4 0 _ rfl
          simp at hu
          subst hu
          exact hp
        · obtain ⟨cs', e4, _, _, h4⟩ := h1 w' e'
          rw [e1] at e4
          simp at e4
          subst e4
          obtain ⟨u, hu, hp⟩ := h4 1 _ rfl
          simp at hu
          subst hu
          exact hp
theorem owe_build_t0 (ho : ops[i]? = some o) (hw : Wants ops l bx sl i o) (hop : o.op = .build 35 #[]) (hk : kdAt l i = .val (TR (Is (.slice none 0 0)) (Is (.slice none 0 0)) (Is (.slice none 0 0)) (PR zI zI))) : Owed Try.prog ops Q l bx sl a0 n w0 i :=
  owe_val ho hw hk fun vs B a w c => by
    refine ⟨.agg #[.slice none 0 0, .slice none 0 0, .slice none 0 0, .bool false, .slice none 0 0, .bool false, .slice none 0 0], ?_, fun w' e' => ⟨_, _, _, _, _, _, _, rfl, by simp [Value.oneCell'], rfl, rfl, rfl, ⟨_, _, _, _, rfl, rfl, rfl⟩⟩⟩
    unfold execOp
    rw [hop]
    go_simp
/-- A list of none. -/
theorem owe_lit0 {T E sz : Nat} (ho : ops[i]? = some o) (hw : Wants ops l bx sl i o) (hop : o.op = .buildSlice T 0 #[]) (hB : Bld0 T E) (hz : 0 < sz) (hk : kdAt l i = .val (LF sz 0 [] w0.heap.size)) : Owed Try.prog ops Q l bx sl a0 n w0 i :=
  owe_grow ho hw hk fun vs B a w c => by
    obtain ⟨b1, b2⟩ := lit_lf c (E := E) (n := 0) (us := []) (ψs := []) hz rfl (by unfold maxLen; omega) rfl (by intro u hu; simp at hu) (fun j u ψ hu hψ => by simp at hu)
    refine ⟨_, _, ?_, b1, b2⟩
    rw [show (cellsOf ([] : List Value)).toArray = #[] from rfl, ← hB a.eval o w]
    unfold execOp
    rw [hop]
/-- The data are made of their lists. -/
theorem owe_build_gv {x y : Operand} {pd pl : Pr} (ho : ops[i]? = some o) (hw : Wants ops l bx sl i o) (hop : o.op = .build 27 #[(0, x), (1, y)]) (hx : Opnd ops l bx sl i x pd) (hy : Opnd ops l bx sl i y pl) (h1 : ∀ v w, pd v w → ∃ p m c, v = .slice p m c) (h2 : ∀ v w, pl v w → ∃ p m c, v = .slice p m c) (hk : kdAt l i = .val (SF [pd, pl])) : Owed Try.prog ops Q l bx sl a0 n w0 i :=
  owe_val ho hw hk fun vs B a w cx => by
    have hX := hx a0 n w0 vs B a w cx
    have hY := hy a0 n w0 vs B a w cx
    obtain ⟨p, m, c, e1⟩ := h1 _ _ hX.now
    obtain ⟨p', m', c', e2⟩ := h2 _ _ hY.now
    refine ⟨.agg #[a.eval x, a.eval y], ?_, fun w' ev => ⟨_, rfl, rfl, by simp [e1, e2, Value.oneCell'], fun f q hq => ?_⟩⟩
    · unfold execOp
      rw [hop]
      clear hX hY hx hy
      generalize a.eval = ρ at e1 e2
      go_simp
    · match f, hq with
      | 0, hq => simp at hq; subst hq; exact ⟨_, rfl, hX w' ev⟩
      | 1, hq => simp at hq; subst hq; exact ⟨_, rfl, hY w' ev⟩
      | f + 2, hq => simp at hq
end
end Go.Proofs.Ytcljffdkonapeaa
