import Derived.Test.YtnhfpekpdephjaaGreatVcA
import Derived.Test.YtnhfpekpdephjaaGreatGsD
import Derived.Test.YtnhfpekpdephjaaGreatHxA
import Derived.Test.YtnhfpekpdephjaaGreatGsA
/-
 Lists of rationals, and lists of such lists: read, made, grown.
-/
namespace Go.Proofs.YtnhfpekpdephjaaGreat
open Go Go.RowKit Nt
set_option linter.unusedSimpArgs false
set_option linter.unusedVariables false
set_option maxRecDepth 20000

theorem idx_rats : Idx 30 4 := fun ρ o x y w b k i n c hi hx hy => by
 unfold execOp
 go_simp
theorem ldr_rat4 : Ldr 35 4 := ldr_strct (by decide) strct_rat
theorem bld_rat4 : Bld 30 35 4 := fun ρ o x w u hu hx => by
 have e := hu.of
 rw [ofCells, if_neg (by decide)] at e
 obtain ⟨l, hl⟩ : ∃ l, u.cells = ⟨l⟩ := ⟨u.cells.toList, by simp⟩
 have hs := hu.siz
 have ho := hu.one
 rw [hl] at e hs ho ⊢
 match l, hs with
 | [y, z, y', z'], _ =>
  clear hu hl
  subst e
  simp at ho
  obtain ⟨h1, h2, h3, h4⟩ := ho
  unfold execOp
  go_simp
end Go.Proofs.YtnhfpekpdephjaaGreat

/-
 Rows known by their handles that grow; structs of lists of rationals.
-/
namespace Go.Proofs.YtnhfpekpdephjaaGreat
open Go Go.RowKit Nt
set_option linter.unusedSimpArgs false
set_option linter.unusedVariables false
set_option maxRecDepth 20000

section
variable {ops : Array Oper} {l : List Kd} {bx : Bxs} {sl : List (Tmp × Pr)} {i : Nat} {o : Oper} {Q : Exit → Act → World → Prop} {a0 : Act} {n0 : Nat} {w0 : World}
end
theorem load1_qvec : Load1 30 := fun ρ w o x b f u hx hc => by
 unfold execOp
 go_simp
end Go.Proofs.YtnhfpekpdephjaaGreat

/-
 Layer 11: the struct of a tree, its rules; lists of rationals that come in.
-/
namespace Go.Proofs.YtnhfpekpdephjaaGreat
open Go Go.RowKit Nt
set_option linter.unusedSimpArgs false
set_option linter.unusedVariables false
set_option maxRecDepth 20000

/-- The data's two lists, the target's list, the bound. -/
def TR (pd pl pt pr : Pr) : Pr := fun v w => ∃ x y t a b c d, v = .agg #[x, y, t, a, b, c, d] ∧ (#[x, y, t, a, b, c, d] : Array Value).all (·.oneCell') = true ∧ pd x w ∧ pl y w ∧ pt t w ∧ pr (.agg #[a, b, c, d]) w
theorem shp_tr {pd pl pt pr : Pr} : Shp 7 (TR pd pl pt pr) := fun u w ⟨x, y, t, a, b, c, d, e, h, _⟩ => ⟨_, e, rfl, h⟩
theorem shp_t0 : Shp 7 (Is (.agg #[.slice none 0 0, .slice none 0 0, .slice none 0 0, .bool false, .slice none 0 0, .bool false, .slice none 0 0])) := fun u w h => ⟨_, h, rfl, by simp [Value.oneCell']⟩
theorem tr_imp {pd pl pt pz pd' pl' pt' pz' : Pr} (h1 : ∀ v w, pd v w → pd' v w) (h2 : ∀ v w, pl v w → pl' v w) (h3 : ∀ v w, pt v w → pt' v w) (h4 : ∀ v w, pz v w → pz' v w) : ∀ v w, TR pd pl pt pz v w → TR pd' pl' pt' pz' v w :=
 fun v w ⟨x, y, t, p, q, p', q', e, h, a, b, c, d⟩ => ⟨x, y, t, p, q, p', q', e, h, h1 _ _ a, h2 _ _ b, h3 _ _ c, h4 _ _ d⟩
theorem strct_tree : Strct 37 7 := ⟨⟨_, Tryz.underlying37, rfl⟩, by kernel_rfl⟩
theorem alloc_tree (ρ : Operand → Value) (o : Oper) (w : World) : (execOp ρ { o with op := .alloc 37 }).run Tryz.prog w = .ok (.value (.pointer (some ⟨w.heap.size, 0, none⟩))) (w.alloc (.cells (Value.agg #[.slice none 0 0, .slice none 0 0, .slice none 0 0, .bool false, .slice none 0 0, .bool false, .slice none 0 0]).cells 37 (0, 0))) := by
 unfold execOp
 go_simp
theorem box_tree {φ : Pr} (h : Shp 7 φ) (ρ : Operand → Value) (o : Oper) (x : Operand) (w : World) (hφ : φ (ρ x) w) : (execOp ρ { o with op := .box 37 x }).run Tryz.prog w = .ok (.value (.pointer (some ⟨w.heap.size, 0, none⟩))) (w.alloc (.cells (ρ x).cells 37 (0, 0))) := by
 obtain ⟨cs, e, h1, h2⟩ := h _ _ hφ
 unfold execOp
 rw [e]
 go_simp
theorem part_tree0 (ρ : Operand → Value) (o : Oper) (x : Operand) (w : World) (b f : Nat) (h : ρ x = .pointer (some ⟨b, f, none⟩)) : (execOp ρ { o with op := .fieldAddr 37 x 0 }).run Tryz.prog w = .ok (.value (.pointer (some ⟨b, f, none⟩))) w := by
 unfold execOp
 go_simp
theorem part_tree1 (ρ : Operand → Value) (o : Oper) (x : Operand) (w : World) (b f : Nat) (h : ρ x = .pointer (some ⟨b, f, none⟩)) : (execOp ρ { o with op := .fieldAddr 37 x 1 }).run Tryz.prog w = .ok (.value (.pointer (some ⟨b, f + 2, none⟩))) w := by
 unfold execOp
 go_simp
theorem part_tree2 (ρ : Operand → Value) (o : Oper) (x : Operand) (w : World) (b f : Nat) (h : ρ x = .pointer (some ⟨b, f, none⟩)) : (execOp ρ { o with op := .fieldAddr 37 x 2 }).run Tryz.prog w = .ok (.value (.pointer (some ⟨b, f + 3, none⟩))) w := by
 unfold execOp
 go_simp
/-- A struct that lies in the midst of a block. -/
theorem load_midS {T n : Nat} (hS : Strct T n) {ρ : Operand → Value} {o : Oper} {x : Operand} {w : World} {b off : Nat} {xs : List Value} (hx : ρ x = .pointer (some ⟨b, off, none⟩)) (hn : xs.length = n) (h0 : ∀ (j : Nat) v, xs[j]? = some v → w.cell? ⟨b, off + j, none⟩ = some v) :
  (execOp ρ { o with op := .load T x }).run Tryz.prog w = .ok (.value (.agg xs.toArray)) w := by
 obtain ⟨⟨d, hu, hd⟩, hi⟩ := hS
 unfold execOp
 simp only [hx, Sem.run_bind, run_loadAt_mid (P := Tryz.prog) w b off T xs d h0 hu hd (by rw [hi, hn]), Result.andThen_ok, Sem.run_pure]
theorem pload_tr0 {pd pl pt pr : Pr} (ρ : Operand → Value) (o : Oper) (x : Operand) (w : World) (b : Nat) (u : Value) (hφ : TR pd pl pt pr u w) (hx : ρ x = .pointer (some ⟨b, 0, none⟩)) (hb : w.heap[b]? = some (.cells u.cells 37 (0, 0))) :
  ∃ v, (execOp ρ { o with op := .load 29 x }).run Tryz.prog w = .ok (.value v) w ∧ ∀ w', TR pd pl pt pr u w' → SF [pd, pl] v w' := by
 obtain ⟨x0, x1, x2, x3, x4, x5, x6, rfl, ho, _⟩ := hφ
 refine ⟨.agg #[x0, x1], load_midS strct_gso (xs := [x0, x1]) hx rfl (fun j v hv => ?_), fun w' ⟨y0, y1, y2, y3, y4, y5, y6, e, ha, h1, h2, _⟩ => ?_⟩
 ·match j, hv with
  | 0, hv => simp at hv; subst hv; exact (cell_of hb).trans rfl
  | 1, hv => simp at hv; subst hv; exact (cell_of hb).trans rfl
  | j + 2, hv => simp at hv
 ·simp at e
  obtain ⟨rfl, rfl, _⟩ := e
  simp only [List.all_toArray, List.all_cons, Bool.and_eq_true] at ha
  refine ⟨_, rfl, rfl, by simp [ha.1, ha.2.1], fun f p hf => ?_⟩
  match f, hf with
  | 0, hf => simp at hf; subst hf; exact ⟨_, rfl, h1⟩
  | 1, hf => simp at hf; subst hf; exact ⟨_, rfl, h2⟩
  | f + 2, hf => simp at hf
theorem pload_tr1 {pd pl pt pr : Pr} (ρ : Operand → Value) (o : Oper) (x : Operand) (w : World) (b : Nat) (u : Value) (hφ : TR pd pl pt pr u w) (hx : ρ x = .pointer (some ⟨b, 1, none⟩)) (hb : w.heap[b]? = some (.cells u.cells 37 (0, 0))) :
  ∃ v, (execOp ρ { o with op := .load 22 x }).run Tryz.prog w = .ok (.value v) w ∧ ∀ w', TR pd pl pt pr u w' → pl v w' := by
 obtain ⟨x0, x1, x2, x3, x4, x5, x6, rfl, ho, _⟩ := hφ
 refine ⟨x1, load1_mat ρ w o x b 1 x1 hx ((cell_of hb).trans rfl), fun w' ⟨y0, y1, y2, y3, y4, y5, y6, e, _, _, h, _⟩ => ?_⟩
 simp at e
 rw [e.2.1]
 exact h
theorem pload_tr2 {pd pl pt pr : Pr} (ρ : Operand → Value) (o : Oper) (x : Operand) (w : World) (b : Nat) (u : Value) (hφ : TR pd pl pt pr u w) (hx : ρ x = .pointer (some ⟨b, 2, none⟩)) (hb : w.heap[b]? = some (.cells u.cells 37 (0, 0))) :
  ∃ v, (execOp ρ { o with op := .load 30 x }).run Tryz.prog w = .ok (.value v) w ∧ ∀ w', TR pd pl pt pr u w' → pt v w' := by
 obtain ⟨x0, x1, x2, x3, x4, x5, x6, rfl, ho, _⟩ := hφ
 refine ⟨x2, load1_qvec ρ w o x b 2 x2 hx ((cell_of hb).trans rfl), fun w' ⟨y0, y1, y2, y3, y4, y5, y6, e, _, _, _, h, _⟩ => ?_⟩
 simp at e
 rw [e.2.2.1]
 exact h
theorem pload_tr3 {pd pl pt pr : Pr} (ρ : Operand → Value) (o : Oper) (x : Operand) (w : World) (b : Nat) (u : Value) (hφ : TR pd pl pt pr u w) (hx : ρ x = .pointer (some ⟨b, 3, none⟩)) (hb : w.heap[b]? = some (.cells u.cells 37 (0, 0))) :
  ∃ v, (execOp ρ { o with op := .load 35 x }).run Tryz.prog w = .ok (.value v) w ∧ ∀ w', TR pd pl pt pr u w' → pr v w' := by
 obtain ⟨x0, x1, x2, x3, x4, x5, x6, rfl, ho, _⟩ := hφ
 refine ⟨.agg #[x3, x4, x5, x6], load_midS strct_rat (xs := [x3, x4, x5, x6]) hx rfl (fun j v hv => ?_), fun w' ⟨y0, y1, y2, y3, y4, y5, y6, e, _, _, _, _, h⟩ => ?_⟩
 ·match j, hv with
  | 0, hv => simp at hv; subst hv; exact (cell_of hb).trans rfl
  | 1, hv => simp at hv; subst hv; exact (cell_of hb).trans rfl
  | 2, hv => simp at hv; subst hv; exact (cell_of hb).trans rfl
  | 3, hv => simp at hv; subst hv; exact (cell_of hb).trans rfl
  | j + 4, hv => simp at hv
 ·simp at e
  rw [e.2.2.2.1, e.2.2.2.2.1, e.2.2.2.2.2.1, e.2.2.2.2.2.2]
  exact h
theorem pload_trn {pd pl pt φ ψ : Pr} (ρ : Operand → Value) (o : Oper) (x : Operand) (w : World) (b : Nat) (u : Value) (hφ : TR pd pl pt (PR φ ψ) u w) (hx : ρ x = .pointer (some ⟨b, 3, none⟩)) (hb : w.heap[b]? = some (.cells u.cells 37 (0, 0))) :
  ∃ v, (execOp ρ { o with op := .load 33 x }).run Tryz.prog w = .ok (.value v) w ∧ ∀ w', TR pd pl pt (PR φ ψ) u w' → φ v w' := by
 obtain ⟨x0, x1, x2, x3, x4, x5, x6, rfl, ho, _⟩ := hφ
 refine ⟨.agg #[x3, x4], load_mid hx ((cell_of hb).trans rfl) ((cell_of hb).trans rfl), fun w' ⟨y0, y1, y2, y3, y4, y5, y6, e, _, _, _, _, h⟩ => ?_⟩
 obtain ⟨a0, a1, b0, b1, e', ha, _⟩ := h
 simp at e e'
 rw [e.2.2.2.1, e.2.2.2.2.1, e'.1, e'.2.1]
 exact ha
/-- A list of rationals that came in, by worth. -/
abbrev QV (n : Nat) (ts : List (Int × Int)) (k : Nat) : Pr := Ar 4 n (ts.map (fun t => PR (Zv t.1 k) (Zv t.2 k)))
theorem nil_qv {k : Nat} : ∀ v w, Is (.slice none 0 0) v w → QV 0 [] k v w := fun v w h => ⟨none, 0, h, rfl, ⟨Nat.le_refl _, by unfold maxLen; omega, fun _ => rfl⟩, fun i φ hφ => by simp at hφ⟩
theorem qv_at {ts : List (Int × Int)} {k i : Nat} (h : i < ts.length) : (ts.map (fun t => PR (Zv t.1 k) (Zv t.2 k)))[i]? = some (PR (Zv (ts.getD i (0, 0)).1 k) (Zv (ts.getD i (0, 0)).2 k)) := by
 rw [List.getElem?_map, List.getElem?_eq_getElem h, List.getD_eq_getElem?_getD, List.getElem?_eq_getElem h]
 rfl
section
variable {ops : Array Oper} {l : List Kd} {bx : Bxs} {sl : List (Tmp × Pr)} {i : Nat} {o : Oper} {Q : Exit → Act → World → Prop} {a0 : Act} {n : Nat} {w0 : World}
/-- The struct is made of its data and its bound. -/
theorem owe_build_tr {x z : Operand} {pd pl pr : Pr} (ho : ops[i]? = some o) (hw : Wants ops l bx sl i o) (hop : o.op = .build 37 #[(0, x), (2, z)]) (hx : Opnd ops l bx sl i x (SF [pd, pl])) (hz : Opnd ops l bx sl i z pr) (hS : Shp 4 pr) (hk : kdAt l i = .val (TR pd pl (Is (.slice none 0 0)) pr)) : Owed Tryz.prog ops Q l bx sl a0 n w0 i :=
 owe_val ho hw hk fun vs B a w c => by
  have h1 := hx a0 n w0 vs B a w c
  have h3 := hz a0 n w0 vs B a w c
  obtain ⟨cs, e1, c1, c2, _⟩ := id h1.now
  obtain ⟨ds, e3, d1, d2⟩ := hS _ _ h3.now
  match cs, c1, e1, c2 with
  | ⟨[x0, x1]⟩, _, e1, c2 =>
   match ds, d1, e3, d2 with
   | ⟨[z0, z1, z2, z3]⟩, _, e3, d2 =>
    have c3 : x0.oneCell' = true ∧ x1.oneCell' = true := by simpa using c2
    have d3 : z0.oneCell' = true ∧ z1.oneCell' = true ∧ z2.oneCell' = true ∧ z3.oneCell' = true := by simpa using d2
    have hall : (#[x0, x1, .slice none 0 0, z0, z1, z2, z3] : Array Value).all (·.oneCell') = true := by
     have hone : (Value.slice none 0 0).oneCell' = true := rfl
     simp at ⊢
     exact ⟨c3.1, c3.2, hone, d3.1, d3.2.1, d3.2.2.1, d3.2.2.2⟩
    refine ⟨.agg #[x0, x1, .slice none 0 0, z0, z1, z2, z3], ?_, fun w' e' => ⟨x0, x1, _, z0, z1, z2, z3, rfl, hall, ?_, ?_, rfl, e3 ▸ h3 w' e'⟩⟩
    ·unfold execOp
     rw [hop]
     clear h1 h3 hx hz hall c2 d2
     generalize a.eval = ρ at e1 e3
     obtain ⟨c4, c5⟩ := c3
     obtain ⟨d4, d5, d6, d7⟩ := d3
     go_simp
    ·obtain ⟨cs', e4, _, _, h4⟩ := h1 w' e'
     rw [e1] at e4
     simp at e4
     subst e4
     obtain ⟨u, hu, hp⟩ := h4 0 _ rfl
     simp at hu
     subst hu
     exact hp
    ·obtain ⟨cs', e4, _, _, h4⟩ := h1 w' e'
     rw [e1] at e4
     simp at e4
     subst e4
     obtain ⟨u, hu, hp⟩ := h4 1 _ rfl
     simp at hu
     subst hu
     exact hp
/-- A list of none. -/
theorem owe_lit0 {T E sz : Nat} (ho : ops[i]? = some o) (hw : Wants ops l bx sl i o) (hop : o.op = .buildSlice T 0 #[]) (hB : Bld0 T E) (hz : 0 < sz) (hk : kdAt l i = .val (LF sz 0 [] w0.heap.size)) : Owed Tryz.prog ops Q l bx sl a0 n w0 i :=
 owe_grow ho hw hk fun vs B a w c => by
  obtain ⟨b1, b2⟩ := lit_lf c (E := E) (n := 0) (us := []) (ψs := []) hz rfl (by unfold maxLen; omega) rfl (by intro u hu; simp at hu) (fun j u ψ hu hψ => by simp at hu)
  refine ⟨_, _, ?_, b1, b2⟩
  rw [show (cellsOf ([] : List Value)).toArray = #[] from rfl, ← hB a.eval o w]
  unfold execOp
  rw [hop]
/-- The data are made of their lists. -/
theorem owe_build_gv {x y : Operand} {pd pl : Pr} (ho : ops[i]? = some o) (hw : Wants ops l bx sl i o) (hop : o.op = .build 29 #[(0, x), (1, y)]) (hx : Opnd ops l bx sl i x pd) (hy : Opnd ops l bx sl i y pl) (h1 : ∀ v w, pd v w → ∃ p m c, v = .slice p m c) (h2 : ∀ v w, pl v w → ∃ p m c, v = .slice p m c) (hk : kdAt l i = .val (SF [pd, pl])) : Owed Tryz.prog ops Q l bx sl a0 n w0 i :=
 owe_val ho hw hk fun vs B a w cx => by
  have hX := hx a0 n w0 vs B a w cx
  have hY := hy a0 n w0 vs B a w cx
  obtain ⟨p, m, c, e1⟩ := h1 _ _ hX.now
  obtain ⟨p', m', c', e2⟩ := h2 _ _ hY.now
  refine ⟨.agg #[a.eval x, a.eval y], ?_, fun w' ev => ⟨_, rfl, rfl, by simp [e1, e2, Value.oneCell'], fun f q hq => ?_⟩⟩
  ·unfold execOp
   rw [hop]
   clear hX hY hx hy
   generalize a.eval = ρ at e1 e2
   go_simp
  ·match f, hq with
   | 0, hq => simp at hq; subst hq; exact ⟨_, rfl, hX w' ev⟩
   | 1, hq => simp at hq; subst hq; exact ⟨_, rfl, hY w' ev⟩
   | f + 2, hq => simp at hq
end
end Go.Proofs.YtnhfpekpdephjaaGreat

/-
 scale.MayBe, tree.Valid.
-/
namespace Go.Proofs.YtnhfpekpdephjaaGreat
open Go Go.RowKit Nt
set_option linter.unusedSimpArgs false
set_option linter.unusedVariables false
set_option maxRecDepth 20000


theorem sgn_nn {z : Int} (h : 0 ≤ z) : 0 ≤ z.sign := by
 by_cases h0 : z = 0
 ·rw [h0]; decide
 ·rw [Int.sign_eq_one_of_pos (by omega)]; decide
theorem one_lt {rn rd : Int} (h : 0 < rd) : ∀ i, i < 1 → 0 < (([(rn, rd)] : List (Int × Int)).getD i (0, 0)).2 := fun i hi => by
 match i, hi with
 | 0, _ => exact h
theorem sng_ar1 {E lo k : Nat} {a b : Int} : ∀ v w, Sng E 4 (PR (Zv a k) (Zv b k)) lo v w → QV 1 [(a, b)] k v w := by
 rintro v w ⟨g, u, rfl, h1, h2, h3, h4⟩
 refine ⟨_, _, rfl, rfl, ⟨Nat.le_refl _, by unfold maxLen; omega, fun e => by cases e⟩, fun i φ hφ => ?_⟩
 match i, hφ with
 | 0, hφ =>
  simp at hφ
  subst hφ
  refine ⟨g, 0, u, rfl, fun j x hx => ?_, h3.siz, h4⟩
  rw [Nat.mul_zero, Nat.add_zero, Nat.zero_add, cell_of h2]
  exact hx
 | i + 1, hφ => simp at hφ
/-- A tree that may be. -/
structure TGood (D : List Int) (L : List (List Int)) (ts : List (Int × Int)) (rn rd : Int) : Prop where
 g : Good D L
 dim : L.length ≤ 12
 len : ts.length = 0 ∨ (ts.length ≠ 0 ∧ ts.length = L.length)
 t : ∀ i, i < ts.length → 0 < (ts.getD i (0, 0)).2
 rd : 0 < rd
 rn : 0 ≤ rn
set_option maxHeartbeats 400000 in
theorem mayb_t (w : World) (u : Value) (n k : Nat) (ts : List (Int × Int)) (h : Hs w (QV n ts k) u) (hn : n ≤ 1048576) (hk : k ≤ 8388608) (lt : ts.length = n) (ht : ∀ i, i < n → 0 < (ts.getD i (0, 0)).2) :
  CG 16 #[u] w (IS (.bool true)) := by
 refine calls_sta (sl := [(0, (QV n ts k))]) Tryz.func16 rfl Tryz.ntmps16 (by simp) (args_cons rfl (h) args_nil) ?_
 intro a0 S0
 refine wq [kF] [] [.inr 0] S0 ?_ ?_
 ·exact jj1 mC
 intro _ a1 _ (S1 : Zt [] [_])
 refine wp_seq ?_
 refine wq [V (QV n ts k), V (iV (n : Nat)), V (iV 0)] [] [.inl 0, .inl 1, .inl 2] S1 ?_ ?_
 ·exact jj3 (mS 0 0) (lnA wA (oO 0 5) Tryz.underlying30) mC
 intro B2 a2 _ (S2 : Zt [] [_,_,_])
 refine wp_block ?_
 refine wp_loop_ghost (fun (k0 : Nat) a W => (k0 ≤ n) ∧ ∃ Bq, Sta w 16 [] [(5, (QV n ts k)), (6, iV (n : Nat)), (7, iV (k0 : Nat))] Bq a W) (fun (k0 : Nat) => n - k0) ?_ 0 ⟨Nat.zero_le _, B2, S2.sub [] [0, 1, 2]⟩
 rintro k0 a3 _ ⟨hcond, _, S3⟩
 by_cases hlt : k0 < n
 ·have hp := sgn_pos (ht k0 hlt)
  refine wq [kT] [] (.inl 0 :: ur3) S3 ?_ ?_
  ·exact jj1 (b_lss_int_t wA (oS 2 7) (oS 1 6))
  intro B4 a4 W4 (S4 : Zt [] [_,_,_,_])
  refine wp_seq (wp_cond_true (S4.bool 0 8 rfl) (wp_skip (thenN (wp_seq (wp_block ?_)))))
  refine wq [V (AtE 4 (PR (Zv ((ts.getD k0 (0, 0)).1) k) (Zv ((ts.getD k0 (0, 0)).2) k))), V (PR (Zv ((ts.getD k0 (0, 0)).1) k) (Zv ((ts.getD k0 (0, 0)).2) k)), .new (.box 35 zR), .put (.inr 2) (.box 35 (PR (Zv ((ts.getD k0 (0, 0)).1) k) (Zv ((ts.getD k0 (0, 0)).2) k)))] [.inl 2] [.inr 1, .inr 2, .inr 3] S4 ?_ ?_
  ·exact jj4 (axA wA idx_rats (oS 1 5) (oS 3 7) (qv_at (by omega)) rfl) (alC wA ldr_rat4 (shp_pr shp_zv shp_zv) (oO 0 9)) (nwA wA alloc_rat) (puA 2 wA (oO 1 10) strct_rat shp_r0 (shp_pr shp_zv shp_zv))
  intro B5 a5 W5 (S5 : Zt [_] [_,_,_])
  refine wq [V (Part a5 4 2), V (Zv ((ts.getD k0 (0, 0)).2) k), V (Is (.int .i64 ((ts.getD k0 (0, 0)).2).sign)), kF] [] (.inl 3 :: ur3) S5 ?_ ?_
  ·exact jj4 (ptA wA 0 part_rat1) (plA wA (oO 0 11) 0 rfl rfl pload_den) (cc1 wA (qO 1 12 rfl) (fresh_is _) (fun w u h1 => h_zsign (by omega) w u ((fun _ _ h => h) _ _ h1))) (b_leq_int_f wA (oO 2 13) (opnd_const _))
  intro _ a6 _ (S6 : Zt [] [_,_,_,_])
  refine wp_cond_false (S6.bool 0 14 rfl) (wp_skip (inBlkN (thenN ?_)))
  refine wr [V (iV (k0 + 1 : Nat)), V (iV (k0 + 1 : Nat))] [] [.inl 1, .inr 1, .inr 2] S6 ?_ ?_
  ·exact jj2 (b_add_int wA (oS 3 7) (opnd_const _)) (mO 0 15)
  intro B7 a7 _ (S7 : Zt [] [_,_,_])
  refine thenN ?_
  exact ⟨k0 + 1, ⟨by omega, B7, S7.sub [] [1, 2, 0]⟩, by omega⟩
 ·skip
  refine wq [kF] [] (.inl 0 :: ur3) S3 ?_ ?_
  ·exact jj1 (b_lss_int_f wA (oS 2 7) (oS 1 6))
  intro B4 a4 W4 (S4 : Zt [] [_,_,_,_])
  refine wp_seq (wp_cond_false (S4.bool 0 8 rfl) (wp_exit (thenX (thenX (inBlkE (thenN ?_))))))
  refine wq [kT] [] [.inl 0, .inr 1, .inr 2, .inr 3] S4 ?_ ?_
  ·exact jj1 mC
  intro B5 a5 W5 (S5 : Zt [] [_,_,_,_])
  refine wp_ret ?_
  exact end_one S5 rfl (res_tmp S5 0 2 rfl)

set_option maxHeartbeats 4000000 in
theorem tval_g (w : World) (u : Value) (nD nL nT K : Nat) (D : List Int) (L : List (List Int)) (ts : List (Int × Int)) (rn rd : Int) (h : Hs w (TR (Vv nD D K) (Mv nL L K) (QV nT ts K) (PR (Zv rn K) (Zv rd K))) u) (hD : nD ≤ 1048576) (hL : nL ≤ 1048576) (hT : nT ≤ 1048576) (hK : K ≤ 1048576) (lD : D.length = nD) (lL : L.length = nL) (lT : ts.length = nT) (tg : TGood D L ts rn rd) :
  CG 6 #[u] w (IS (.int .i64 0)) := by
 obtain ⟨g, g1, hl, g5, g6, g7⟩ := tg
 have hs : 0 ≤ rn.sign := sgn_nn g7
 refine calls_sta (sl := [(0, (TR (Vv nD D K) (Mv nL L K) (QV nT ts K) (PR (Zv rn K) (Zv rd K))))]) Tryz.func6 rfl Tryz.ntmps6 (by simp) (args_cons rfl (h) args_nil) ?_
 intro a0 S0
 refine wq [.new (.box 37 (TR (Vv nD D K) (Mv nL L K) (QV nT ts K) (PR (Zv rn K) (Zv rd K)))), V (iV 0)] [.inl 0] [] S0 ?_ ?_
 ·exact jj2 (bxA wA (oS 0 0) (box_tree shp_tr)) mC
 intro _ a1 _ (S1 : Zt [_] [])
 refine wq [V (Part a1 1 0), V (SF [(Vv nD D K), (Mv nL L K)]), Fw (TWO (RN 1 1) (IS (.int .i64 0))) w, Fw (TWO (RN 1 1) (IS (.int .i64 0))) w, Fw (RN 1 1) w, V (iV 0), .new (.box 35 zR), .put (.inr 6) (.box 35 ((RN 1 1) w.heap.size)), V (iV 0)] [.inr 0, .inl 6] [.inl 8] S1 ?_ ?_
 ·exact ⟨jj8 (ptZ wA 0 part_tree0) (plA wA (oO 0 7) 0 rfl rfl pload_tr0) (ch3 wA (qO 1 8 rfl) (opnd_const _) (opnd_const _) (fresh_two (fresh_rn _ _) (fresh_is _)) (fun w u0 u1 u2 h0 h1 h2 => by obtain rfl : u1 = _ := h1.now; obtain rfl : u2 = _ := h2.now; exact mu_e w u0 nD nL K D L h0 hD hL hK lD lL 0 g (by have := g.some; omega))) (mO 2 9) (e20 wA (oO 3 6)) (e21 wA (oO 3 6)) (nwA wA alloc_rat) (puA 6 wA (oO 4 10) strct_rat shp_r0 (shp_pr shp_zn shp_zn)), mO 5 11⟩
 intro _ a2 _ (S2 : Zt [_,_] [_])
 refine wq [V (Part a2 1 0), V (Part a2 1 1), V (Mv nL L K), V (iV (nL : Nat)), V (iV (nL : Nat))] [.inr 0] [.inl 4, .inr 0] S2 ?_ ?_
 ·exact jj5 (ptZ wA 0 part_tree0) (owe_part2 rfl wA rfl (oO 0 12) rfl (fun ρ w b h => part_gso1 ρ _ _ w b 0 h)) (plA wA (oO 1 13) 0 rfl rfl pload_tr1) (lnA wA (oO 2 14) Tryz.underlying22) (mO 3 15)
 intro _ a3 _ (S3 : Zt [_] [_,_])
 refine wp_seq (wp_block ?_)
 refine wq [V (iV 0), kF, kF, V (iV (nL : Nat)), kF, kF, kF] [.inr 0] [.inl 6, .inr 0] S3 ?_ ?_
 ·repeat' refine And.intro ?_ ?_
  ·trivial
  ·exact mS 1 4
  ·exact b_neq_errno_f wA (oO 0 17) (opnd_const _) (h := by decide)
  ·exact mO 1 18
  ·exact mW (wI 2 19) (oS 0 5)
  ·exact b_gtr_int_f (wI 2 19) (oO 3 20) (opnd_const _)
  ·exact pF wA (oO 2 19) (oO 4 21)
  ·exact mO 5 22
 intro _ a4 _ (S4 : Zt [_] [_,_])
 refine wp_cond_false (S4.bool 0 16 rfl) ?_
 rcases hl with hl | ⟨hl, hl2⟩
 ·skip
  refine wq [V (Part a4 1 2), V (QV nT ts K), V (iV (nT : Nat)), kF, kF, .off, .off, .off, .off, .off, kF, kF] [.inr 0] [.inl 11] S4 ?_ ?_
  ·exact ⟨⟨⟨⟨jj8 (ptA wA 0 part_tree1) (plA wA (oO 0 24) 0 rfl rfl pload_tr2) (lnA wA (oO 1 25) Tryz.underlying30) (b_neq_int_f wA (oO 2 26) (opnd_const _)) (mO 3 27) (oF 4 28) (oF 4 28) (oF 4 28), oF 4 28⟩, oF 4 28⟩, pF wA (oO 4 28) (opnd_const _)⟩, mO 10 34⟩
  intro B5 a5 W5 (S5 : Zt [_] [_])
  refine wp_cond_false (S5.bool 0 23 rfl) ?_
  refine wq [V (Part a5 1 2), V (QV nT ts K), kT, kF, kF, V (Part a5 1 3), V (PR (Zv rn K) (Zv rd K)), V (Sng 35 4 (PR (Zv rn K) (Zv rd K)) w.heap.size), kT, kF, kF, kF, V (Part a5 1 3), V (Part a5 1 3), V (Zv rn K), V (iV ((rn).sign)), kF, kF, kF] [.inr 0] [.inl 18] S5 ?_ ?_
  ·exact ⟨⟨⟨⟨⟨⟨⟨⟨⟨⟨⟨jj8 (ptA wA 0 part_tree1) (plA wA (oO 0 36) 0 rfl rfl pload_tr2) (ch1 wA (qO 1 37 rfl) (fresh_is _) (fun w u h => mayb_t w u nT K ts h (by omega) (by omega) lT (fun i hi => g5 i (by omega)))) (b_not wA (oO 2 38)) (mO 3 39) (ptA (wI 4 40) 0 part_tree2) (plA (wI 4 40) (oO 5 41) 0 rfl rfl pload_tr3) (owe_b1 rfl (wI 4 40) rfl bld_rat4 (oO 6 42) (cel_shp (by decide) (shp_pr shp_zv shp_zv)) rfl), ch1 (wI 4 40) ((qO 7 43 rfl).imp sng_ar1) (fresh_is _) (fun w u h => mayb_t w u 1 K [(rn, rd)] h (by omega) (by omega) rfl (one_lt g6))⟩, b_not (wI 4 40) (oO 8 44)⟩, pF wA (oO 4 40) (oO 9 45)⟩, mO 10 46⟩, ptA (wI 11 47) 0 part_tree2⟩, owe_part2 rfl (wI 11 47) rfl (oO 12 48) rfl (fun ρ w b h => part_rat0 ρ _ _ w b 3 h)⟩, plA (wI 11 47) (oO 13 49) 0 rfl rfl pload_trn⟩, cc1 (wI 11 47) (qO 14 50 rfl) (fresh_is _) (fun w u h1 => h_zsign (by omega) w u ((fun _ _ h => h) _ _ h1))⟩, b_lss_int_f (wI 11 47) (oO 15 51) (opnd_const _)⟩, pF wA (oO 11 47) (oO 16 52)⟩, mO 17 53⟩
  intro B6 a6 W6 (S6 : Zt [_] [_])
  refine wp_cond_false (S6.bool 0 35 rfl) (wp_skip (inBlkN (thenN ?_)))
  refine wq [V (iV 0)] [.inr 0] [.inl 0] S6 ?_ ?_
  ·exact jj1 mC
  intro B7 a7 W7 (S7 : Zt [_] [_])
  refine wp_ret ?_
  exact end_one S7 rfl (res_tmp S7 0 2 rfl)
 ·skip
  refine wq [V (Part a4 1 2), V (QV nT ts K), V (iV (nT : Nat)), kT, kT, V (Part a4 1 2), V (QV nT ts K), V (iV (nT : Nat)), V (iV (nL : Nat)), kF, kF, kF] [.inr 0] [.inl 11] S4 ?_ ?_
  ·exact ⟨⟨⟨⟨jj8 (ptA wA 0 part_tree1) (plA wA (oO 0 24) 0 rfl rfl pload_tr2) (lnA wA (oO 1 25) Tryz.underlying30) (b_neq_int_t wA (oO 2 26) (opnd_const _)) (mO 3 27) (ptA (wI 4 28) 0 part_tree1) (plA (wI 4 28) (oO 5 29) 0 rfl rfl pload_tr2) (lnA (wI 4 28) (oO 6 30) Tryz.underlying30), mW (wI 4 28) (oS 1 5)⟩, b_neq_int_f (wI 4 28) (oO 7 31) (oO 8 32)⟩, pT wA (oO 4 28) (oO 9 33)⟩, mO 10 34⟩
  intro B5 a5 W5 (S5 : Zt [_] [_])
  refine wp_cond_false (S5.bool 0 23 rfl) ?_
  refine wq [V (Part a5 1 2), V (QV nT ts K), kT, kF, kF, V (Part a5 1 3), V (PR (Zv rn K) (Zv rd K)), V (Sng 35 4 (PR (Zv rn K) (Zv rd K)) w.heap.size), kT, kF, kF, kF, V (Part a5 1 3), V (Part a5 1 3), V (Zv rn K), V (iV ((rn).sign)), kF, kF, kF] [.inr 0] [.inl 18] S5 ?_ ?_
  ·exact ⟨⟨⟨⟨⟨⟨⟨⟨⟨⟨⟨jj8 (ptA wA 0 part_tree1) (plA wA (oO 0 36) 0 rfl rfl pload_tr2) (ch1 wA (qO 1 37 rfl) (fresh_is _) (fun w u h => mayb_t w u nT K ts h (by omega) (by omega) lT (fun i hi => g5 i (by omega)))) (b_not wA (oO 2 38)) (mO 3 39) (ptA (wI 4 40) 0 part_tree2) (plA (wI 4 40) (oO 5 41) 0 rfl rfl pload_tr3) (owe_b1 rfl (wI 4 40) rfl bld_rat4 (oO 6 42) (cel_shp (by decide) (shp_pr shp_zv shp_zv)) rfl), ch1 (wI 4 40) ((qO 7 43 rfl).imp sng_ar1) (fresh_is _) (fun w u h => mayb_t w u 1 K [(rn, rd)] h (by omega) (by omega) rfl (one_lt g6))⟩, b_not (wI 4 40) (oO 8 44)⟩, pF wA (oO 4 40) (oO 9 45)⟩, mO 10 46⟩, ptA (wI 11 47) 0 part_tree2⟩, owe_part2 rfl (wI 11 47) rfl (oO 12 48) rfl (fun ρ w b h => part_rat0 ρ _ _ w b 3 h)⟩, plA (wI 11 47) (oO 13 49) 0 rfl rfl pload_trn⟩, cc1 (wI 11 47) (qO 14 50 rfl) (fresh_is _) (fun w u h1 => h_zsign (by omega) w u ((fun _ _ h => h) _ _ h1))⟩, b_lss_int_f (wI 11 47) (oO 15 51) (opnd_const _)⟩, pF wA (oO 11 47) (oO 16 52)⟩, mO 17 53⟩
  intro B6 a6 W6 (S6 : Zt [_] [_])
  refine wp_cond_false (S6.bool 0 35 rfl) (wp_skip (inBlkN (thenN ?_)))
  refine wq [V (iV 0)] [.inr 0] [.inl 0] S6 ?_ ?_
  ·exact jj1 mC
  intro B7 a7 W7 (S7 : Zt [_] [_])
  refine wp_ret ?_
  exact end_one S7 rfl (res_tmp S7 0 2 rfl)

end Go.Proofs.YtnhfpekpdephjaaGreat

/-
 SplitNames.
-/
namespace Go.Proofs.YtnhfpekpdephjaaGreat
open Go Go.RowKit Nt
set_option linter.unusedSimpArgs false
set_option linter.unusedVariables false
set_option maxRecDepth 20000


abbrev TnD : List Int := [1, 1, 1]
abbrev TnL : List (List Int) := [[], [0]]
theorem tn_dl : Dl TnD 1 := fun i z h => by
 have hz : z = 1 := by
  match i, h with
  | 0, h => simp at h; omega
  | 1, h => simp at h; omega
  | 2, h => simp at h; omega
  | i + 3, h => simp at h
 rw [hz]; exact one_dl
theorem tn_mdl : Mdl TnL 1 := fun i r h => by
 match i, h with
 | 0, h => simp at h; subst h; exact fun j z hz => by simp at hz
 | 1, h =>
  simp at h; subst h
  exact fun j z hz => by
   match j, hz with
   | 0, hz => simp at hz; subst hz; exact Nat.le_trans (by rw [show (0 : Int).natAbs = 0 from rfl, digs_zero]; exact Nat.zero_le _) (Nat.le_refl 1)
   | j + 1, hz => simp at hz
 | i + 2, h => simp at h
theorem tn_good : TGood TnD TnL [] 1 1 := ⟨⟨by decide, by decide, by decide, fun i hi => by
 match i, hi with
 | 0, _ => rfl
 | 1, _ => rfl, fun i hi => by
 match i, hi with
 | 0, _ => decide
 | 1, _ => decide⟩, by decide, Or.inl rfl, fun i hi => by simp at hi, by decide, by decide⟩
/-- The plain square's tree, in new memory. -/
abbrev TnT : Nat → Pr := fun lo => TR (VN 3 TnD lo) (MN 2 TnL lo) (Is (.slice none 0 0)) (PR (ZN 1 lo) (ZN 1 lo))
theorem tr_fresh {pd pl pr : Nat → Pr} {pt : Pr} (f1 : Fresh pd) (f2 : Fresh pl) (f3 : Fresh (fun _ => pt)) (f4 : Fresh pr) : Fresh (fun lo => TR (pd lo) (pl lo) pt (pr lo)) :=
 ⟨fun lo lo' v w hl h => tr_imp (fun v w h => f1.mono _ _ v w hl h) (fun v w h => f2.mono _ _ v w hl h) (fun v w h => h) (fun v w h => f4.mono _ _ v w hl h) v w h, fun lo v w w' B hB ⟨a, b, t, p, q, p', q', e, h, h1, h2, h3, h4⟩ ev => ⟨a, b, t, p, q, p', q', e, h, f1.ev _ _ _ _ B hB h1 ev, f2.ev _ _ _ _ B hB h2 ev, f3.ev lo _ _ _ B hB h3 ev, f4.ev _ _ _ _ B hB h4 ev⟩⟩
theorem fresh_tn : Fresh TnT := tr_fresh fresh_vn fresh_mn (fresh_is _) (fresh_prf (fresh_zn _) (fresh_zn _))
theorem tn_arg {lo : Nat} : ∀ v w, TnT lo v w → TR (Vv 3 TnD 1) (Mv 2 TnL 1) (QV 0 [] 1) (PR (Zv 1 1) (Zv 1 1)) v w := tr_imp (vn_vv tn_dl) (mn_mv tn_mdl) nil_qv (pr_imp (zn_zv one_dl) (zn_zv one_dl))
set_option maxHeartbeats 400000 in
theorem spn_w (w : World) (z : Int) (h1 : -9223372036854775808 ≤ z) (h2 : z < 9223372036854775808) :
  CG 14 #[.int .i64 z] w (ZN (z)) := by
 refine calls_sta (sl := [(0, (iV z))]) Tryz.func14 rfl Tryz.ntmps14 (by simp) (args_cons rfl (is_has _) args_nil) ?_
 intro a0 S0
 refine wq [.new (.box 33 zI)] [.inl 0] [.inr 0] S0 ?_ ?_
 ·exact jj1 (nwA wA alloc_int)
 intro _ a1 _ (S1 : Zt [_] [_])
 refine wq [V (iV z), Fw (ZN (z)) w, .put (.inl 2) (.box 33 ((ZN (z)) w.heap.size))] [.inr 0] [] S1 ?_ ?_
 ·exact jj3 (mS 0 0) (cc1 wA (qO 0 3 rfl) (fresh_zn _) (g_rof z h1 h2)) (seA 0 wA (oO 1 4) strct_int shp_z0 shp_zn)
 intro _ a2 _ (S2 : Zt [_] [])
 refine wp_ret ?_
 exact end_one S2 rfl (res_cell S2 0 2 rfl strct_int shp_zn)

abbrev qfzu60 (w : World) : Pr := (LF 1 2 ([(VN 0 (([] : List Int))), (LF 2 1 ([(ZN (0))]))])) w.heap.size
abbrev qfzu61 (w : World) : Pr := (LF 2 3 ([(ZN (1)), (ZN (1)), (ZN (1))])) w.heap.size
set_option maxHeartbeats 4000000 in
theorem ssmall_w (w : World) :
  CG 5 #[] w TnT := by
 refine calls_sta (sl := []) Tryz.func5 rfl Tryz.ntmps5 (by simp) args_nil ?_
 intro a0 S0
 refine wq [.new (.box 37 (Is (.agg #[.slice none 0 0, .slice none 0 0, .slice none 0 0, .bool false, .slice none 0 0, .bool false, .slice none 0 0])))] [.inl 0] [] S0 ?_ ?_
 ·exact jj1 (nwA wA alloc_tree)
 intro _ a1 _ (S1 : Zt [_] [])
 refine wq [Fw (ZN (1)) w, Fw (ZN (1)) w, Fw (ZN (1)) w, V (qfzu61 w), Fw (VN 0 (([] : List Int))) w, Fw (ZN (0)) w, V (Sng 33 2 ((ZN (0)) w.heap.size) w.heap.size), V (qfzu60 w), V (SF [(qfzu61 w), (qfzu60 w)]), Fw (ZN (1)) w, Fw (ZN (1)) w, V (PR ((ZN (1)) w.heap.size) ((ZN (1)) w.heap.size)), V (TR (qfzu61 w) (qfzu60 w) (Is (.slice none 0 0)) (PR ((ZN (1)) w.heap.size) ((ZN (1)) w.heap.size))), .put (.inl 0) (.box 37 (TR (qfzu61 w) (qfzu60 w) (Is (.slice none 0 0)) (PR ((ZN (1)) w.heap.size) ((ZN (1)) w.heap.size))))] [.inr 0] [] S1 ?_ ?_
 ·exact ⟨⟨⟨⟨⟨⟨jj8 (cc1 wA (opnd_const _) (fresh_zn _) (fun w u h => by obtain rfl : u = _ := h; exact spn_w w 1 (by omega) (by omega))) (cc1 wA (opnd_const _) (fresh_zn _) (fun w u h => by obtain rfl : u = _ := h; exact spn_w w 1 (by omega) (by omega))) (cc1 wA (opnd_const _) (fresh_zn _) (fun w u h => by obtain rfl : u = _ := h; exact spn_w w 1 (by omega) (by omega))) (owe_lit3 rfl wA rfl bld3_int (by decide) (oO 0 1) (oO 1 2) (oO 2 3) zn_lit zn_lit zn_lit rfl) (owe_lit0 rfl wA rfl bld0_int (by decide) rfl) (cc1 wA (opnd_const _) (fresh_zn _) (fun w u h => by obtain rfl : u = _ := h; exact spn_w w 0 (by omega) (by omega))) (owe_b1 rfl wA rfl bld_int (oO 5 6) (cel_shp (by decide) shp_zn) rfl) (owe_lit2 rfl wA rfl bld2_row (by decide) (oO 4 5) ((oO 6 7).imp (sng_lf (by decide))) vn_lit vn_lit rfl), owe_build_gv rfl wA rfl (oO 3 4) (oO 7 8) (fun v w h => by obtain ⟨p, c, e⟩ := lf_len v w h; exact ⟨_, _, _, e⟩) (fun v w h => by obtain ⟨p, c, e⟩ := lf_len v w h; exact ⟨_, _, _, e⟩) rfl⟩, cc1 wA (opnd_const _) (fresh_zn _) (fun w u h => by obtain rfl : u = _ := h; exact spn_w w 1 (by omega) (by omega))⟩, cc1 wA (opnd_const _) (fresh_zn _) (fun w u h => by obtain rfl : u = _ := h; exact spn_w w 1 (by omega) (by omega))⟩, owe_build2 rfl wA rfl (oO 9 10) (oO 10 11) shp_zn shp_zn rfl⟩, owe_build_tr rfl wA rfl (oO 8 9) (oO 11 12) (shp_pr shp_zn shp_zn) rfl⟩, seA 0 wA (oO 12 13) strct_tree shp_t0 shp_tr⟩
 intro _ a2 _ (S2 : Zt [_] [])
 refine wp_ret ?_
 exact end_one S2 rfl (res_cell S2 0 0 rfl strct_tree shp_tr)

set_option maxHeartbeats 4000000 in
theorem jobs_few (w : World) (u : Value) (nD nL nT K : Nat) (D : List Int) (L : List (List Int)) (ts : List (Int × Int)) (rn rd : Int) (h : Hs w (TR (Vv nD D K) (Mv nL L K) (QV nT ts K) (PR (Zv rn K) (Zv rd K))) u) (hD : nD ≤ 1048576) (hL : nL ≤ 1048576) (hT : nT ≤ 1048576) (hK : K ≤ 1048576) (lD : D.length = nD) (lL : L.length = nL) (lT : ts.length = nT) (tg : TGood D L ts rn rd) :
  CG 4 #[u, .int .i64 0] w (THREE (IS (.slice none 0 0)) (IS (.slice none 0 0)) (IS (.int .i64 1))) := by
 refine calls_sta (sl := [(0, (TR (Vv nD D K) (Mv nL L K) (QV nT ts K) (PR (Zv rn K) (Zv rd K)))), (1, (iV 0))]) Tryz.func4 rfl Tryz.ntmps4 (by simp) (args_cons rfl (h) (args_cons rfl (is_has _) args_nil)) ?_
 intro a0 S0
 refine wq [.new (.box 37 (TR (Vv nD D K) (Mv nL L K) (QV nT ts K) (PR (Zv rn K) (Zv rd K)))), V (Is (.slice none 0 0)), V (Is (.slice none 0 0)), V (iV 0)] [.inl 0] [.inr 1] S0 ?_ ?_
 ·exact jj4 (bxA wA (oS 0 0) (box_tree shp_tr)) mC mC mC
 intro _ a1 _ (S1 : Zt [_] [_])
 refine wp_seq ?_
 refine wq [V (TR (Vv nD D K) (Mv nL L K) (QV nT ts K) (PR (Zv rn K) (Zv rd K))), V (iV 0), V (iV 0)] [.inr 0] [.inl 2, .inr 0] S1 ?_ ?_
 ·exact jj3 (loA 0 wA strct_tree shp_tr) (ch1 wA (qO 0 18 rfl) (fresh_is _) (fun w u h => tval_g w u nD nL nT K D L ts rn rd h hD hL hT hK lD lL lT tg)) (mO 1 19)
 intro _ a2 _ (S2 : Zt [_] [_,_])
 refine wp_block ?_
 refine wq [V (iV 0), kF, kF] [.inr 0] (.inl 2 :: ur2) S2 ?_ ?_
 ·exact jj3 (mS 0 7) (b_neq_errno_f wA (oO 0 21) (opnd_const _) (h := rfl)) (mO 1 22)
 intro _ a3 _ (S3 : Zt [_] [_,_,_])
 refine wp_cond_false (S3.bool 0 20 rfl) ?_
 refine wq [V (iV 0), kT, kT, .off, .off, kT, kT] [.inr 0] [.inl 6, .inr 2] S3 ?_ ?_
 ·repeat' refine And.intro ?_ ?_
  ·trivial
  ·exact mS 2 1
  ·exact b_lss_int_t wA (oO 0 25) (opnd_const _) (h := by decide)
  ·exact mO 1 26
  ·exact oF 2 27
  ·exact oF 2 27
  ·exact pT wA (oO 2 27) (opnd_const _)
  ·exact mO 5 30
 intro _ a4 _ (S4 : Zt [_] [_,_])
 refine wp_cond_true (S4.bool 0 24 rfl) ?_
 refine wq [V (Is (.slice none 0 0)), V (Is (.slice none 0 0)), V (iV 1)] [.inr 0] [.inl 0, .inl 1, .inl 2] S4 ?_ ?_
 ·exact jj3 mC mC mC
 intro _ a5 _ (S5 : Zt [_] [_,_,_])
 refine wp_ret (inBlkR (thenR ?_))
 exact end_three S5 rfl (res_tmp S5 0 4 rfl) (res_tmp S5 1 5 rfl) (res_tmp S5 2 6 rfl)

set_option maxHeartbeats 400000 in
theorem splitnames_w (w : World) :
  CG 3 #[] w (IS (.bool true)) := by
 refine calls_sta (sl := []) Tryz.func3 rfl Tryz.ntmps3 (by simp) args_nil ?_
 intro a0 S0
 refine wq [kF] [] [] S0 ?_ ?_
 ·exact jj1 mC
 intro _ a1 _ (S1 : Zt [] [])
 refine wq [V (TnT w.heap.size), Fw (THREE (IS (.slice none 0 0)) (IS (.slice none 0 0)) (IS (.int .i64 1))) w, Fw (THREE (IS (.slice none 0 0)) (IS (.slice none 0 0)) (IS (.int .i64 1))) w, V (Is (.slice none 0 0)), V (Is (.slice none 0 0)), V (iV 1), V (Is (.slice none 0 0)), V (Is (.slice none 0 0)), V (iV 1)] [] [.inl 8] S1 ?_ ?_
 ·exact ⟨jj8 (owe_call0 rfl wA rfl  fresh_tn rfl (fun args w => by go_simp) (fun w => ssmall_w w)) (ch2 wA ((qO 0 5 rfl).imp tn_arg) (opnd_const _) (fresh_three (fresh_is _) (fresh_is _) (fresh_is _)) (fun w u v h h2 => by obtain rfl : v = _ := h2.now; exact jobs_few w u 3 2 0 1 TnD TnL [] 1 1 h (by omega) (by omega) (by omega) (by omega) rfl rfl rfl tn_good)) (mO 1 6) (e30 wA (oO 2 4)) (e31 wA (oO 2 4)) (e32 wA (oO 2 4)) (mO 3 7) (mO 4 8), mO 5 9⟩
 intro _ a2 _ (S2 : Zt [] [_])
 refine wq [V (iV 1), kT, kT, kT, kT, kT, kT] [] [.inl 6] S2 ?_ ?_
 ·repeat' refine And.intro ?_ ?_
  ·trivial
  ·exact mS 0 3
  ·exact b_eql_errno_t wA (oO 0 10) (opnd_const _) (h := rfl)
  ·exact mO 1 11
  ·exact pT wA (oO 2 12) (opnd_const _)
  ·exact mO 3 13
  ·exact pT wA (oO 4 14) (opnd_const _)
  ·exact mO 5 15
 intro _ a3 _ (S3 : Zt [] [_])
 refine wp_ret ?_
 exact end_one S3 rfl (res_tmp S3 0 0 rfl)

end Go.Proofs.YtnhfpekpdephjaaGreat
