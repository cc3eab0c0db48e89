import Derived.Test.YtgalppimdmjdcabGreatDoorZPred
import Derived.Test.YtgalppimdmjdcabGreatDoorSetM
import Derived.Test.YtgalppimdmjdcabGreatDoorSetE
import Derived.LoopN
import Derived.Test.YtgalppimdmjdcabGreatDoorSetO
import Derived.Test.YtgalppimdmjdcabGreatDoorSetA
import Derived.Laws.AppendOwn
import Derived.Laws.MakeOwn
/-
  The logic of statements: from statement to statement, into a call and out of it; the calls of the document in that form.
-/
namespace Go.Proofs.YtgalppimdmjdcabGreatDoor
open Go Go.RowKit Nt
set_option linter.unusedSimpArgs false
set_option linter.unusedVariables false
set_option maxRecDepth 20000

theorem thenN {next : Act → World → Prop} {Q : Exit → Act → World → Prop} {a : Act} {w : World} (h : next a w) : Exit.then next Q .normal a w := h
theorem thenR {next : Act → World → Prop} {Q : Exit → Act → World → Prop} {a : Act} {w : World} (h : Q .ret a w) : Exit.then next Q .ret a w := h
theorem wp_stmt_seq {P : Program} {ops : Array Oper} {Q : Exit → Act → World → Prop} {bx : Bxs} {sl : List (Tmp × Pr)} {n : Nat} {B0 : Nat → Prop} {a0 : Act} {W w0 : World} {id : Nat} {draw : Bool} {y : Code} (l : List Kd) (s1 s2 : List (Nat ⊕ Nat)) (hm : P.follows .mixedOrders = true) (T0 : Sta w0 n bx sl B0 a0 W) (hl : l.length = ops.size) (hc : (shapeOk ops l (bx.map (·.1)) n && pickOk ops l bx s1) = true)
    (hop : AllOwed (Owed P ops (Exit.then (y.wp P Q) Q) l bx sl a0 n w0) ops.size)
    (fin : ∀ B a w, Sta w0 n (pickBx ops l bx s1) (pickSl ops l sl s2) B a w → y.wp P Q a w) : (Code.seq (.region id ops draw) y).wp P Q a0 W :=
  wp_seq (wp_stmt l s1 s2 hm T0 hl hc hop fin)

theorem inBlkN {id : Nat} {Q : Exit → Act → World → Prop} {a : Act} {w : World} (h : Q .normal a w) : Exit.inBlock id Q .normal a w := h
theorem inBlkR {id : Nat} {Q : Exit → Act → World → Prop} {a : Act} {w : World} (h : Q .ret a w) : Exit.inBlock id Q .ret a w := h
def resOf (r : ResultVar) (tmps : Array Value) : Sem Value := match r with
  | .tmp t => pure (tmps.getD t undef)
  | .cell a t => do loadVar t (← asAddr (tmps.getD a undef))
theorem results_eq (fn : Func) (tmps : Array Value) : results fn tmps = (do let vs ← fn.results.mapM (fun r => resOf r tmps); pure (if h : vs.size = 1 then vs[0] else .tuple vs)) := by
  unfold results
  congr 1
theorem results_one {P : Program} {fn : Func} {tmps : Array Value} {W : World} {r : ResultVar} {v : Value} (hr : fn.results = #[r]) (h : (resOf r tmps).run P W = .ok v W) : (results fn tmps).run P W = .ok v W := by
  rw [results_eq, hr]
  simp [Sem.run_bind, h]
theorem results_two {P : Program} {fn : Func} {tmps : Array Value} {W : World} {r r' : ResultVar} {v v' : Value} (hr : fn.results = #[r, r']) (h : (resOf r tmps).run P W = .ok v W) (h' : (resOf r' tmps).run P W = .ok v' W) : (results fn tmps).run P W = .ok (.tuple #[v, v']) W := by
  rw [results_eq, hr]
  simp [Sem.run_bind, h, h']
theorem results_three {P : Program} {fn : Func} {tmps : Array Value} {W : World} {r r' r'' : ResultVar} {v v' v'' : Value} (hr : fn.results = #[r, r', r'']) (h : (resOf r tmps).run P W = .ok v W) (h' : (resOf r' tmps).run P W = .ok v' W) (h'' : (resOf r'' tmps).run P W = .ok v'' W) : (results fn tmps).run P W = .ok (.tuple #[v, v', v'']) W := by
  rw [results_eq, hr]
  simp [Sem.run_bind, h, h', h'']
theorem res_tmp {w0 W : World} {n : Nat} {bx : Bxs} {sl : List (Tmp × Pr)} {B : Nat → Prop} {a : Act} (S : Sta w0 n bx sl B a W) (k t : Nat) {φ : Pr} (h : sl[k]? = some (t, φ)) : ∃ v, (resOf (.tmp t) a.tmps).run Tryz.prog W = .ok v W ∧ φ v W := ⟨_, by simp only [resOf, Sem.run_pure], S.slot k t h⟩
theorem res_cell {w0 W : World} {n : Nat} {bx : Bxs} {sl : List (Tmp × Pr)} {B : Nat → Prop} {a : Act} (S : Sta w0 n bx sl B a W) (k t : Nat) {T m : Nat} {φ : Pr} (h : bx[k]? = some (t, .box T φ)) (hT : Strct T m) (hS : Shp m φ) : ∃ v, (resOf (.cell t T) a.tmps).run Tryz.prog W = .ok v W ∧ φ v W := by
  obtain ⟨b, u, hp, hu, hφ⟩ := S.content k t h
  obtain ⟨cs, rfl, hn, _⟩ := hS u W hφ
  obtain ⟨⟨d, hu', hd⟩, hi⟩ := hT
  refine ⟨.agg cs, ?_, hφ⟩
  have := run_loadVar_mid (P := Tryz.prog) W b 0 T cs.toList d (range_of hu) hu' hd (by rw [hi]; simp [hn])
  simp only [resOf, hp, Sem.run_bind]
  simp [asAddr, this]
/-- Out of a call. -/
theorem end_one {w0 W : World} {n : Nat} {bx : Bxs} {sl : List (Tmp × Pr)} {B : Nat → Prop} {a : Act} {fn : Func} {r : ResultVar} {ψ : Nat → Pr} (S : Sta w0 n bx sl B a W) (hr : fn.results = #[r]) (h : ∃ v, (resOf r a.tmps).run Tryz.prog W = .ok v W ∧ ψ w0.heap.size v W) : bodyPost Tryz.prog fn (Gives ψ w0) .ret a W := by
  obtain ⟨v, h1, h2⟩ := h
  exact bodyPost_ret (results_one hr h1) S.dfr ⟨v, rfl, S.ent, h2⟩
theorem end_two {w0 W : World} {n : Nat} {bx : Bxs} {sl : List (Tmp × Pr)} {B : Nat → Prop} {a : Act} {fn : Func} {r r' : ResultVar} {φ ψ : Nat → Pr} (S : Sta w0 n bx sl B a W) (hr : fn.results = #[r, r']) (h : ∃ v, (resOf r a.tmps).run Tryz.prog W = .ok v W ∧ φ w0.heap.size v W) (h' : ∃ v, (resOf r' a.tmps).run Tryz.prog W = .ok v W ∧ ψ w0.heap.size v W) : bodyPost Tryz.prog fn (Gives (TWO φ ψ) w0) .ret a W := by
  obtain ⟨v, h1, h2⟩ := h
  obtain ⟨v', h1', h2'⟩ := h'
  exact bodyPost_ret (results_two hr h1 h1') S.dfr ⟨_, rfl, S.ent, v, v', rfl, h2, h2'⟩
theorem end_three {w0 W : World} {n : Nat} {bx : Bxs} {sl : List (Tmp × Pr)} {B : Nat → Prop} {a : Act} {fn : Func} {r r' r'' : ResultVar} {φ ψ χ : Nat → Pr} (S : Sta w0 n bx sl B a W) (hr : fn.results = #[r, r', r'']) (h : ∃ v, (resOf r a.tmps).run Tryz.prog W = .ok v W ∧ φ w0.heap.size v W) (h' : ∃ v, (resOf r' a.tmps).run Tryz.prog W = .ok v W ∧ ψ w0.heap.size v W) (h'' : ∃ v, (resOf r'' a.tmps).run Tryz.prog W = .ok v W ∧ χ w0.heap.size v W) : bodyPost Tryz.prog fn (Gives (THREE φ ψ χ) w0) .ret a W := by
  obtain ⟨v, h1, h2⟩ := h
  obtain ⟨v', h1', h2'⟩ := h'
  obtain ⟨v'', h1'', h2''⟩ := h''
  exact bodyPost_ret (results_three hr h1 h1' h1'') S.dfr ⟨_, rfl, S.ent, v, v', v'', rfl, h2, h2', h2''⟩
/-- Into a call. -/
theorem calls_sta {f : FuncId} {fn : Func} {c : Code} {args : Array Value} {w : World} {R : Ending → World → Prop} {n : Nat} {sl : List (Tmp × Pr)} (hf : Tryz.prog.funcs[f]? = some fn) (hb : fn.body = some c) (hn : fn.ntmps = n) (hs : args.size ≤ n)
    (h : ∀ x ∈ sl, ∃ v, args[x.1]? = some v ∧ Has (fun _ => False) w x.2 v) (k : ∀ a, Sta w n [] sl (fun _ => False) a w → c.wp Tryz.prog (bodyPost Tryz.prog fn R) a w) : Calls Tryz.prog f args w R := by
  refine calls_of_wp hf hb (k _ (sta_start ?_ rfl (fun x hx => ?_)))
  · simp [hn]; omega
  · obtain ⟨v, hv, hh⟩ := h x hx
    have hlt : x.1 < args.size := (Array.getElem?_eq_some_iff.1 hv).1
    have e : (Act.eval { tmps := args ++ Array.replicate (fn.ntmps - args.size) undef, defers := [] } (.tmp x.1)) = v := by
      simp only [Act.eval, Array.getD_eq_getD_getElem?, Array.getElem?_append_left hlt, hv, Option.getD_some]
    rw [e]
    exact hh
theorem args_nil {args : Array Value} {w : World} : ∀ x ∈ ([] : List (Tmp × Pr)), ∃ v, args[x.1]? = some v ∧ Has (fun _ => False) w x.2 v := fun _ h => nomatch h
theorem args_cons {args : Array Value} {w : World} {t : Tmp} {φ : Pr} {v : Value} {sl : List (Tmp × Pr)} (h : args[t]? = some v) (hv : Has (fun _ => False) w φ v) (r : ∀ x ∈ sl, ∃ v, args[x.1]? = some v ∧ Has (fun _ => False) w x.2 v) : ∀ x ∈ ((t, φ) :: sl), ∃ v, args[x.1]? = some v ∧ Has (fun _ => False) w x.2 v := fun x hx => by
  rcases List.mem_cons.1 hx with rfl | hx
  · exact ⟨v, h, hv⟩
  · exact r x hx
theorem follows : Tryz.prog.follows .mixedOrders = true := by kernel_rfl
theorem Gives.cast {φ ψ : Nat → Pr} {w : World} {f : FuncId} {args : Array Value} (h : Calls Tryz.prog f args w (Gives φ w)) (e : φ = ψ) : Calls Tryz.prog f args w (Gives ψ w) := e ▸ h

theorem run_eql_int_t (ρ : Operand → Value) (o : Oper) (x y : Operand) (w : World) (a b : Int) (h : a = b) (h1 : ρ x = .int .i64 a) (h2 : ρ y = .int .i64 b) : (execOp ρ { o with op := .binOp .eql 3 x y 3 }).run Tryz.prog w = .ok (.value (.bool true)) w := by
  unfold execOp
  go_simp
theorem run_eql_int_f (ρ : Operand → Value) (o : Oper) (x y : Operand) (w : World) (a b : Int) (h : a ≠ b) (h1 : ρ x = .int .i64 a) (h2 : ρ y = .int .i64 b) : (execOp ρ { o with op := .binOp .eql 3 x y 3 }).run Tryz.prog w = .ok (.value (.bool false)) w := by
  unfold execOp
  go_simp
theorem run_lss_int_t (ρ : Operand → Value) (o : Oper) (x y : Operand) (w : World) (a b : Int) (h : a < b) (h1 : ρ x = .int .i64 a) (h2 : ρ y = .int .i64 b) : (execOp ρ { o with op := .binOp .lss 3 x y 3 }).run Tryz.prog w = .ok (.value (.bool true)) w := by
  unfold execOp
  go_simp
theorem run_lss_int_f (ρ : Operand → Value) (o : Oper) (x y : Operand) (w : World) (a b : Int) (h : b ≤ a) (h1 : ρ x = .int .i64 a) (h2 : ρ y = .int .i64 b) : (execOp ρ { o with op := .binOp .lss 3 x y 3 }).run Tryz.prog w = .ok (.value (.bool false)) w := by
  unfold execOp
  go_simp
theorem run_gtr_int_t (ρ : Operand → Value) (o : Oper) (x y : Operand) (w : World) (a b : Int) (h : b < a) (h1 : ρ x = .int .i64 a) (h2 : ρ y = .int .i64 b) : (execOp ρ { o with op := .binOp .gtr 3 x y 3 }).run Tryz.prog w = .ok (.value (.bool true)) w := by
  unfold execOp
  go_simp
theorem run_gtr_int_f (ρ : Operand → Value) (o : Oper) (x y : Operand) (w : World) (a b : Int) (h : a ≤ b) (h1 : ρ x = .int .i64 a) (h2 : ρ y = .int .i64 b) : (execOp ρ { o with op := .binOp .gtr 3 x y 3 }).run Tryz.prog w = .ok (.value (.bool false)) w := by
  unfold execOp
  go_simp
theorem run_geq_int_t (ρ : Operand → Value) (o : Oper) (x y : Operand) (w : World) (a b : Int) (h : b ≤ a) (h1 : ρ x = .int .i64 a) (h2 : ρ y = .int .i64 b) : (execOp ρ { o with op := .binOp .geq 3 x y 3 }).run Tryz.prog w = .ok (.value (.bool true)) w := by
  unfold execOp
  go_simp
theorem run_geq_int_f (ρ : Operand → Value) (o : Oper) (x y : Operand) (w : World) (a b : Int) (h : a < b) (h1 : ρ x = .int .i64 a) (h2 : ρ y = .int .i64 b) : (execOp ρ { o with op := .binOp .geq 3 x y 3 }).run Tryz.prog w = .ok (.value (.bool false)) w := by
  unfold execOp
  go_simp
theorem run_neq_errno_f (ρ : Operand → Value) (o : Oper) (x y : Operand) (w : World) (a b : Int) (h : a = b) (h1 : ρ x = .int .i64 a) (h2 : ρ y = .int .i64 b) : (execOp ρ { o with op := .binOp .neq 35 x y 35 }).run Tryz.prog w = .ok (.value (.bool false)) w := by
  unfold execOp
  go_simp
theorem run_not (ρ : Operand → Value) (o : Oper) (x : Operand) (w : World) (s : Bool) (h1 : ρ x = .bool s) : (execOp ρ { o with op := .unOp .not 4 x }).run Tryz.prog w = .ok (.value (.bool (!s))) w := by
  unfold execOp
  go_simp
theorem build_int0 (ρ : Operand → Value) (o : Oper) (w : World) : (execOp ρ { o with op := .build 24 #[] }).run Tryz.prog w = .ok (.value (.agg #[.bool false, .slice none 0 0])) w := by
  unfold execOp
  go_simp
theorem owe_build_int {ops : Array Oper} {l : List Kd} {bx : Bxs} {sl : List (Tmp × Pr)} {i : Nat} {o : Oper} {Q : Exit → Act → World → Prop} {a0 : Act} {n : Nat} {w0 : World} (ho : ops[i]? = some o) (hw : Wants ops l bx sl i o) (hop : o.op = .build 24 #[]) (hk : kdAt l i = .val zI) : Owed Tryz.prog ops Q l bx sl a0 n w0 i :=
  owe_is ho hw hk fun vs B a w c => by
    rw [← build_int0 a.eval o w]
    unfold execOp
    rw [hop]
theorem nn_len {m lo : Nat} : ∀ v w, NN m lo v w → ∃ p c, v = .slice p (digs m).length c := fun v w ⟨r, c, e, _⟩ => ⟨_, _, e⟩
theorem wrap64_id {x : Int} (h1 : -9223372036854775808 ≤ x) (h2 : x ≤ 9223372036854775807) : IntKind.i64.wrap x = x := by
  rw [IntKind.wrap_i64]
  omega
theorem run_add_int (ρ : Operand → Value) (o : Oper) (x y : Operand) (w : World) (a b r : Int) (h : a + b = r ∧ -9223372036854775808 ≤ r ∧ r ≤ 9223372036854775807) (h1 : ρ x = .int .i64 a) (h2 : ρ y = .int .i64 b) : (execOp ρ { o with op := .binOp .add 3 x y 3 }).run Tryz.prog w = .ok (.value (.int .i64 r)) w := by
  obtain ⟨rfl, h3, h4⟩ := h
  have h5 : IntKind.i64.wrap (a + b) = a + b := wrap64_id h3 h4
  unfold execOp
  go_simp
theorem run_sub_int (ρ : Operand → Value) (o : Oper) (x y : Operand) (w : World) (a b r : Int) (h : a - b = r ∧ -9223372036854775808 ≤ r ∧ r ≤ 9223372036854775807) (h1 : ρ x = .int .i64 a) (h2 : ρ y = .int .i64 b) : (execOp ρ { o with op := .binOp .sub 3 x y 3 }).run Tryz.prog w = .ok (.value (.int .i64 r)) w := by
  obtain ⟨rfl, h3, h4⟩ := h
  have h5 : IntKind.i64.wrap (a - b) = a - b := wrap64_id h3 h4
  unfold execOp
  go_simp
theorem run_quo_int (ρ : Operand → Value) (o : Oper) (x y : Operand) (w : World) (a b r : Int) (h : a / b = r ∧ 0 ≤ a ∧ 0 < b ∧ a ≤ 9223372036854775807) (h1 : ρ x = .int .i64 a) (h2 : ρ y = .int .i64 b) : (execOp ρ { o with op := .binOp .quo 3 x y 3 }).run Tryz.prog w = .ok (.value (.int .i64 r)) w := by
  obtain ⟨rfl, h3, h4, h5⟩ := h
  have h6 : 0 ≤ a / b := Int.ediv_nonneg h3 (by omega)
  have h7 : a / b ≤ a := Int.ediv_le_self b h3
  have h8 : b ≠ 0 := by omega
  have h9 : a.tdiv b = a / b := Int.tdiv_eq_ediv_of_nonneg h3
  have h10 : IntKind.i64.wrap (a / b) = a / b := wrap64_id (by omega) (by omega)
  unfold execOp
  go_simp
theorem run_rem_int (ρ : Operand → Value) (o : Oper) (x y : Operand) (w : World) (a b r : Int) (h : a % b = r ∧ 0 ≤ a ∧ 0 < b ∧ b ≤ 9223372036854775807) (h1 : ρ x = .int .i64 a) (h2 : ρ y = .int .i64 b) : (execOp ρ { o with op := .binOp .rem 3 x y 3 }).run Tryz.prog w = .ok (.value (.int .i64 r)) w := by
  obtain ⟨rfl, h3, h4, h5⟩ := h
  have h6 := Int.emod_nonneg a (by omega : b ≠ 0)
  have h7 := Int.emod_lt_of_pos a h4
  have h8 : b ≠ 0 := by omega
  have h9 : a.tmod b = a % b := Int.tmod_eq_emod_of_nonneg h3
  unfold execOp
  go_simp
/-- Fewer words are kept. -/
def takeAt {α : Type} (l : List α) : List Nat → List α
  | [] => []
  | k :: r => (match l[k]? with | some x => [x] | none => []) ++ takeAt l r
theorem takeAt_mem {α : Type} (l : List α) : ∀ (s : List Nat) (x : α), x ∈ takeAt l s → x ∈ l
  | [], _, h => by cases h
  | k :: r, x, h => by
    simp only [takeAt, List.mem_append] at h
    rcases h with h | h
    · split at h
      · rename_i y e
        simp at h
        subst h
        exact List.mem_of_getElem? e
      · cases h
    · exact takeAt_mem l r x h
theorem Sta.sub {w0 W : World} {n : Nat} {bx : Bxs} {sl : List (Tmp × Pr)} {B : Nat → Prop} {a : Act} (S : Sta w0 n bx sl B a W) (s1 s2 : List Nat) : Sta w0 n (takeAt bx s1) (takeAt sl s2) B a W :=
  ⟨S.ent, S.bnd, S.siz, S.dfr, fun x hx => S.box x (takeAt_mem _ _ _ hx), fun x hx y hy => S.sep x (takeAt_mem _ _ _ hx) y (takeAt_mem _ _ _ hy), fun x hx => S.slt x (takeAt_mem _ _ _ hx)⟩

/-! The document's calls. -/
theorem g_rof (n : Int) (h1 : -9223372036854775808 ≤ n) (h2 : n < 9223372036854775808) : ∀ w u, Is (.int .i64 n) u w → Calls Tryz.prog 12 #[u] w (Gives (ZN n) w) := fun w u e => by
  obtain rfl : u = _ := e
  refine (zrof_c w n h1 h2).mono ?_
  rintro e w' ⟨r, cr, rfl, Z⟩
  exact za_gives Z
theorem g_rsign {A : Int} {ka : Nat} (hk : ka ≤ 35184372088832) : ∀ w u, Zv A ka u w → Calls Tryz.prog 25 #[u] w (Gives (IS (.int .i64 A.sign)) w) := by
  rintro w u ⟨s, p, n, c, xs, rfl, h, rfl, hn⟩
  refine (zrsign_c w s p n c xs h (by omega)).mono ?_
  rintro e w' ⟨rfl, hb⟩
  exact ⟨_, rfl, hb, rfl⟩
section
variable {ops : Array Oper} {l : List Kd} {bx : Bxs} {sl : List (Tmp × Pr)} {i : Nat} {o : Oper} {Q : Exit → Act → World → Prop} {a0 : Act} {n : Nat} {w0 : World}
theorem b_lss_int_t {a : Int} {b : Int} {x y : Operand} (hw : Wants ops l bx sl i o) (hx : Opnd ops l bx sl i x (Is (.int .i64 a))) (hy : Opnd ops l bx sl i y (Is (.int .i64 b))) (ho : ops[i]? = some o := by exact rfl) (hop : o.op = .binOp .lss 3 x y 3 := by exact rfl) (hk : kdAt l i = .val (Is (.bool true)) := by exact rfl) (h : a < b := by omega) : Owed Tryz.prog ops Q l bx sl a0 n w0 i := owe_bin ho hw hop hx hy hk (fun ρ w h1 h2 => run_lss_int_t ρ _ _ _ w _ _ h h1 h2)
theorem b_lss_int_f {a : Int} {b : Int} {x y : Operand} (hw : Wants ops l bx sl i o) (hx : Opnd ops l bx sl i x (Is (.int .i64 a))) (hy : Opnd ops l bx sl i y (Is (.int .i64 b))) (ho : ops[i]? = some o := by exact rfl) (hop : o.op = .binOp .lss 3 x y 3 := by exact rfl) (hk : kdAt l i = .val (Is (.bool false)) := by exact rfl) (h : b ≤ a := by omega) : Owed Tryz.prog ops Q l bx sl a0 n w0 i := owe_bin ho hw hop hx hy hk (fun ρ w h1 h2 => run_lss_int_f ρ _ _ _ w _ _ h h1 h2)
theorem b_gtr_int_t {a : Int} {b : Int} {x y : Operand} (hw : Wants ops l bx sl i o) (hx : Opnd ops l bx sl i x (Is (.int .i64 a))) (hy : Opnd ops l bx sl i y (Is (.int .i64 b))) (ho : ops[i]? = some o := by exact rfl) (hop : o.op = .binOp .gtr 3 x y 3 := by exact rfl) (hk : kdAt l i = .val (Is (.bool true)) := by exact rfl) (h : b < a := by omega) : Owed Tryz.prog ops Q l bx sl a0 n w0 i := owe_bin ho hw hop hx hy hk (fun ρ w h1 h2 => run_gtr_int_t ρ _ _ _ w _ _ h h1 h2)
theorem b_gtr_int_f {a : Int} {b : Int} {x y : Operand} (hw : Wants ops l bx sl i o) (hx : Opnd ops l bx sl i x (Is (.int .i64 a))) (hy : Opnd ops l bx sl i y (Is (.int .i64 b))) (ho : ops[i]? = some o := by exact rfl) (hop : o.op = .binOp .gtr 3 x y 3 := by exact rfl) (hk : kdAt l i = .val (Is (.bool false)) := by exact rfl) (h : a ≤ b := by omega) : Owed Tryz.prog ops Q l bx sl a0 n w0 i := owe_bin ho hw hop hx hy hk (fun ρ w h1 h2 => run_gtr_int_f ρ _ _ _ w _ _ h h1 h2)
theorem b_geq_int_t {a : Int} {b : Int} {x y : Operand} (hw : Wants ops l bx sl i o) (hx : Opnd ops l bx sl i x (Is (.int .i64 a))) (hy : Opnd ops l bx sl i y (Is (.int .i64 b))) (ho : ops[i]? = some o := by exact rfl) (hop : o.op = .binOp .geq 3 x y 3 := by exact rfl) (hk : kdAt l i = .val (Is (.bool true)) := by exact rfl) (h : b ≤ a := by omega) : Owed Tryz.prog ops Q l bx sl a0 n w0 i := owe_bin ho hw hop hx hy hk (fun ρ w h1 h2 => run_geq_int_t ρ _ _ _ w _ _ h h1 h2)
theorem b_geq_int_f {a : Int} {b : Int} {x y : Operand} (hw : Wants ops l bx sl i o) (hx : Opnd ops l bx sl i x (Is (.int .i64 a))) (hy : Opnd ops l bx sl i y (Is (.int .i64 b))) (ho : ops[i]? = some o := by exact rfl) (hop : o.op = .binOp .geq 3 x y 3 := by exact rfl) (hk : kdAt l i = .val (Is (.bool false)) := by exact rfl) (h : a < b := by omega) : Owed Tryz.prog ops Q l bx sl a0 n w0 i := owe_bin ho hw hop hx hy hk (fun ρ w h1 h2 => run_geq_int_f ρ _ _ _ w _ _ h h1 h2)
theorem b_eql_int_t {a : Int} {b : Int} {x y : Operand} (hw : Wants ops l bx sl i o) (hx : Opnd ops l bx sl i x (Is (.int .i64 a))) (hy : Opnd ops l bx sl i y (Is (.int .i64 b))) (ho : ops[i]? = some o := by exact rfl) (hop : o.op = .binOp .eql 3 x y 3 := by exact rfl) (hk : kdAt l i = .val (Is (.bool true)) := by exact rfl) (h : a = b := by omega) : Owed Tryz.prog ops Q l bx sl a0 n w0 i := owe_bin ho hw hop hx hy hk (fun ρ w h1 h2 => run_eql_int_t ρ _ _ _ w _ _ h h1 h2)
theorem b_eql_int_f {a : Int} {b : Int} {x y : Operand} (hw : Wants ops l bx sl i o) (hx : Opnd ops l bx sl i x (Is (.int .i64 a))) (hy : Opnd ops l bx sl i y (Is (.int .i64 b))) (ho : ops[i]? = some o := by exact rfl) (hop : o.op = .binOp .eql 3 x y 3 := by exact rfl) (hk : kdAt l i = .val (Is (.bool false)) := by exact rfl) (h : a ≠ b := by omega) : Owed Tryz.prog ops Q l bx sl a0 n w0 i := owe_bin ho hw hop hx hy hk (fun ρ w h1 h2 => run_eql_int_f ρ _ _ _ w _ _ h h1 h2)
theorem b_neq_errno_f {a : Int} {b : Int} {x y : Operand} (hw : Wants ops l bx sl i o) (hx : Opnd ops l bx sl i x (Is (.int .i64 a))) (hy : Opnd ops l bx sl i y (Is (.int .i64 b))) (ho : ops[i]? = some o := by exact rfl) (hop : o.op = .binOp .neq 35 x y 35 := by exact rfl) (hk : kdAt l i = .val (Is (.bool false)) := by exact rfl) (h : a = b := by omega) : Owed Tryz.prog ops Q l bx sl a0 n w0 i := owe_bin ho hw hop hx hy hk (fun ρ w h1 h2 => run_neq_errno_f ρ _ _ _ w _ _ h h1 h2)
theorem b_add_int {a : Int} {b : Int} {r : Int} {x y : Operand} (hw : Wants ops l bx sl i o) (hx : Opnd ops l bx sl i x (Is (.int .i64 a))) (hy : Opnd ops l bx sl i y (Is (.int .i64 b))) (ho : ops[i]? = some o := by exact rfl) (hop : o.op = .binOp .add 3 x y 3 := by exact rfl) (hk : kdAt l i = .val (Is (.int .i64 r)) := by exact rfl) (h : a + b = r ∧ -9223372036854775808 ≤ r ∧ r ≤ 9223372036854775807 := by exact ⟨by omega, by omega, by omega⟩) : Owed Tryz.prog ops Q l bx sl a0 n w0 i := owe_bin ho hw hop hx hy hk (fun ρ w h1 h2 => run_add_int ρ _ _ _ w _ _ _ h h1 h2)
theorem b_sub_int {a : Int} {b : Int} {r : Int} {x y : Operand} (hw : Wants ops l bx sl i o) (hx : Opnd ops l bx sl i x (Is (.int .i64 a))) (hy : Opnd ops l bx sl i y (Is (.int .i64 b))) (ho : ops[i]? = some o := by exact rfl) (hop : o.op = .binOp .sub 3 x y 3 := by exact rfl) (hk : kdAt l i = .val (Is (.int .i64 r)) := by exact rfl) (h : a - b = r ∧ -9223372036854775808 ≤ r ∧ r ≤ 9223372036854775807 := by exact ⟨by omega, by omega, by omega⟩) : Owed Tryz.prog ops Q l bx sl a0 n w0 i := owe_bin ho hw hop hx hy hk (fun ρ w h1 h2 => run_sub_int ρ _ _ _ w _ _ _ h h1 h2)
theorem b_not {s : Bool} {x : Operand} (hw : Wants ops l bx sl i o) (hx : Opnd ops l bx sl i x (Is (.bool s))) (ho : ops[i]? = some o := by exact rfl) (hop : o.op = .unOp .not 4 x := by exact rfl) (hk : kdAt l i = .val (Is (.bool (!s))) := by exact rfl)  : Owed Tryz.prog ops Q l bx sl a0 n w0 i := owe_un (x := x) ho hw hop hx hk (fun ρ w h1 => run_not ρ _ _ w _ h1)
end
end Go.Proofs.YtgalppimdmjdcabGreatDoor

/-
  The rules of the logic of statements for rows that a call makes, grows and hands on.
-/
namespace Go.Proofs.YtgalppimdmjdcabGreatDoor
open Go Go.RowKit Nt
set_option linter.unusedSimpArgs false
set_option linter.unusedVariables false
set_option maxRecDepth 20000

/-- A slice of m elements in a block of its own, whose cells are so. -/
def Src (e size m : Nat) (χ : List Value → World → Prop) : Pr := fun v w => ∃ (g c : Nat) (ys : List Value), v = .slice (some ⟨g, 0, none⟩) m c ∧ (ys.length = m * size ∧ m ≤ c ∧ c ≤ maxLen) ∧ w.heap[g]? = some (.cells ys.toArray e (0, 0)) ∧ (∀ u ∈ ys, u.oneCell' = true) ∧ χ ys w
section
variable {ops : Array Oper} {l : List Kd} {bx : Bxs} {sl : List (Tmp × Pr)} {i : Nat} {o : Oper} {Q : Exit → Act → World → Prop} {a0 : Act} {n0 : Nat} {w0 : World}

/-- Just these cells. -/
def EqL (xs : List Value) : List Value → World → Prop := fun ys _ => ys = xs
/-- A row of noughts is made. -/
theorem owe_make {x : Operand} {n : Nat} (ho : ops[i]? = some o) (hw : Wants ops l bx sl i o) (hop : o.op = .makeSlice 22 x x) (hx : Opnd ops l bx sl i x (iV (n : Nat))) (hn : n ≤ 70368744177664) (hk : kdAt l i = .new (.row 64 1 n (EqL (U (List.replicate n 0))))) : Owed Tryz.prog ops Q l bx sl a0 n0 w0 i := fun vs B a w c o' ho' => by
  obtain rfl : o = o' := Option.some.inj (ho.symm.trans ho')
  have hxv : a.eval x = .int .i64 (n : Nat) := (hx a0 n0 w0 vs B a w c).now
  have h : (execOp a.eval o).run Tryz.prog w = .ok (.value (.slice (some ⟨w.heap.size, 0, none⟩) n n)) (w.alloc (.cells (U (List.replicate n 0)).toArray 64)) := by
    have := make_u32 n hn w
    unfold execOp
    rw [hop]
    simp only [hxv, Sem.run_bind, this, Result.andThen_ok, Sem.run_pure]
  simp only [wpOp, ho]
  rw [if_pos (hw a0 n0 w0 vs B a w c)]
  refine Or.inl ?_
  unfold Oper.wp
  rw [h, Oper.upon_value]
  refine ⟨_, rfl, ?_⟩
  rw [hk]
  have hb : Below w.heap.size w (w.alloc (.cells (U (List.replicate n 0)).toArray 64)) := (Below.refl _ _).alloc (Nat.le_refl _) _
  refine ⟨hb, fun b hv => ?_, U (List.replicate n 0), ⟨by simp [U], Or.inr ⟨w.heap.size, n, _, rfl, c.lo, heap_alloc_last _ _, Nat.le_refl _, by unfold maxLen; omega, by simp [U], by simp [U]⟩⟩, fun b hv => Or.inr hv, fun _ _ => rfl⟩
  simp [Rk.set, vblock] at hv
  subst hv
  simp
/-- What lies from an element on. -/
def Tail (a0 : Act) (t n off : Nat) : Pr := fun v _ => ∃ g c, a0.eval (.tmp t) = .slice (some ⟨g, 0, none⟩) n c ∧ v = .slice (some ⟨g, off, none⟩) (n - off) (c - off)
theorem owe_tail {x y : Operand} {t k n off : Nat} {χ : List Value → World → Prop} (ho : ops[i]? = some o) (hw : Wants ops l bx sl i o) (hop : o.op = .slice 22 x (some y) none none) (hx : Opnd ops l bx sl i x (Is (a0.eval (.tmp t)))) (hb : bx[k]? = some (t, .row 64 1 n χ)) (hn : unturned ops l i (.inl t) = true) (hy : Opnd ops l bx sl i y (iV (off : Nat))) (hlt : off < n) (hk : kdAt l i = .val (Tail a0 t n off)) : Owed Tryz.prog ops Q l bx sl a0 n0 w0 i :=
  owe_val ho hw hk fun vs B a w c => by
    have hxv : a.eval x = a0.eval (.tmp t) := (hx a0 n0 w0 vs B a w c).now
    have hyv : a.eval y = .int .i64 (off : Nat) := (hy a0 n0 w0 vs B a w c).now
    obtain ⟨xs, ⟨hl, hown⟩, _, _⟩ := c.box t _ (List.mem_of_getElem? hb) hn
    rcases hown with ⟨_, h0⟩ | ⟨g, cap, cur, e, _, hg, hnc, hcm, _⟩
    · omega
    · rw [e] at hxv
      have hm : cap ≤ 9223372036854775807 := by unfold maxLen at hcm; omega
      refine ⟨.slice (some ⟨g, off, none⟩) (n - off) (cap - off), ?_, fun _ _ => ⟨g, cap, e, rfl⟩⟩
      unfold execOp
      rw [hop]
      have h1 : (0 : Int) ≤ (off : Int) := by omega
      have h2 : (off : Int) ≤ (n : Int) := by omega
      have h3 : off < cap := by omega
      have h5 : off ≠ cap := by omega
      have h6 : off ≤ n := by omega
      clear hx hy hk hop ho c hb
      generalize a.eval = ρ at hxv hyv
      go_simp
      intro e'
      omega
/-- Limbs are copied into a row of the call's own. -/
theorem owe_copy {x y : Operand} {t k n off m kk : Nat} {xs ys : List Nat} {φ : Pr} (ho : ops[i]? = some o) (hw : Wants ops l bx sl i o) (hop : o.op = .call { callee := .builtin .copy, args := #[x, y], argTypes := #[22, 22] }) (hx : Opnd ops l bx sl i x (Tail a0 t n off)) (hb : bx[k]? = some (t, .row 64 1 n (EqL (U xs)))) (hn : unturned ops l i (.inl t) = true)
    (hy : Opnd ops l bx sl i y φ) (hφ : ∀ v w, φ v w → ∃ p c, v = .slice p m c ∧ Sl w p m c ys) (hm : 0 < m) (hfit : off + m ≤ n) (hk : kdAt l i = .put (.inl t) (.row 64 1 n (EqL (U (xs.take off ++ ys ++ xs.drop (off + m)))))) : Owed Tryz.prog ops Q l bx sl a0 n0 w0 i := fun vs B a w c o' ho' => by
  obtain rfl : o = o' := Option.some.inj (ho.symm.trans ho')
  obtain ⟨g, cap', hg0, hxv⟩ := (hx a0 n0 w0 vs B a w c).now
  obtain ⟨p, cy, hyv, hs⟩ := hφ _ w (hy a0 n0 w0 vs B a w c).now
  obtain ⟨zs, ⟨hl, hown⟩, hB, hχ⟩ := c.box t _ (List.mem_of_getElem? hb) hn
  have hz : zs = U xs := hχ w (Ev.refl _ _)
  subst hz
  rcases hown with ⟨_, h0⟩ | ⟨g', cap, cur, e, hlo, hg, hnc, hcm, hcs, htk⟩
  · omega
  rw [hg0] at e
  simp only [Value.slice.injEq, Option.some.injEq, Addr.mk.injEq] at e
  obtain ⟨⟨rfl, _⟩, _, rfl⟩ := e
  obtain ⟨b, ob, rfl, _⟩ := hs.lie 0 (by rw [hs.len]; exact hm)
  have hmc : m ≤ cy := hs.cap
  have hsrc : ∀ j v, (U ys)[j]? = some v → w.cell? ((⟨b, ob, none⟩ : Addr).add j) = some v := fun j v hv => by
    have hj : j < ys.length := by
      have := (List.getElem?_eq_some_iff.1 hv).1
      simpa [U] using this
    rw [U_get ys j hj] at hv
    obtain ⟨b', o', e', hc⟩ := hs.lie j hj
    simp only [Option.some.injEq, Addr.mk.injEq] at e'
    obtain ⟨rfl, rfl, _⟩ := e'
    rw [addr_add, ← hv]
    exact hc
  have hxl : xs.length = n := by rw [← U_length]; simpa using hl
  have hr := run_copy_row Tryz.prog w 22 22 o.type 64 g off (n - off) (cap' - off) ⟨b, ob, none⟩ m cy cur 64 (U ys) Tryz.underlying22 (by obtain ⟨i0, hi, _, hz1, _⟩ := info_parts infoU32; rw [hi]; simp [hz1]) hg
    (by rw [U_length, hs.len]; exact (Nat.min_eq_left (by omega)).symm) hsrc (by rw [U_length, hs.len]; omega) (oneCell_U ys)
  have h : (execOp a.eval o).run Tryz.prog w = .ok (.value (goInt (U ys).length)) (w.setRow g (cur.toList.take off ++ U ys ++ cur.toList.drop (off + (U ys).length)).toArray) := by
    unfold execOp
    rw [hop]
    simp only [resolve, invoke, builtin, Sem.run_bind, Sem.run_pure, Result.andThen_ok, List.map_toArray, List.map_cons, List.map_nil, hxv, hyv, hr]
  simp only [wpOp, ho]
  rw [if_pos (hw a0 n0 w0 vs B a w c)]
  refine Or.inl ?_
  unfold Oper.wp
  rw [h, Oper.upon_value]
  refine ⟨_, rfl, ?_⟩
  rw [hk]
  have hyl : (U ys).length = m := by rw [U_length, hs.len]
  rw [hyl]
  refine out_put (x := .inl t) (List.mem_of_getElem? hb) rfl rfl ⟨rfl, rfl, rfl, Nat.le_of_eq (setRow_size _ _ _).symm, fun k _ hn' => setRow_other _ _ _ _ (fun e => hn' (by show vblock (a0.eval (.tmp t)) = _; rw [hg0, e]; rfl))⟩ ⟨U (xs.take off ++ ys ++ xs.drop (off + m)), ⟨?_, Or.inr ⟨g, cap', _, hg0, hlo, setRow_heap w _ _ _ _ _ hg, hnc, hcm, ?_, ?_⟩⟩, hB, fun _ _ => rfl⟩
  · simp only [U_length, List.length_append, List.length_take, List.length_drop, hs.len, hxl]
    omega
  · simp only [List.size_toArray, List.length_append, List.length_take, List.length_drop, Array.length_toList, hyl]
    omega
  · have hcl : cur.toList.length = cap' := by simpa using hcs
    have hnl : n ≤ cur.toList.length := by omega
    have htk' : cur.toList.take n = U xs := by simpa using htk
    have t1 : cur.toList.take off = U (xs.take off) := by
      have : cur.toList.take off = (cur.toList.take n).take off := by rw [List.take_take, Nat.min_eq_left (by omega)]
      rw [this, htk']
      simp [U]
    rw [t1]
    simp only [Nat.mul_one, U_append]
    have t2 : (cur.toList.drop (off + m)).take (n - (off + m)) = U (xs.drop (off + m)) := by
      rw [← List.drop_take, htk']
      simp [U]
    rw [← t2]
    rw [List.take_append]
    have : n - (U (xs.take off) ++ U ys).length = n - (off + m) := by simp only [List.length_append, U_length, List.length_take, hs.len, hxl]; omega
    rw [this, List.take_of_length_le (by simp only [List.length_append, U_length, List.length_take, hs.len, hxl]; omega)]
end

/-- A row of one limb, just made. -/
def BS (k : Nat) : Nat → Pr := fun lo v w => k < 4294967296 ∧ Src 64 1 1 (EqL (U [k])) v w ∧ ∀ b, vblock v = some b → lo ≤ b
theorem fresh_bs (k : Nat) : Fresh (BS k) :=
  ⟨fun lo lo' v w hl ⟨h0, h1, h2⟩ => ⟨h0, h1, fun b hb => Nat.le_trans hl (h2 b hb)⟩,
   fun lo v w w' B hB ⟨h0, ⟨g, c, ys, e1, e2, e3, e4, e5⟩, h2⟩ ev => ⟨h0, ⟨g, c, ys, e1, e2, (ev.block g (Array.getElem?_eq_some_iff.1 e3).1 (fun hb => by have := hB g hb; have := h2 g (by rw [e1]; rfl); omega)).trans e3, e4, e5⟩, h2⟩⟩
theorem owe_bs {ops : Array Oper} {l : List Kd} {bx : Bxs} {sl : List (Tmp × Pr)} {i : Nat} {o : Oper} {Q : Exit → Act → World → Prop} {a0 : Act} {n : Nat} {w0 : World} {x : Operand} {k : Nat} (ho : ops[i]? = some o) (hw : Wants ops l bx sl i o) (hop : o.op = .buildSlice 22 1 #[(0, x)]) (hx : Opnd ops l bx sl i x (Is (.int .u32 k))) (hk4 : k < 4294967296) (hk : kdAt l i = .val (BS k w0.heap.size)) : Owed Tryz.prog ops Q l bx sl a0 n w0 i :=
  owe_grow ho hw hk fun vs B a w c => by
    have hx : a.eval x = .int .u32 k := (hx a0 n w0 vs B a w c).now
    have hb : Below w.heap.size w (w.alloc (.cells (U [k]).toArray 64)) := (Below.refl _ _).alloc (Nat.le_refl _) _
    refine ⟨.slice (some ⟨w.heap.size, 0, none⟩) 1 1, w.alloc (.cells (U [k]).toArray 64), ?_, hb, fun w'' e'' => (fresh_bs k).mono _ _ _ _ c.lo ((fresh_bs k).ev w.heap.size _ _ w'' B (fun k hk => (c.bnd k hk).2) ⟨hk4, ⟨w.heap.size, 1, U [k], rfl, ⟨rfl, Nat.le_refl _, by unfold maxLen; omega⟩, heap_alloc_last _ _, oneCell_U [k], rfl⟩, fun b hb => by simp [vblock] at hb; omega⟩ e'')⟩
    unfold execOp
    rw [hop]
    generalize a.eval = ρ at hx
    simp only [U, List.map_cons, List.map_nil]
    go_simp

/-- A row that is grown no more becomes a plain value. -/
theorem Sta.freeze {w0 W : World} {n : Nat} {bx bx' : Bxs} {sl : List (Tmp × Pr)} {B : Nat → Prop} {a : Act} (S : Sta w0 n bx sl B a W) (k : Nat) {t e size n' : Nat} {χ : List Value → World → Prop} (h : bx[k]? = some (t, .row e size n' χ)) (hs : ∀ x ∈ bx', x ∈ bx ∧ x.1 ≠ t) {φ : Pr} (hφ : ∀ v w xs, w.ownsRow w0.heap.size e size v n' xs → χ xs w → φ v w) :
    Sta w0 n bx' ((t, φ) :: sl) (fun j => B j ∧ vblock (a.eval (.tmp t)) ≠ some j) a W := by
  have hm := List.mem_of_getElem? h
  obtain ⟨xs, hown, hB, hχ⟩ := S.box _ hm
  have sub : ∀ w', Ev (fun j => B j ∧ vblock (a.eval (.tmp t)) ≠ some j) W w' → Ev B W w' := fun w' e => ⟨e.os, e.tape, e.output, e.size, fun k hk hn => e.block k hk (fun h' => hn h'.1)⟩
  refine ⟨S.ent, fun k hk => S.bnd k hk.1, S.siz, S.dfr, fun x hx => ?_, fun x hx y hy => S.sep x (hs x hx).1 y (hs y hy).1, fun x hx => ?_⟩
  · obtain ⟨hx1, hx2⟩ := hs x hx
    have hat := S.box x hx1
    have hin : ∀ b, x.2.set (a.eval (.tmp x.1)) b → B b ∧ vblock (a.eval (.tmp t)) ≠ some b := fun b hb => ⟨(Rk.inB hat hb).1, fun h' => hx2 (S.sep x hx1 _ hm b hb h')⟩
    obtain ⟨xt, xr⟩ := x
    cases xr with
    | own S0 e0 χ0 =>
      obtain ⟨C, h1, h2⟩ := hat
      exact ⟨C, fun b hb => ⟨hin b hb, (h1 b hb).2⟩, fun w' e => h2 w' (sub w' e)⟩
    | box T ψ =>
      obtain ⟨b, u, h1, h2, h3, h4⟩ := hat
      exact ⟨b, u, h1, hin b (by show vblock (a.eval (.tmp xt)) = _; rw [h1]; rfl), h3, fun w' e => h4 w' (sub w' e)⟩
    | row e' s' n'' χ' =>
      obtain ⟨ys, h1, h2, h3⟩ := hat
      exact ⟨ys, h1, hin, fun w' e => h3 w' (sub w' e)⟩
  · rcases List.mem_cons.1 hx with rfl | hx
    · intro w' ew
      refine hφ _ w' xs ⟨hown.1, ?_⟩ (hχ w' (sub w' ew))
      rcases hown.2 with h1 | ⟨g, cap, cur, e1, e2, e3, e4⟩
      · exact Or.inl h1
      · exact Or.inr ⟨g, cap, cur, e1, e2, (ew.block g (Array.getElem?_eq_some_iff.1 e3).1 (fun h' => h'.2 (by show vblock (a.eval (.tmp t)) = _; rw [e1]; rfl))).trans e3, e4⟩
    · exact fun w' e => S.slt x hx w' (sub w' e)
end Go.Proofs.YtgalppimdmjdcabGreatDoor
