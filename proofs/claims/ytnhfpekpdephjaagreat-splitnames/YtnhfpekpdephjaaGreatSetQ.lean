import Derived.Test.YtnhfpekpdephjaaGreatSetO
import Derived.Test.YtnhfpekpdephjaaGreatSetM
import Derived.Test.YtnhfpekpdephjaaGreatSetE
import Derived.LoopN
import Derived.Test.YtnhfpekpdephjaaGreatSetA
import Derived.Laws.AppendOwn
import Derived.Laws.MakeOwn
import Derived.Test.YtnhfpekpdephjaaGreatSetK
import Derived.Test.YtnhfpekpdephjaaGreatSetC
import Derived.Test.YtnhfpekpdephjaaGreatSetI
import Derived.Test.YtnhfpekpdephjaaGreatSetP
import Derived.Test.YtnhfpekpdephjaaGreatSetX
import Derived.Test.YtnhfpekpdephjaaGreatSetZ
import Derived.Test.YtnhfpekpdephjaaGreatSetU
/-
 The logic of statements: from statement to statement, into a call and out of it; the calls of the document in that form.
-/
namespace Go.Proofs.YtnhfpekpdephjaaGreat
open Go Go.RowKit Nt
set_option linter.unusedSimpArgs false
set_option linter.unusedVariables false
set_option maxRecDepth 20000

theorem thenN {next : Act → World → Prop} {Q : Exit → Act → World → Prop} {a : Act} {w : World} (h : next a w) : Exit.then next Q .normal a w := h
theorem thenR {next : Act → World → Prop} {Q : Exit → Act → World → Prop} {a : Act} {w : World} (h : Q .ret a w) : Exit.then next Q .ret a w := h
theorem wp_stmt_seq {P : Program} {ops : Array Oper} {Q : Exit → Act → World → Prop} {bx : Bxs} {sl : List (Tmp × Pr)} {n : Nat} {B0 : Nat → Prop} {a0 : Act} {W w0 : World} {id : Nat} {draw : Bool} {y : Code} (l : List Kd) (s1 s2 : List (Nat ⊕ Nat)) (hm : P.follows .mixedOrders = true) (T0 : Sta w0 n bx sl B0 a0 W) (hl : l.length = ops.size) (hc : (shapeOk ops l (bx.map (·.1)) n && pickOk ops l bx s1) = true)
  (hop : AllOwed (Owed P ops (Exit.then (y.wp P Q) Q) l bx sl a0 n w0) ops.size)
  (fin : ∀ B a w, Sta w0 n (pickBx ops l bx s1) (pickSl ops l sl s2) B a w → y.wp P Q a w) : (Code.seq (.region id ops draw) y).wp P Q a0 W :=
 wp_seq (wp_stmt l s1 s2 hm T0 hl hc hop fin)

theorem inBlkN {id : Nat} {Q : Exit → Act → World → Prop} {a : Act} {w : World} (h : Q .normal a w) : Exit.inBlock id Q .normal a w := h
theorem inBlkR {id : Nat} {Q : Exit → Act → World → Prop} {a : Act} {w : World} (h : Q .ret a w) : Exit.inBlock id Q .ret a w := h
theorem inBlkE {id : Nat} {Q : Exit → Act → World → Prop} {a : Act} {w : World} (h : Q .normal a w) : Exit.inBlock id Q (.exit id) a w := by simp only [Exit.inBlock, if_true]; exact h
theorem thenX {id : Nat} {next : Act → World → Prop} {Q : Exit → Act → World → Prop} {a : Act} {w : World} (h : Q (.exit id) a w) : Exit.then next Q (.exit id) a w := h

def resOf (r : ResultVar) (tmps : Array Value) : Sem Value := match r with
 | .tmp t => pure (tmps.getD t undef)
 | .cell a t => do loadVar t (← asAddr (tmps.getD a undef))
theorem results_eq (fn : Func) (tmps : Array Value) : results fn tmps = (do let vs ← fn.results.mapM (fun r => resOf r tmps); pure (if h : vs.size = 1 then vs[0] else .tuple vs)) := by
 unfold results
 congr 1
theorem results_one {P : Program} {fn : Func} {tmps : Array Value} {W : World} {r : ResultVar} {v : Value} (hr : fn.results = #[r]) (h : (resOf r tmps).run P W = .ok v W) : (results fn tmps).run P W = .ok v W := by
 rw [results_eq, hr]
 simp [Sem.run_bind, h]
theorem results_two {P : Program} {fn : Func} {tmps : Array Value} {W : World} {r r' : ResultVar} {v v' : Value} (hr : fn.results = #[r, r']) (h : (resOf r tmps).run P W = .ok v W) (h' : (resOf r' tmps).run P W = .ok v' W) : (results fn tmps).run P W = .ok (.tuple #[v, v']) W := by
 rw [results_eq, hr]
 simp [Sem.run_bind, h, h']
theorem results_three {P : Program} {fn : Func} {tmps : Array Value} {W : World} {r r' r'' : ResultVar} {v v' v'' : Value} (hr : fn.results = #[r, r', r'']) (h : (resOf r tmps).run P W = .ok v W) (h' : (resOf r' tmps).run P W = .ok v' W) (h'' : (resOf r'' tmps).run P W = .ok v'' W) : (results fn tmps).run P W = .ok (.tuple #[v, v', v'']) W := by
 rw [results_eq, hr]
 simp [Sem.run_bind, h, h', h'']
theorem res_tmp {w0 W : World} {n : Nat} {bx : Bxs} {sl : List (Tmp × Pr)} {B : Nat → Prop} {a : Act} (S : Sta w0 n bx sl B a W) (k t : Nat) {φ : Pr} (h : sl[k]? = some (t, φ)) : ∃ v, (resOf (.tmp t) a.tmps).run Tryz.prog W = .ok v W ∧ φ v W := ⟨_, by simp only [resOf, Sem.run_pure], S.slot k t h⟩
theorem res_cell {w0 W : World} {n : Nat} {bx : Bxs} {sl : List (Tmp × Pr)} {B : Nat → Prop} {a : Act} (S : Sta w0 n bx sl B a W) (k t : Nat) {T m : Nat} {φ : Pr} (h : bx[k]? = some (t, .box T φ)) (hT : Strct T m) (hS : Shp m φ) : ∃ v, (resOf (.cell t T) a.tmps).run Tryz.prog W = .ok v W ∧ φ v W := by
 obtain ⟨b, u, hp, hu, hφ⟩ := S.content k t h
 obtain ⟨cs, rfl, hn, _⟩ := hS u W hφ
 obtain ⟨⟨d, hu', hd⟩, hi⟩ := hT
 refine ⟨.agg cs, ?_, hφ⟩
 have := run_loadVar_mid (P := Tryz.prog) W b 0 T cs.toList d (range_of hu) hu' hd (by rw [hi]; simp [hn])
 simp only [resOf, hp, Sem.run_bind]
 simp [asAddr, this]
/-- Out of a call. -/
theorem end_one {w0 W : World} {n : Nat} {bx : Bxs} {sl : List (Tmp × Pr)} {B : Nat → Prop} {a : Act} {fn : Func} {r : ResultVar} {ψ : Nat → Pr} (S : Sta w0 n bx sl B a W) (hr : fn.results = #[r]) (h : ∃ v, (resOf r a.tmps).run Tryz.prog W = .ok v W ∧ ψ w0.heap.size v W) : bodyPost Tryz.prog fn (Gives ψ w0) .ret a W := by
 obtain ⟨v, h1, h2⟩ := h
 exact bodyPost_ret (results_one hr h1) S.dfr ⟨v, rfl, S.ent, h2⟩
theorem end_two {w0 W : World} {n : Nat} {bx : Bxs} {sl : List (Tmp × Pr)} {B : Nat → Prop} {a : Act} {fn : Func} {r r' : ResultVar} {φ ψ : Nat → Pr} (S : Sta w0 n bx sl B a W) (hr : fn.results = #[r, r']) (h : ∃ v, (resOf r a.tmps).run Tryz.prog W = .ok v W ∧ φ w0.heap.size v W) (h' : ∃ v, (resOf r' a.tmps).run Tryz.prog W = .ok v W ∧ ψ w0.heap.size v W) : bodyPost Tryz.prog fn (Gives (TWO φ ψ) w0) .ret a W := by
 obtain ⟨v, h1, h2⟩ := h
 obtain ⟨v', h1', h2'⟩ := h'
 exact bodyPost_ret (results_two hr h1 h1') S.dfr ⟨_, rfl, S.ent, v, v', rfl, h2, h2'⟩
theorem end_three {w0 W : World} {n : Nat} {bx : Bxs} {sl : List (Tmp × Pr)} {B : Nat → Prop} {a : Act} {fn : Func} {r r' r'' : ResultVar} {φ ψ χ : Nat → Pr} (S : Sta w0 n bx sl B a W) (hr : fn.results = #[r, r', r'']) (h : ∃ v, (resOf r a.tmps).run Tryz.prog W = .ok v W ∧ φ w0.heap.size v W) (h' : ∃ v, (resOf r' a.tmps).run Tryz.prog W = .ok v W ∧ ψ w0.heap.size v W) (h'' : ∃ v, (resOf r'' a.tmps).run Tryz.prog W = .ok v W ∧ χ w0.heap.size v W) : bodyPost Tryz.prog fn (Gives (THREE φ ψ χ) w0) .ret a W := by
 obtain ⟨v, h1, h2⟩ := h
 obtain ⟨v', h1', h2'⟩ := h'
 obtain ⟨v'', h1'', h2''⟩ := h''
 exact bodyPost_ret (results_three hr h1 h1' h1'') S.dfr ⟨_, rfl, S.ent, v, v', v'', rfl, h2, h2', h2''⟩
/-- Into a call. -/
theorem calls_sta {f : FuncId} {fn : Func} {c : Code} {args : Array Value} {w : World} {R : Ending → World → Prop} {n : Nat} {sl : List (Tmp × Pr)} (hf : Tryz.prog.funcs[f]? = some fn) (hb : fn.body = some c) (hn : fn.ntmps = n) (hs : args.size ≤ n)
  (h : ∀ x ∈ sl, ∃ v, args[x.1]? = some v ∧ Has (fun _ => False) w x.2 v) (k : ∀ a, Sta w n [] sl (fun _ => False) a w → c.wp Tryz.prog (bodyPost Tryz.prog fn R) a w) : Calls Tryz.prog f args w R := by
 refine calls_of_wp hf hb (k _ (sta_start ?_ rfl (fun x hx => ?_)))
 ·simp [hn]; omega
 ·obtain ⟨v, hv, hh⟩ := h x hx
  have hlt : x.1 < args.size := (Array.getElem?_eq_some_iff.1 hv).1
  have e : (Act.eval { tmps := args ++ Array.replicate (fn.ntmps - args.size) undef, defers := [] } (.tmp x.1)) = v := by
   simp only [Act.eval, Array.getD_eq_getD_getElem?, Array.getElem?_append_left hlt, hv, Option.getD_some]
  rw [e]
  exact hh
theorem args_nil {args : Array Value} {w : World} : ∀ x ∈ ([] : List (Tmp × Pr)), ∃ v, args[x.1]? = some v ∧ Has (fun _ => False) w x.2 v := fun _ h => nomatch h
theorem args_cons {args : Array Value} {w : World} {t : Tmp} {φ : Pr} {v : Value} {sl : List (Tmp × Pr)} (h : args[t]? = some v) (hv : Has (fun _ => False) w φ v) (r : ∀ x ∈ sl, ∃ v, args[x.1]? = some v ∧ Has (fun _ => False) w x.2 v) : ∀ x ∈ ((t, φ) :: sl), ∃ v, args[x.1]? = some v ∧ Has (fun _ => False) w x.2 v := fun x hx => by
 rcases List.mem_cons.1 hx with rfl | hx
 ·exact ⟨v, h, hv⟩
 ·exact r x hx
theorem follows : Tryz.prog.follows .mixedOrders = true := by kernel_rfl
theorem run_neq_int_t (ρ : Operand → Value) (o : Oper) (x y : Operand) (w : World) (a b : Int) (h : a ≠ b) (h1 : ρ x = .int .i64 a) (h2 : ρ y = .int .i64 b) : (execOp ρ { o with op := .binOp .neq 3 x y 3 }).run Tryz.prog w = .ok (.value (.bool true)) w := by
 unfold execOp
 go_simp
theorem run_neq_int_f (ρ : Operand → Value) (o : Oper) (x y : Operand) (w : World) (a b : Int) (h : a = b) (h1 : ρ x = .int .i64 a) (h2 : ρ y = .int .i64 b) : (execOp ρ { o with op := .binOp .neq 3 x y 3 }).run Tryz.prog w = .ok (.value (.bool false)) w := by
 unfold execOp
 go_simp
theorem run_eql_int_t (ρ : Operand → Value) (o : Oper) (x y : Operand) (w : World) (a b : Int) (h : a = b) (h1 : ρ x = .int .i64 a) (h2 : ρ y = .int .i64 b) : (execOp ρ { o with op := .binOp .eql 3 x y 3 }).run Tryz.prog w = .ok (.value (.bool true)) w := by
 unfold execOp
 go_simp
theorem run_eql_int_f (ρ : Operand → Value) (o : Oper) (x y : Operand) (w : World) (a b : Int) (h : a ≠ b) (h1 : ρ x = .int .i64 a) (h2 : ρ y = .int .i64 b) : (execOp ρ { o with op := .binOp .eql 3 x y 3 }).run Tryz.prog w = .ok (.value (.bool false)) w := by
 unfold execOp
 go_simp
theorem run_lss_int_t (ρ : Operand → Value) (o : Oper) (x y : Operand) (w : World) (a b : Int) (h : a < b) (h1 : ρ x = .int .i64 a) (h2 : ρ y = .int .i64 b) : (execOp ρ { o with op := .binOp .lss 3 x y 3 }).run Tryz.prog w = .ok (.value (.bool true)) w := by
 unfold execOp
 go_simp
theorem run_lss_int_f (ρ : Operand → Value) (o : Oper) (x y : Operand) (w : World) (a b : Int) (h : b ≤ a) (h1 : ρ x = .int .i64 a) (h2 : ρ y = .int .i64 b) : (execOp ρ { o with op := .binOp .lss 3 x y 3 }).run Tryz.prog w = .ok (.value (.bool false)) w := by
 unfold execOp
 go_simp
theorem run_leq_int_t (ρ : Operand → Value) (o : Oper) (x y : Operand) (w : World) (a b : Int) (h : a ≤ b) (h1 : ρ x = .int .i64 a) (h2 : ρ y = .int .i64 b) : (execOp ρ { o with op := .binOp .leq 3 x y 3 }).run Tryz.prog w = .ok (.value (.bool true)) w := by
 unfold execOp
 go_simp
theorem run_leq_int_f (ρ : Operand → Value) (o : Oper) (x y : Operand) (w : World) (a b : Int) (h : b < a) (h1 : ρ x = .int .i64 a) (h2 : ρ y = .int .i64 b) : (execOp ρ { o with op := .binOp .leq 3 x y 3 }).run Tryz.prog w = .ok (.value (.bool false)) w := by
 unfold execOp
 go_simp
theorem run_gtr_int_f (ρ : Operand → Value) (o : Oper) (x y : Operand) (w : World) (a b : Int) (h : a ≤ b) (h1 : ρ x = .int .i64 a) (h2 : ρ y = .int .i64 b) : (execOp ρ { o with op := .binOp .gtr 3 x y 3 }).run Tryz.prog w = .ok (.value (.bool false)) w := by
 unfold execOp
 go_simp
theorem run_geq_int_f (ρ : Operand → Value) (o : Oper) (x y : Operand) (w : World) (a b : Int) (h : a < b) (h1 : ρ x = .int .i64 a) (h2 : ρ y = .int .i64 b) : (execOp ρ { o with op := .binOp .geq 3 x y 3 }).run Tryz.prog w = .ok (.value (.bool false)) w := by
 unfold execOp
 go_simp
theorem run_neq_errno_f (ρ : Operand → Value) (o : Oper) (x y : Operand) (w : World) (a b : Int) (h : a = b) (h1 : ρ x = .int .i64 a) (h2 : ρ y = .int .i64 b) : (execOp ρ { o with op := .binOp .neq 24 x y 24 }).run Tryz.prog w = .ok (.value (.bool false)) w := by
 unfold execOp
 go_simp
theorem run_eql_errno_t (ρ : Operand → Value) (o : Oper) (x y : Operand) (w : World) (a b : Int) (h : a = b) (h1 : ρ x = .int .i64 a) (h2 : ρ y = .int .i64 b) : (execOp ρ { o with op := .binOp .eql 24 x y 24 }).run Tryz.prog w = .ok (.value (.bool true)) w := by
 unfold execOp
 go_simp
theorem run_not (ρ : Operand → Value) (o : Oper) (x : Operand) (w : World) (s : Bool) (h1 : ρ x = .bool s) : (execOp ρ { o with op := .unOp .not 4 x }).run Tryz.prog w = .ok (.value (.bool (!s))) w := by
 unfold execOp
 go_simp
theorem wrap64_id {x : Int} (h1 : -9223372036854775808 ≤ x) (h2 : x ≤ 9223372036854775807) : IntKind.i64.wrap x = x := by
 rw [IntKind.wrap_i64]
 omega
theorem run_add_int (ρ : Operand → Value) (o : Oper) (x y : Operand) (w : World) (a b r : Int) (h : a + b = r ∧ -9223372036854775808 ≤ r ∧ r ≤ 9223372036854775807) (h1 : ρ x = .int .i64 a) (h2 : ρ y = .int .i64 b) : (execOp ρ { o with op := .binOp .add 3 x y 3 }).run Tryz.prog w = .ok (.value (.int .i64 r)) w := by
 obtain ⟨rfl, h3, h4⟩ := h
 have h5 : IntKind.i64.wrap (a + b) = a + b := wrap64_id h3 h4
 unfold execOp
 go_simp
theorem wp_loop_ghost {P : Program} {Q : Exit → Act → World → Prop} {c : Code} {α : Type} (I : α → Act → World → Prop) (μ : α → Nat)
  (round : ∀ x a w, I x a w → c.wp P (Exit.then (fun a' w' => ∃ y, I y a' w' ∧ μ y < μ x) Q) a w) (x : α) {a : Act} {w : World} (h : I x a w) : (Code.loop c).wp P Q a w := by
 have key : ∀ n x a w, μ x < n → I x a w → Code.rounds P c Q n a w := by
  intro n
  induction n with
  | zero => intro x a w h; omega
  | succ n ih =>
   intro x a w hx hI
   refine wp_mono (round x a w hI) (fun e a' w' he => ?_)
   cases e with
   | normal =>
    obtain ⟨y, hy, hlt⟩ := he
    exact ih y a' w' (by omega) hy
   | _ => exact he
 exact wp_loop_rounds (μ x + 1) (key _ x a w (by omega) h)
/-- Fewer words are kept. -/
def takeAt {α : Type} (l : List α) : List Nat → List α
 | [] => []
 | k :: r => (match l[k]? with | some x => [x] | none => []) ++ takeAt l r
theorem takeAt_mem {α : Type} (l : List α) : ∀ (s : List Nat) (x : α), x ∈ takeAt l s → x ∈ l
 | [], _, h => by cases h
 | k :: r, x, h => by
  simp only [takeAt, List.mem_append] at h
  rcases h with h | h
  ·split at h
   ·rename_i y e
    simp at h
    subst h
    exact List.mem_of_getElem? e
   ·cases h
  ·exact takeAt_mem l r x h
theorem Sta.sub {w0 W : World} {n : Nat} {bx : Bxs} {sl : List (Tmp × Pr)} {B : Nat → Prop} {a : Act} (S : Sta w0 n bx sl B a W) (s1 s2 : List Nat) : Sta w0 n (takeAt bx s1) (takeAt sl s2) B a W :=
 ⟨S.ent, S.bnd, S.siz, S.dfr, fun x hx => S.box x (takeAt_mem _ _ _ hx), fun x hx y hy => S.sep x (takeAt_mem _ _ _ hx) y (takeAt_mem _ _ _ hy), fun x hx => S.slt x (takeAt_mem _ _ _ hx)⟩

/-! The document's calls. -/
theorem g_rof (n : Int) (h1 : -9223372036854775808 ≤ n) (h2 : n < 9223372036854775808) : ∀ w u, Is (.int .i64 n) u w → CG 24 #[u] w (ZN n) := fun w u e => by
 obtain rfl : u = _ := e
 refine (zrof_c w n h1 h2).mono ?_
 rintro e w' ⟨r, cr, rfl, Z⟩
 exact za_gives Z
section
variable {ops : Array Oper} {l : List Kd} {bx : Bxs} {sl : List (Tmp × Pr)} {i : Nat} {o : Oper} {Q : Exit → Act → World → Prop} {a0 : Act} {n : Nat} {w0 : World}
theorem b_lss_int_t {a : Int} {b : Int} {x y : Operand} (hw : Wants ops l bx sl i o) (hx : Opnd ops l bx sl i x (Is (.int .i64 a))) (hy : Opnd ops l bx sl i y (Is (.int .i64 b))) (ho : ops[i]? = some o := by exact rfl) (hop : o.op = .binOp .lss 3 x y 3 := by exact rfl) (hk : kdAt l i = .val (Is (.bool true)) := by exact rfl) (h : a < b := by omega) : Owed Tryz.prog ops Q l bx sl a0 n w0 i := owe_bin ho hw hop hx hy hk (fun ρ w h1 h2 => run_lss_int_t ρ _ _ _ w _ _ h h1 h2)
theorem b_lss_int_f {a : Int} {b : Int} {x y : Operand} (hw : Wants ops l bx sl i o) (hx : Opnd ops l bx sl i x (Is (.int .i64 a))) (hy : Opnd ops l bx sl i y (Is (.int .i64 b))) (ho : ops[i]? = some o := by exact rfl) (hop : o.op = .binOp .lss 3 x y 3 := by exact rfl) (hk : kdAt l i = .val (Is (.bool false)) := by exact rfl) (h : b ≤ a := by omega) : Owed Tryz.prog ops Q l bx sl a0 n w0 i := owe_bin ho hw hop hx hy hk (fun ρ w h1 h2 => run_lss_int_f ρ _ _ _ w _ _ h h1 h2)
theorem b_leq_int_t {a : Int} {b : Int} {x y : Operand} (hw : Wants ops l bx sl i o) (hx : Opnd ops l bx sl i x (Is (.int .i64 a))) (hy : Opnd ops l bx sl i y (Is (.int .i64 b))) (ho : ops[i]? = some o := by exact rfl) (hop : o.op = .binOp .leq 3 x y 3 := by exact rfl) (hk : kdAt l i = .val (Is (.bool true)) := by exact rfl) (h : a ≤ b := by omega) : Owed Tryz.prog ops Q l bx sl a0 n w0 i := owe_bin ho hw hop hx hy hk (fun ρ w h1 h2 => run_leq_int_t ρ _ _ _ w _ _ h h1 h2)
theorem b_leq_int_f {a : Int} {b : Int} {x y : Operand} (hw : Wants ops l bx sl i o) (hx : Opnd ops l bx sl i x (Is (.int .i64 a))) (hy : Opnd ops l bx sl i y (Is (.int .i64 b))) (ho : ops[i]? = some o := by exact rfl) (hop : o.op = .binOp .leq 3 x y 3 := by exact rfl) (hk : kdAt l i = .val (Is (.bool false)) := by exact rfl) (h : b < a := by omega) : Owed Tryz.prog ops Q l bx sl a0 n w0 i := owe_bin ho hw hop hx hy hk (fun ρ w h1 h2 => run_leq_int_f ρ _ _ _ w _ _ h h1 h2)
theorem b_gtr_int_f {a : Int} {b : Int} {x y : Operand} (hw : Wants ops l bx sl i o) (hx : Opnd ops l bx sl i x (Is (.int .i64 a))) (hy : Opnd ops l bx sl i y (Is (.int .i64 b))) (ho : ops[i]? = some o := by exact rfl) (hop : o.op = .binOp .gtr 3 x y 3 := by exact rfl) (hk : kdAt l i = .val (Is (.bool false)) := by exact rfl) (h : a ≤ b := by omega) : Owed Tryz.prog ops Q l bx sl a0 n w0 i := owe_bin ho hw hop hx hy hk (fun ρ w h1 h2 => run_gtr_int_f ρ _ _ _ w _ _ h h1 h2)
theorem b_geq_int_f {a : Int} {b : Int} {x y : Operand} (hw : Wants ops l bx sl i o) (hx : Opnd ops l bx sl i x (Is (.int .i64 a))) (hy : Opnd ops l bx sl i y (Is (.int .i64 b))) (ho : ops[i]? = some o := by exact rfl) (hop : o.op = .binOp .geq 3 x y 3 := by exact rfl) (hk : kdAt l i = .val (Is (.bool false)) := by exact rfl) (h : a < b := by omega) : Owed Tryz.prog ops Q l bx sl a0 n w0 i := owe_bin ho hw hop hx hy hk (fun ρ w h1 h2 => run_geq_int_f ρ _ _ _ w _ _ h h1 h2)
theorem b_eql_int_t {a : Int} {b : Int} {x y : Operand} (hw : Wants ops l bx sl i o) (hx : Opnd ops l bx sl i x (Is (.int .i64 a))) (hy : Opnd ops l bx sl i y (Is (.int .i64 b))) (ho : ops[i]? = some o := by exact rfl) (hop : o.op = .binOp .eql 3 x y 3 := by exact rfl) (hk : kdAt l i = .val (Is (.bool true)) := by exact rfl) (h : a = b := by omega) : Owed Tryz.prog ops Q l bx sl a0 n w0 i := owe_bin ho hw hop hx hy hk (fun ρ w h1 h2 => run_eql_int_t ρ _ _ _ w _ _ h h1 h2)
theorem b_eql_int_f {a : Int} {b : Int} {x y : Operand} (hw : Wants ops l bx sl i o) (hx : Opnd ops l bx sl i x (Is (.int .i64 a))) (hy : Opnd ops l bx sl i y (Is (.int .i64 b))) (ho : ops[i]? = some o := by exact rfl) (hop : o.op = .binOp .eql 3 x y 3 := by exact rfl) (hk : kdAt l i = .val (Is (.bool false)) := by exact rfl) (h : a ≠ b := by omega) : Owed Tryz.prog ops Q l bx sl a0 n w0 i := owe_bin ho hw hop hx hy hk (fun ρ w h1 h2 => run_eql_int_f ρ _ _ _ w _ _ h h1 h2)
theorem b_neq_int_t {a : Int} {b : Int} {x y : Operand} (hw : Wants ops l bx sl i o) (hx : Opnd ops l bx sl i x (Is (.int .i64 a))) (hy : Opnd ops l bx sl i y (Is (.int .i64 b))) (ho : ops[i]? = some o := by exact rfl) (hop : o.op = .binOp .neq 3 x y 3 := by exact rfl) (hk : kdAt l i = .val (Is (.bool true)) := by exact rfl) (h : a ≠ b := by omega) : Owed Tryz.prog ops Q l bx sl a0 n w0 i := owe_bin ho hw hop hx hy hk (fun ρ w h1 h2 => run_neq_int_t ρ _ _ _ w _ _ h h1 h2)
theorem b_neq_int_f {a : Int} {b : Int} {x y : Operand} (hw : Wants ops l bx sl i o) (hx : Opnd ops l bx sl i x (Is (.int .i64 a))) (hy : Opnd ops l bx sl i y (Is (.int .i64 b))) (ho : ops[i]? = some o := by exact rfl) (hop : o.op = .binOp .neq 3 x y 3 := by exact rfl) (hk : kdAt l i = .val (Is (.bool false)) := by exact rfl) (h : a = b := by omega) : Owed Tryz.prog ops Q l bx sl a0 n w0 i := owe_bin ho hw hop hx hy hk (fun ρ w h1 h2 => run_neq_int_f ρ _ _ _ w _ _ h h1 h2)
theorem b_eql_errno_t {a : Int} {b : Int} {x y : Operand} (hw : Wants ops l bx sl i o) (hx : Opnd ops l bx sl i x (Is (.int .i64 a))) (hy : Opnd ops l bx sl i y (Is (.int .i64 b))) (ho : ops[i]? = some o := by exact rfl) (hop : o.op = .binOp .eql 24 x y 24 := by exact rfl) (hk : kdAt l i = .val (Is (.bool true)) := by exact rfl) (h : a = b := by omega) : Owed Tryz.prog ops Q l bx sl a0 n w0 i := owe_bin ho hw hop hx hy hk (fun ρ w h1 h2 => run_eql_errno_t ρ _ _ _ w _ _ h h1 h2)
theorem b_neq_errno_f {a : Int} {b : Int} {x y : Operand} (hw : Wants ops l bx sl i o) (hx : Opnd ops l bx sl i x (Is (.int .i64 a))) (hy : Opnd ops l bx sl i y (Is (.int .i64 b))) (ho : ops[i]? = some o := by exact rfl) (hop : o.op = .binOp .neq 24 x y 24 := by exact rfl) (hk : kdAt l i = .val (Is (.bool false)) := by exact rfl) (h : a = b := by omega) : Owed Tryz.prog ops Q l bx sl a0 n w0 i := owe_bin ho hw hop hx hy hk (fun ρ w h1 h2 => run_neq_errno_f ρ _ _ _ w _ _ h h1 h2)
theorem b_add_int {a : Int} {b : Int} {r : Int} {x y : Operand} (hw : Wants ops l bx sl i o) (hx : Opnd ops l bx sl i x (Is (.int .i64 a))) (hy : Opnd ops l bx sl i y (Is (.int .i64 b))) (ho : ops[i]? = some o := by exact rfl) (hop : o.op = .binOp .add 3 x y 3 := by exact rfl) (hk : kdAt l i = .val (Is (.int .i64 r)) := by exact rfl) (h : a + b = r ∧ -9223372036854775808 ≤ r ∧ r ≤ 9223372036854775807 := by exact ⟨by omega, by omega, by omega⟩) : Owed Tryz.prog ops Q l bx sl a0 n w0 i := owe_bin ho hw hop hx hy hk (fun ρ w h1 h2 => run_add_int ρ _ _ _ w _ _ _ h h1 h2)
theorem b_not {s : Bool} {x : Operand} (hw : Wants ops l bx sl i o) (hx : Opnd ops l bx sl i x (Is (.bool s))) (ho : ops[i]? = some o := by exact rfl) (hop : o.op = .unOp .not 4 x := by exact rfl) (hk : kdAt l i = .val (Is (.bool (!s))) := by exact rfl)  : Owed Tryz.prog ops Q l bx sl a0 n w0 i := owe_un (x := x) ho hw hop hx hk (fun ρ w h1 => run_not ρ _ _ w _ h1)
end
theorem wq {P : Program} {ops : Array Oper} {Q : Exit → Act → World → Prop} {bx : Bxs} {sl : List (Tmp × Pr)} {n : Nat} {B0 : Nat → Prop} {a0 : Act} {W w0 : World} {id : Nat} {draw : Bool} {y : Code} (l : List Kd) (s1 s2 : List (Nat ⊕ Nat)) (T0 : Sta w0 n bx sl B0 a0 W)
  (hop : AllOwed (Owed P ops (Exit.then (y.wp P Q) Q) l bx sl a0 n w0) ops.size)
  (fin : ∀ B a w, Sta w0 n (pickBx ops l bx s1) (pickSl ops l sl s2) B a w → y.wp P Q a w) (hm : P.follows .mixedOrders = true := by exact follows) (hl : l.length = ops.size := by exact rfl) (hc : (shapeOk ops l (bx.map (·.1)) n && pickOk ops l bx s1) = true := by kernel_rfl) : (Code.seq (.region id ops draw) y).wp P Q a0 W := wp_stmt_seq l s1 s2 hm T0 hl hc hop fin
theorem wr {P : Program} {ops : Array Oper} {Q : Exit → Act → World → Prop} {bx : Bxs} {sl : List (Tmp × Pr)} {n : Nat} {B0 : Nat → Prop} {a0 : Act} {W w0 : World} {id : Nat} {draw : Bool} (l : List Kd) (s1 s2 : List (Nat ⊕ Nat)) (T0 : Sta w0 n bx sl B0 a0 W)
  (hop : AllOwed (Owed P ops Q l bx sl a0 n w0) ops.size)
  (fin : ∀ B a w, Sta w0 n (pickBx ops l bx s1) (pickSl ops l sl s2) B a w → Q .normal a w) (hm : P.follows .mixedOrders = true := by exact follows) (hl : l.length = ops.size := by exact rfl) (hc : (shapeOk ops l (bx.map (·.1)) n && pickOk ops l bx s1) = true := by kernel_rfl) : (Code.region id ops draw).wp P Q a0 W := wp_stmt l s1 s2 hm T0 hl hc hop fin
end Go.Proofs.YtnhfpekpdephjaaGreat

/-
 The rules of the logic of statements for rows that a call makes, grows and hands on.
-/
namespace Go.Proofs.YtnhfpekpdephjaaGreat
open Go Go.RowKit Nt
set_option linter.unusedSimpArgs false
set_option linter.unusedVariables false
set_option maxRecDepth 20000

section
variable {ops : Array Oper} {l : List Kd} {bx : Bxs} {sl : List (Tmp × Pr)} {i : Nat} {o : Oper} {Q : Exit → Act → World → Prop} {a0 : Act} {n0 : Nat} {w0 : World}

end

end Go.Proofs.YtnhfpekpdephjaaGreat

/-
 Where two ways of the code meet: what is known there, and what comes behind, proved once.
-/
namespace Go.Proofs.YtnhfpekpdephjaaGreat
open Go Go.RowKit
set_option linter.unusedSimpArgs false
set_option linter.unusedVariables false
set_option maxRecDepth 20000
section
variable {P : Program} {Q : Exit → Act → World → Prop} {a : Act} {w : World}
end
section
variable {ops : Array Oper} {l : List Kd} {bx : Bxs} {sl : List (Tmp × Pr)} {i : Nat} {o : Oper} {Q : Exit → Act → World → Prop} {a0 : Act} {n : Nat} {w0 : World}
end
end Go.Proofs.YtnhfpekpdephjaaGreat

/-
 nat.power, nat.Pow.
-/
namespace Go.Proofs.YtnhfpekpdephjaaGreat
open Go.RowKit Nt
set_option linter.unusedSimpArgs false
set_option linter.unusedVariables false
set_option maxRecDepth 20000

end Go.Proofs.YtnhfpekpdephjaaGreat

/-
 The calls of nat and zint, and of the laws, in the form that the logic of statements takes.
-/
namespace Go.Proofs.YtnhfpekpdephjaaGreat
open Go Go.RowKit Nt
set_option linter.unusedSimpArgs false
set_option linter.unusedVariables false
set_option maxRecDepth 20000

theorem nm_zn {w : World} {b : Bool} {L : Nat} {D : List Nat} {z : Int} {r : Option Addr} {c lo : Nat} (h : Nm b L D z) (hs : Sl w r L c D) (hf : ∀ b o, r = some ⟨b, o, none⟩ → lo ≤ b) : ZN z lo (.agg #[.bool b, .slice r L c]) w := by
 obtain ⟨rfl, rfl, rfl⟩ := h
 exact ⟨r, c, rfl, hs, hf⟩

theorem g_zof (n : Int) (h1 : -9223372036854775808 ≤ n) (h2 : n < 9223372036854775808) : ∀ w u, Is (.int .i64 n) u w → CG 27 #[u] w (ZN n) := fun w u e => by
 obtain rfl : u = _ := e
 refine (zof_c w n h1 h2).mono ?_
 rintro e w' ⟨r, cr, rfl, Z⟩
 exact za_gives Z
end Go.Proofs.YtnhfpekpdephjaaGreat
