import Derived.Test.YtoeopdmaogmjhaaSetO
import Derived.Test.YtoeopdmaogmjhaaSetM
import Derived.Test.YtoeopdmaogmjhaaSetE
import Derived.LoopN
import Derived.Test.YtoeopdmaogmjhaaSetA
import Derived.Laws.AppendOwn
import Derived.Laws.MakeOwn
import Derived.Test.YtoeopdmaogmjhaaSetK
import Derived.Test.YtoeopdmaogmjhaaSetC
import Derived.Test.YtoeopdmaogmjhaaSetI
import Derived.Test.YtoeopdmaogmjhaaSetP
import Derived.Test.YtoeopdmaogmjhaaSetX
import Derived.Test.YtoeopdmaogmjhaaSetZ
import Derived.Test.YtoeopdmaogmjhaaSetU
/-
 The logic of statements: from statement to statement, into a call and out of it; the calls of the document in that form.
-/
namespace Go.Proofs.Ytoeopdmaogmjhaa
open Go Go.RowKit Nt
set_option linter.unusedSimpArgs false
set_option linter.unusedVariables false
set_option maxRecDepth 20000

theorem thenN {next : Act → World → Prop} {Q : Exit → Act → World → Prop} {a : Act} {w : World} (h : next a w) : Exit.then next Q .normal a w := h
theorem thenR {next : Act → World → Prop} {Q : Exit → Act → World → Prop} {a : Act} {w : World} (h : Q .ret a w) : Exit.then next Q .ret a w := h
theorem wp_stmt_seq {P : Program} {ops : Array Oper} {Q : Exit → Act → World → Prop} {bx : Bxs} {sl : List (Tmp × Pr)} {n : Nat} {B0 : Nat → Prop} {a0 : Act} {W w0 : World} {id : Nat} {draw : Bool} {y : Code} (l : List Kd) (s1 s2 : List (Nat ⊕ Nat)) (hm : P.follows .mixedOrders = true) (T0 : Sta w0 n bx sl B0 a0 W) (hl : l.length = ops.size) (hc : (shapeOk ops l (bx.map (·.1)) n && pickOk ops l bx s1) = true)
  (hop : AllOwed (Owed P ops (Exit.then (y.wp P Q) Q) l bx sl a0 n w0) ops.size)
  (fin : ∀ B a w, Sta w0 n (pickBx ops l bx s1) (pickSl ops l sl s2) B a w → y.wp P Q a w) : (Code.seq (.region id ops draw) y).wp P Q a0 W :=
 wp_seq (wp_stmt l s1 s2 hm T0 hl hc hop fin)

theorem inBlkN {id : Nat} {Q : Exit → Act → World → Prop} {a : Act} {w : World} (h : Q .normal a w) : Exit.inBlock id Q .normal a w := h
theorem inBlkR {id : Nat} {Q : Exit → Act → World → Prop} {a : Act} {w : World} (h : Q .ret a w) : Exit.inBlock id Q .ret a w := h
theorem inBlkE {id : Nat} {Q : Exit → Act → World → Prop} {a : Act} {w : World} (h : Q .normal a w) : Exit.inBlock id Q (.exit id) a w := by simp only [Exit.inBlock, if_true]; exact h
theorem thenX {id : Nat} {next : Act → World → Prop} {Q : Exit → Act → World → Prop} {a : Act} {w : World} (h : Q (.exit id) a w) : Exit.then next Q (.exit id) a w := h

def resOf (r : ResultVar) (tmps : Array Value) : Sem Value := match r with
 | .tmp t => pure (tmps.getD t undef)
 | .cell a t => do loadVar t (← asAddr (tmps.getD a undef))
theorem results_eq (fn : Func) (tmps : Array Value) : results fn tmps = (do let vs ← fn.results.mapM (fun r => resOf r tmps); pure (if h : vs.size = 1 then vs[0] else .tuple vs)) := by
 unfold results
 congr 1
theorem results_one {P : Program} {fn : Func} {tmps : Array Value} {W : World} {r : ResultVar} {v : Value} (hr : fn.results = #[r]) (h : (resOf r tmps).run P W = .ok v W) : (results fn tmps).run P W = .ok v W := by
 rw [results_eq, hr]
 simp [Sem.run_bind, h]
theorem results_two {P : Program} {fn : Func} {tmps : Array Value} {W : World} {r r' : ResultVar} {v v' : Value} (hr : fn.results = #[r, r']) (h : (resOf r tmps).run P W = .ok v W) (h' : (resOf r' tmps).run P W = .ok v' W) : (results fn tmps).run P W = .ok (.tuple #[v, v']) W := by
 rw [results_eq, hr]
 simp [Sem.run_bind, h, h']
theorem results_three {P : Program} {fn : Func} {tmps : Array Value} {W : World} {r r' r'' : ResultVar} {v v' v'' : Value} (hr : fn.results = #[r, r', r'']) (h : (resOf r tmps).run P W = .ok v W) (h' : (resOf r' tmps).run P W = .ok v' W) (h'' : (resOf r'' tmps).run P W = .ok v'' W) : (results fn tmps).run P W = .ok (.tuple #[v, v', v'']) W := by
 rw [results_eq, hr]
 simp [Sem.run_bind, h, h', h'']
theorem res_tmp {w0 W : World} {n : Nat} {bx : Bxs} {sl : List (Tmp × Pr)} {B : Nat → Prop} {a : Act} (S : Sta w0 n bx sl B a W) (k t : Nat) {φ : Pr} (h : sl[k]? = some (t, φ)) : ∃ v, (resOf (.tmp t) a.tmps).run Try.prog W = .ok v W ∧ φ v W := ⟨_, by simp only [resOf, Sem.run_pure], S.slot k t h⟩
theorem res_cell {w0 W : World} {n : Nat} {bx : Bxs} {sl : List (Tmp × Pr)} {B : Nat → Prop} {a : Act} (S : Sta w0 n bx sl B a W) (k t : Nat) {T m : Nat} {φ : Pr} (h : bx[k]? = some (t, .box T φ)) (hT : Strct T m) (hS : Shp m φ) : ∃ v, (resOf (.cell t T) a.tmps).run Try.prog W = .ok v W ∧ φ v W := by
 obtain ⟨b, u, hp, hu, hφ⟩ := S.content k t h
 obtain ⟨cs, rfl, hn, _⟩ := hS u W hφ
 obtain ⟨⟨d, hu', hd⟩, hi⟩ := hT
 refine ⟨.agg cs, ?_, hφ⟩
 have := run_loadVar_mid (P := Try.prog) W b 0 T cs.toList d (range_of hu) hu' hd (by rw [hi]; simp [hn])
 simp only [resOf, hp, Sem.run_bind]
 simp [asAddr, this]
/-- Out of a call. -/
theorem end_one {w0 W : World} {n : Nat} {bx : Bxs} {sl : List (Tmp × Pr)} {B : Nat → Prop} {a : Act} {fn : Func} {r : ResultVar} {ψ : Nat → Pr} (S : Sta w0 n bx sl B a W) (hr : fn.results = #[r]) (h : ∃ v, (resOf r a.tmps).run Try.prog W = .ok v W ∧ ψ w0.heap.size v W) : bodyPost Try.prog fn (Gives ψ w0) .ret a W := by
 obtain ⟨v, h1, h2⟩ := h
 exact bodyPost_ret (results_one hr h1) S.dfr ⟨v, rfl, S.ent, h2⟩
theorem end_two {w0 W : World} {n : Nat} {bx : Bxs} {sl : List (Tmp × Pr)} {B : Nat → Prop} {a : Act} {fn : Func} {r r' : ResultVar} {φ ψ : Nat → Pr} (S : Sta w0 n bx sl B a W) (hr : fn.results = #[r, r']) (h : ∃ v, (resOf r a.tmps).run Try.prog W = .ok v W ∧ φ w0.heap.size v W) (h' : ∃ v, (resOf r' a.tmps).run Try.prog W = .ok v W ∧ ψ w0.heap.size v W) : bodyPost Try.prog fn (Gives (TWO φ ψ) w0) .ret a W := by
 obtain ⟨v, h1, h2⟩ := h
 obtain ⟨v', h1', h2'⟩ := h'
 exact bodyPost_ret (results_two hr h1 h1') S.dfr ⟨_, rfl, S.ent, v, v', rfl, h2, h2'⟩
theorem end_three {w0 W : World} {n : Nat} {bx : Bxs} {sl : List (Tmp × Pr)} {B : Nat → Prop} {a : Act} {fn : Func} {r r' r'' : ResultVar} {φ ψ χ : Nat → Pr} (S : Sta w0 n bx sl B a W) (hr : fn.results = #[r, r', r'']) (h : ∃ v, (resOf r a.tmps).run Try.prog W = .ok v W ∧ φ w0.heap.size v W) (h' : ∃ v, (resOf r' a.tmps).run Try.prog W = .ok v W ∧ ψ w0.heap.size v W) (h'' : ∃ v, (resOf r'' a.tmps).run Try.prog W = .ok v W ∧ χ w0.heap.size v W) : bodyPost Try.prog fn (Gives (THREE φ ψ χ) w0) .ret a W := by
 obtain ⟨v, h1, h2⟩ := h
 obtain ⟨v', h1', h2'⟩ := h'
 obtain ⟨v'', h1'', h2''⟩ := h''
 exact bodyPost_ret (results_three hr h1 h1' h1'') S.dfr ⟨_, rfl, S.ent, v, v', v'', rfl, h2, h2', h2''⟩
/-- Into a call. -/
theorem calls_sta {f : FuncId} {fn : Func} {c : Code} {args : Array Value} {w : World} {R : Ending → World → Prop} {n : Nat} {sl : List (Tmp × Pr)} (hf : Try.prog.funcs[f]? = some fn) (hb : fn.body = some c) (hn : fn.ntmps = n) (hs : args.size ≤ n)
  (h : ∀ x ∈ sl, ∃ v, args[x.1]? = some v ∧ Has (fun _ => False) w x.2 v) (k : ∀ a, Sta w n [] sl (fun _ => False) a w → c.wp Try.prog (bodyPost Try.prog fn R) a w) : Calls Try.prog f args w R := by
 refine calls_of_wp hf hb (k _ (sta_start ?_ rfl (fun x hx => ?_)))
 ·simp [hn]; omega
 ·obtain ⟨v, hv, hh⟩ := h x hx
  have hlt : x.1 < args.size := (Array.getElem?_eq_some_iff.1 hv).1
  have e : (Act.eval { tmps := args ++ Array.replicate (fn.ntmps - args.size) undef, defers := [] } (.tmp x.1)) = v := by
   simp only [Act.eval, Array.getD_eq_getD_getElem?, Array.getElem?_append_left hlt, hv, Option.getD_some]
  rw [e]
  exact hh
theorem args_nil {args : Array Value} {w : World} : ∀ x ∈ ([] : List (Tmp × Pr)), ∃ v, args[x.1]? = some v ∧ Has (fun _ => False) w x.2 v := fun _ h => nomatch h
theorem args_cons {args : Array Value} {w : World} {t : Tmp} {φ : Pr} {v : Value} {sl : List (Tmp × Pr)} (h : args[t]? = some v) (hv : Has (fun _ => False) w φ v) (r : ∀ x ∈ sl, ∃ v, args[x.1]? = some v ∧ Has (fun _ => False) w x.2 v) : ∀ x ∈ ((t, φ) :: sl), ∃ v, args[x.1]? = some v ∧ Has (fun _ => False) w x.2 v := fun x hx => by
 rcases List.mem_cons.1 hx with rfl | hx
 ·exact ⟨v, h, hv⟩
 ·exact r x hx
theorem follows : Try.prog.follows .mixedOrders = true := by kernel_rfl
theorem Gives.cast {φ ψ : Nat → Pr} {w : World} {f : FuncId} {args : Array Value} (h : Calls Try.prog f args w (Gives φ w)) (e : φ = ψ) : Calls Try.prog f args w (Gives ψ w) := e ▸ h

theorem run_neq_bool (ρ : Operand → Value) (o : Oper) (x y : Operand) (w : World) (s t : Bool) (h1 : ρ x = .bool s) (h2 : ρ y = .bool t) : (execOp ρ { o with op := .binOp .neq 4 x y 4 }).run Try.prog w = .ok (.value (.bool (s != t))) w := by
  cases s <;> cases t <;> (unfold execOp; go_simp)
theorem run_neq_int_t (ρ : Operand → Value) (o : Oper) (x y : Operand) (w : World) (a b : Int) (h : a ≠ b) (h1 : ρ x = .int .i64 a) (h2 : ρ y = .int .i64 b) : (execOp ρ { o with op := .binOp .neq 3 x y 3 }).run Try.prog w = .ok (.value (.bool true)) w := by
  unfold execOp
  go_simp
theorem run_neq_int_f (ρ : Operand → Value) (o : Oper) (x y : Operand) (w : World) (a b : Int) (h : a = b) (h1 : ρ x = .int .i64 a) (h2 : ρ y = .int .i64 b) : (execOp ρ { o with op := .binOp .neq 3 x y 3 }).run Try.prog w = .ok (.value (.bool false)) w := by
  unfold execOp
  go_simp
theorem run_eql_int_t (ρ : Operand → Value) (o : Oper) (x y : Operand) (w : World) (a b : Int) (h : a = b) (h1 : ρ x = .int .i64 a) (h2 : ρ y = .int .i64 b) : (execOp ρ { o with op := .binOp .eql 3 x y 3 }).run Try.prog w = .ok (.value (.bool true)) w := by
  unfold execOp
  go_simp
theorem run_eql_int_f (ρ : Operand → Value) (o : Oper) (x y : Operand) (w : World) (a b : Int) (h : a ≠ b) (h1 : ρ x = .int .i64 a) (h2 : ρ y = .int .i64 b) : (execOp ρ { o with op := .binOp .eql 3 x y 3 }).run Try.prog w = .ok (.value (.bool false)) w := by
  unfold execOp
  go_simp
theorem run_lss_int_t (ρ : Operand → Value) (o : Oper) (x y : Operand) (w : World) (a b : Int) (h : a < b) (h1 : ρ x = .int .i64 a) (h2 : ρ y = .int .i64 b) : (execOp ρ { o with op := .binOp .lss 3 x y 3 }).run Try.prog w = .ok (.value (.bool true)) w := by
  unfold execOp
  go_simp
theorem run_lss_int_f (ρ : Operand → Value) (o : Oper) (x y : Operand) (w : World) (a b : Int) (h : b ≤ a) (h1 : ρ x = .int .i64 a) (h2 : ρ y = .int .i64 b) : (execOp ρ { o with op := .binOp .lss 3 x y 3 }).run Try.prog w = .ok (.value (.bool false)) w := by
  unfold execOp
  go_simp
theorem run_leq_int_t (ρ : Operand → Value) (o : Oper) (x y : Operand) (w : World) (a b : Int) (h : a ≤ b) (h1 : ρ x = .int .i64 a) (h2 : ρ y = .int .i64 b) : (execOp ρ { o with op := .binOp .leq 3 x y 3 }).run Try.prog w = .ok (.value (.bool true)) w := by
  unfold execOp
  go_simp
theorem run_leq_int_f (ρ : Operand → Value) (o : Oper) (x y : Operand) (w : World) (a b : Int) (h : b < a) (h1 : ρ x = .int .i64 a) (h2 : ρ y = .int .i64 b) : (execOp ρ { o with op := .binOp .leq 3 x y 3 }).run Try.prog w = .ok (.value (.bool false)) w := by
  unfold execOp
  go_simp
theorem run_gtr_int_t (ρ : Operand → Value) (o : Oper) (x y : Operand) (w : World) (a b : Int) (h : b < a) (h1 : ρ x = .int .i64 a) (h2 : ρ y = .int .i64 b) : (execOp ρ { o with op := .binOp .gtr 3 x y 3 }).run Try.prog w = .ok (.value (.bool true)) w := by
  unfold execOp
  go_simp
theorem run_gtr_int_f (ρ : Operand → Value) (o : Oper) (x y : Operand) (w : World) (a b : Int) (h : a ≤ b) (h1 : ρ x = .int .i64 a) (h2 : ρ y = .int .i64 b) : (execOp ρ { o with op := .binOp .gtr 3 x y 3 }).run Try.prog w = .ok (.value (.bool false)) w := by
  unfold execOp
  go_simp
theorem run_geq_int_t (ρ : Operand → Value) (o : Oper) (x y : Operand) (w : World) (a b : Int) (h : b ≤ a) (h1 : ρ x = .int .i64 a) (h2 : ρ y = .int .i64 b) : (execOp ρ { o with op := .binOp .geq 3 x y 3 }).run Try.prog w = .ok (.value (.bool true)) w := by
  unfold execOp
  go_simp
theorem run_geq_int_f (ρ : Operand → Value) (o : Oper) (x y : Operand) (w : World) (a b : Int) (h : a < b) (h1 : ρ x = .int .i64 a) (h2 : ρ y = .int .i64 b) : (execOp ρ { o with op := .binOp .geq 3 x y 3 }).run Try.prog w = .ok (.value (.bool false)) w := by
  unfold execOp
  go_simp
theorem run_neq_errno_t (ρ : Operand → Value) (o : Oper) (x y : Operand) (w : World) (a b : Int) (h : a ≠ b) (h1 : ρ x = .int .i64 a) (h2 : ρ y = .int .i64 b) : (execOp ρ { o with op := .binOp .neq 33 x y 33 }).run Try.prog w = .ok (.value (.bool true)) w := by
  unfold execOp
  go_simp
theorem run_neq_errno_f (ρ : Operand → Value) (o : Oper) (x y : Operand) (w : World) (a b : Int) (h : a = b) (h1 : ρ x = .int .i64 a) (h2 : ρ y = .int .i64 b) : (execOp ρ { o with op := .binOp .neq 33 x y 33 }).run Try.prog w = .ok (.value (.bool false)) w := by
  unfold execOp
  go_simp
theorem run_eql_errno_t (ρ : Operand → Value) (o : Oper) (x y : Operand) (w : World) (a b : Int) (h : a = b) (h1 : ρ x = .int .i64 a) (h2 : ρ y = .int .i64 b) : (execOp ρ { o with op := .binOp .eql 33 x y 33 }).run Try.prog w = .ok (.value (.bool true)) w := by
  unfold execOp
  go_simp
theorem run_eql_errno_f (ρ : Operand → Value) (o : Oper) (x y : Operand) (w : World) (a b : Int) (h : a ≠ b) (h1 : ρ x = .int .i64 a) (h2 : ρ y = .int .i64 b) : (execOp ρ { o with op := .binOp .eql 33 x y 33 }).run Try.prog w = .ok (.value (.bool false)) w := by
  unfold execOp
  go_simp
theorem run_not (ρ : Operand → Value) (o : Oper) (x : Operand) (w : World) (s : Bool) (h1 : ρ x = .bool s) : (execOp ρ { o with op := .unOp .not 4 x }).run Try.prog w = .ok (.value (.bool (!s))) w := by
  unfold execOp
  go_simp
theorem build_int0 (ρ : Operand → Value) (o : Oper) (w : World) : (execOp ρ { o with op := .build 29 #[] }).run Try.prog w = .ok (.value (.agg #[.bool false, .slice none 0 0])) w := by
  unfold execOp
  go_simp
theorem owe_build_int {ops : Array Oper} {l : List Kd} {bx : Bxs} {sl : List (Tmp × Pr)} {i : Nat} {o : Oper} {Q : Exit → Act → World → Prop} {a0 : Act} {n : Nat} {w0 : World} (ho : ops[i]? = some o) (hw : Wants ops l bx sl i o) (hop : o.op = .build 29 #[]) (hk : kdAt l i = .val zI) : Owed Try.prog ops Q l bx sl a0 n w0 i :=
 owe_is ho hw hk fun vs B a w c => by
  rw [← build_int0 a.eval o w]
  unfold execOp
  rw [hop]
theorem nn_len {m lo : Nat} : ∀ v w, NN m lo v w → ∃ p c, v = .slice p (digs m).length c := fun v w ⟨r, c, e, _⟩ => ⟨_, _, e⟩
theorem wrap64_id {x : Int} (h1 : -9223372036854775808 ≤ x) (h2 : x ≤ 9223372036854775807) : IntKind.i64.wrap x = x := by
 rw [IntKind.wrap_i64]
 omega
theorem run_add_int (ρ : Operand → Value) (o : Oper) (x y : Operand) (w : World) (a b r : Int) (h : a + b = r ∧ -9223372036854775808 ≤ r ∧ r ≤ 9223372036854775807) (h1 : ρ x = .int .i64 a) (h2 : ρ y = .int .i64 b) : (execOp ρ { o with op := .binOp .add 3 x y 3 }).run Try.prog w = .ok (.value (.int .i64 r)) w := by
  obtain ⟨rfl, h3, h4⟩ := h
  have h5 : IntKind.i64.wrap (a + b) = a + b := wrap64_id h3 h4
  unfold execOp
  go_simp
theorem run_sub_int (ρ : Operand → Value) (o : Oper) (x y : Operand) (w : World) (a b r : Int) (h : a - b = r ∧ -9223372036854775808 ≤ r ∧ r ≤ 9223372036854775807) (h1 : ρ x = .int .i64 a) (h2 : ρ y = .int .i64 b) : (execOp ρ { o with op := .binOp .sub 3 x y 3 }).run Try.prog w = .ok (.value (.int .i64 r)) w := by
  obtain ⟨rfl, h3, h4⟩ := h
  have h5 : IntKind.i64.wrap (a - b) = a - b := wrap64_id h3 h4
  unfold execOp
  go_simp
theorem wp_loop_ghost {P : Program} {Q : Exit → Act → World → Prop} {c : Code} {α : Type} (I : α → Act → World → Prop) (μ : α → Nat)
  (round : ∀ x a w, I x a w → c.wp P (Exit.then (fun a' w' => ∃ y, I y a' w' ∧ μ y < μ x) Q) a w) (x : α) {a : Act} {w : World} (h : I x a w) : (Code.loop c).wp P Q a w := by
 have key : ∀ n x a w, μ x < n → I x a w → Code.rounds P c Q n a w := by
  intro n
  induction n with
  | zero => intro x a w h; omega
  | succ n ih =>
   intro x a w hx hI
   refine wp_mono (round x a w hI) (fun e a' w' he => ?_)
   cases e with
   | normal =>
    obtain ⟨y, hy, hlt⟩ := he
    exact ih y a' w' (by omega) hy
   | _ => exact he
 exact wp_loop_rounds (μ x + 1) (key _ x a w (by omega) h)
/-- Fewer words are kept. -/
def takeAt {α : Type} (l : List α) : List Nat → List α
 | [] => []
 | k :: r => (match l[k]? with | some x => [x] | none => []) ++ takeAt l r
theorem takeAt_mem {α : Type} (l : List α) : ∀ (s : List Nat) (x : α), x ∈ takeAt l s → x ∈ l
 | [], _, h => by cases h
 | k :: r, x, h => by
  simp only [takeAt, List.mem_append] at h
  rcases h with h | h
  ·split at h
   ·rename_i y e
    simp at h
    subst h
    exact List.mem_of_getElem? e
   ·cases h
  ·exact takeAt_mem l r x h
theorem Sta.sub {w0 W : World} {n : Nat} {bx : Bxs} {sl : List (Tmp × Pr)} {B : Nat → Prop} {a : Act} (S : Sta w0 n bx sl B a W) (s1 s2 : List Nat) : Sta w0 n (takeAt bx s1) (takeAt sl s2) B a W :=
 ⟨S.ent, S.bnd, S.siz, S.dfr, fun x hx => S.box x (takeAt_mem _ _ _ hx), fun x hx y hy => S.sep x (takeAt_mem _ _ _ hx) y (takeAt_mem _ _ _ hy), fun x hx => S.slt x (takeAt_mem _ _ _ hx)⟩

section
variable {ops : Array Oper} {l : List Kd} {bx : Bxs} {sl : List (Tmp × Pr)} {i : Nat} {o : Oper} {Q : Exit → Act → World → Prop} {a0 : Act} {n : Nat} {w0 : World}
theorem b_lss_int_t {a : Int} {b : Int} {x y : Operand} (hw : Wants ops l bx sl i o) (hx : Opnd ops l bx sl i x (Is (.int .i64 a))) (hy : Opnd ops l bx sl i y (Is (.int .i64 b))) (ho : ops[i]? = some o := by exact rfl) (hop : o.op = .binOp .lss 3 x y 3 := by exact rfl) (hk : kdAt l i = .val (Is (.bool true)) := by exact rfl) (h : a < b := by omega) : Owed Try.prog ops Q l bx sl a0 n w0 i := owe_bin ho hw hop hx hy hk (fun ρ w h1 h2 => run_lss_int_t ρ _ _ _ w _ _ h h1 h2)
theorem b_lss_int_f {a : Int} {b : Int} {x y : Operand} (hw : Wants ops l bx sl i o) (hx : Opnd ops l bx sl i x (Is (.int .i64 a))) (hy : Opnd ops l bx sl i y (Is (.int .i64 b))) (ho : ops[i]? = some o := by exact rfl) (hop : o.op = .binOp .lss 3 x y 3 := by exact rfl) (hk : kdAt l i = .val (Is (.bool false)) := by exact rfl) (h : b ≤ a := by omega) : Owed Try.prog ops Q l bx sl a0 n w0 i := owe_bin ho hw hop hx hy hk (fun ρ w h1 h2 => run_lss_int_f ρ _ _ _ w _ _ h h1 h2)
theorem b_leq_int_t {a : Int} {b : Int} {x y : Operand} (hw : Wants ops l bx sl i o) (hx : Opnd ops l bx sl i x (Is (.int .i64 a))) (hy : Opnd ops l bx sl i y (Is (.int .i64 b))) (ho : ops[i]? = some o := by exact rfl) (hop : o.op = .binOp .leq 3 x y 3 := by exact rfl) (hk : kdAt l i = .val (Is (.bool true)) := by exact rfl) (h : a ≤ b := by omega) : Owed Try.prog ops Q l bx sl a0 n w0 i := owe_bin ho hw hop hx hy hk (fun ρ w h1 h2 => run_leq_int_t ρ _ _ _ w _ _ h h1 h2)
theorem b_leq_int_f {a : Int} {b : Int} {x y : Operand} (hw : Wants ops l bx sl i o) (hx : Opnd ops l bx sl i x (Is (.int .i64 a))) (hy : Opnd ops l bx sl i y (Is (.int .i64 b))) (ho : ops[i]? = some o := by exact rfl) (hop : o.op = .binOp .leq 3 x y 3 := by exact rfl) (hk : kdAt l i = .val (Is (.bool false)) := by exact rfl) (h : b < a := by omega) : Owed Try.prog ops Q l bx sl a0 n w0 i := owe_bin ho hw hop hx hy hk (fun ρ w h1 h2 => run_leq_int_f ρ _ _ _ w _ _ h h1 h2)
theorem b_gtr_int_t {a : Int} {b : Int} {x y : Operand} (hw : Wants ops l bx sl i o) (hx : Opnd ops l bx sl i x (Is (.int .i64 a))) (hy : Opnd ops l bx sl i y (Is (.int .i64 b))) (ho : ops[i]? = some o := by exact rfl) (hop : o.op = .binOp .gtr 3 x y 3 := by exact rfl) (hk : kdAt l i = .val (Is (.bool true)) := by exact rfl) (h : b < a := by omega) : Owed Try.prog ops Q l bx sl a0 n w0 i := owe_bin ho hw hop hx hy hk (fun ρ w h1 h2 => run_gtr_int_t ρ _ _ _ w _ _ h h1 h2)
theorem b_gtr_int_f {a : Int} {b : Int} {x y : Operand} (hw : Wants ops l bx sl i o) (hx : Opnd ops l bx sl i x (Is (.int .i64 a))) (hy : Opnd ops l bx sl i y (Is (.int .i64 b))) (ho : ops[i]? = some o := by exact rfl) (hop : o.op = .binOp .gtr 3 x y 3 := by exact rfl) (hk : kdAt l i = .val (Is (.bool false)) := by exact rfl) (h : a ≤ b := by omega) : Owed Try.prog ops Q l bx sl a0 n w0 i := owe_bin ho hw hop hx hy hk (fun ρ w h1 h2 => run_gtr_int_f ρ _ _ _ w _ _ h h1 h2)
theorem b_geq_int_t {a : Int} {b : Int} {x y : Operand} (hw : Wants ops l bx sl i o) (hx : Opnd ops l bx sl i x (Is (.int .i64 a))) (hy : Opnd ops l bx sl i y (Is (.int .i64 b))) (ho : ops[i]? = some o := by exact rfl) (hop : o.op = .binOp .geq 3 x y 3 := by exact rfl) (hk : kdAt l i = .val (Is (.bool true)) := by exact rfl) (h : b ≤ a := by omega) : Owed Try.prog ops Q l bx sl a0 n w0 i := owe_bin ho hw hop hx hy hk (fun ρ w h1 h2 => run_geq_int_t ρ _ _ _ w _ _ h h1 h2)
theorem b_geq_int_f {a : Int} {b : Int} {x y : Operand} (hw : Wants ops l bx sl i o) (hx : Opnd ops l bx sl i x (Is (.int .i64 a))) (hy : Opnd ops l bx sl i y (Is (.int .i64 b))) (ho : ops[i]? = some o := by exact rfl) (hop : o.op = .binOp .geq 3 x y 3 := by exact rfl) (hk : kdAt l i = .val (Is (.bool false)) := by exact rfl) (h : a < b := by omega) : Owed Try.prog ops Q l bx sl a0 n w0 i := owe_bin ho hw hop hx hy hk (fun ρ w h1 h2 => run_geq_int_f ρ _ _ _ w _ _ h h1 h2)
theorem b_eql_int_t {a : Int} {b : Int} {x y : Operand} (hw : Wants ops l bx sl i o) (hx : Opnd ops l bx sl i x (Is (.int .i64 a))) (hy : Opnd ops l bx sl i y (Is (.int .i64 b))) (ho : ops[i]? = some o := by exact rfl) (hop : o.op = .binOp .eql 3 x y 3 := by exact rfl) (hk : kdAt l i = .val (Is (.bool true)) := by exact rfl) (h : a = b := by omega) : Owed Try.prog ops Q l bx sl a0 n w0 i := owe_bin ho hw hop hx hy hk (fun ρ w h1 h2 => run_eql_int_t ρ _ _ _ w _ _ h h1 h2)
theorem b_eql_int_f {a : Int} {b : Int} {x y : Operand} (hw : Wants ops l bx sl i o) (hx : Opnd ops l bx sl i x (Is (.int .i64 a))) (hy : Opnd ops l bx sl i y (Is (.int .i64 b))) (ho : ops[i]? = some o := by exact rfl) (hop : o.op = .binOp .eql 3 x y 3 := by exact rfl) (hk : kdAt l i = .val (Is (.bool false)) := by exact rfl) (h : a ≠ b := by omega) : Owed Try.prog ops Q l bx sl a0 n w0 i := owe_bin ho hw hop hx hy hk (fun ρ w h1 h2 => run_eql_int_f ρ _ _ _ w _ _ h h1 h2)
theorem b_neq_int_t {a : Int} {b : Int} {x y : Operand} (hw : Wants ops l bx sl i o) (hx : Opnd ops l bx sl i x (Is (.int .i64 a))) (hy : Opnd ops l bx sl i y (Is (.int .i64 b))) (ho : ops[i]? = some o := by exact rfl) (hop : o.op = .binOp .neq 3 x y 3 := by exact rfl) (hk : kdAt l i = .val (Is (.bool true)) := by exact rfl) (h : a ≠ b := by omega) : Owed Try.prog ops Q l bx sl a0 n w0 i := owe_bin ho hw hop hx hy hk (fun ρ w h1 h2 => run_neq_int_t ρ _ _ _ w _ _ h h1 h2)
theorem b_neq_int_f {a : Int} {b : Int} {x y : Operand} (hw : Wants ops l bx sl i o) (hx : Opnd ops l bx sl i x (Is (.int .i64 a))) (hy : Opnd ops l bx sl i y (Is (.int .i64 b))) (ho : ops[i]? = some o := by exact rfl) (hop : o.op = .binOp .neq 3 x y 3 := by exact rfl) (hk : kdAt l i = .val (Is (.bool false)) := by exact rfl) (h : a = b := by omega) : Owed Try.prog ops Q l bx sl a0 n w0 i := owe_bin ho hw hop hx hy hk (fun ρ w h1 h2 => run_neq_int_f ρ _ _ _ w _ _ h h1 h2)
theorem b_eql_errno_t {a : Int} {b : Int} {x y : Operand} (hw : Wants ops l bx sl i o) (hx : Opnd ops l bx sl i x (Is (.int .i64 a))) (hy : Opnd ops l bx sl i y (Is (.int .i64 b))) (ho : ops[i]? = some o := by exact rfl) (hop : o.op = .binOp .eql 33 x y 33 := by exact rfl) (hk : kdAt l i = .val (Is (.bool true)) := by exact rfl) (h : a = b := by omega) : Owed Try.prog ops Q l bx sl a0 n w0 i := owe_bin ho hw hop hx hy hk (fun ρ w h1 h2 => run_eql_errno_t ρ _ _ _ w _ _ h h1 h2)
theorem b_eql_errno_f {a : Int} {b : Int} {x y : Operand} (hw : Wants ops l bx sl i o) (hx : Opnd ops l bx sl i x (Is (.int .i64 a))) (hy : Opnd ops l bx sl i y (Is (.int .i64 b))) (ho : ops[i]? = some o := by exact rfl) (hop : o.op = .binOp .eql 33 x y 33 := by exact rfl) (hk : kdAt l i = .val (Is (.bool false)) := by exact rfl) (h : a ≠ b := by omega) : Owed Try.prog ops Q l bx sl a0 n w0 i := owe_bin ho hw hop hx hy hk (fun ρ w h1 h2 => run_eql_errno_f ρ _ _ _ w _ _ h h1 h2)
theorem b_neq_errno_t {a : Int} {b : Int} {x y : Operand} (hw : Wants ops l bx sl i o) (hx : Opnd ops l bx sl i x (Is (.int .i64 a))) (hy : Opnd ops l bx sl i y (Is (.int .i64 b))) (ho : ops[i]? = some o := by exact rfl) (hop : o.op = .binOp .neq 33 x y 33 := by exact rfl) (hk : kdAt l i = .val (Is (.bool true)) := by exact rfl) (h : a ≠ b := by omega) : Owed Try.prog ops Q l bx sl a0 n w0 i := owe_bin ho hw hop hx hy hk (fun ρ w h1 h2 => run_neq_errno_t ρ _ _ _ w _ _ h h1 h2)
theorem b_neq_errno_f {a : Int} {b : Int} {x y : Operand} (hw : Wants ops l bx sl i o) (hx : Opnd ops l bx sl i x (Is (.int .i64 a))) (hy : Opnd ops l bx sl i y (Is (.int .i64 b))) (ho : ops[i]? = some o := by exact rfl) (hop : o.op = .binOp .neq 33 x y 33 := by exact rfl) (hk : kdAt l i = .val (Is (.bool false)) := by exact rfl) (h : a = b := by omega) : Owed Try.prog ops Q l bx sl a0 n w0 i := owe_bin ho hw hop hx hy hk (fun ρ w h1 h2 => run_neq_errno_f ρ _ _ _ w _ _ h h1 h2)
theorem b_add_int {a : Int} {b : Int} {r : Int} {x y : Operand} (hw : Wants ops l bx sl i o) (hx : Opnd ops l bx sl i x (Is (.int .i64 a))) (hy : Opnd ops l bx sl i y (Is (.int .i64 b))) (ho : ops[i]? = some o := by exact rfl) (hop : o.op = .binOp .add 3 x y 3 := by exact rfl) (hk : kdAt l i = .val (Is (.int .i64 r)) := by exact rfl) (h : a + b = r ∧ -9223372036854775808 ≤ r ∧ r ≤ 9223372036854775807 := by exact ⟨by omega, by omega, by omega⟩) : Owed Try.prog ops Q l bx sl a0 n w0 i := owe_bin ho hw hop hx hy hk (fun ρ w h1 h2 => run_add_int ρ _ _ _ w _ _ _ h h1 h2)
theorem b_sub_int {a : Int} {b : Int} {r : Int} {x y : Operand} (hw : Wants ops l bx sl i o) (hx : Opnd ops l bx sl i x (Is (.int .i64 a))) (hy : Opnd ops l bx sl i y (Is (.int .i64 b))) (ho : ops[i]? = some o := by exact rfl) (hop : o.op = .binOp .sub 3 x y 3 := by exact rfl) (hk : kdAt l i = .val (Is (.int .i64 r)) := by exact rfl) (h : a - b = r ∧ -9223372036854775808 ≤ r ∧ r ≤ 9223372036854775807 := by exact ⟨by omega, by omega, by omega⟩) : Owed Try.prog ops Q l bx sl a0 n w0 i := owe_bin ho hw hop hx hy hk (fun ρ w h1 h2 => run_sub_int ρ _ _ _ w _ _ _ h h1 h2)
theorem b_neq_bool {s : Bool} {t : Bool} {x y : Operand} (hw : Wants ops l bx sl i o) (hx : Opnd ops l bx sl i x (Is (.bool s))) (hy : Opnd ops l bx sl i y (Is (.bool t))) (ho : ops[i]? = some o := by exact rfl) (hop : o.op = .binOp .neq 4 x y 4 := by exact rfl) (hk : kdAt l i = .val (Is (.bool (s != t))) := by exact rfl)  : Owed Try.prog ops Q l bx sl a0 n w0 i := owe_bin ho hw hop hx hy hk (fun ρ w h1 h2 => run_neq_bool ρ _ _ _ w _ _ h1 h2)
theorem b_not {s : Bool} {x : Operand} (hw : Wants ops l bx sl i o) (hx : Opnd ops l bx sl i x (Is (.bool s))) (ho : ops[i]? = some o := by exact rfl) (hop : o.op = .unOp .not 4 x := by exact rfl) (hk : kdAt l i = .val (Is (.bool (!s))) := by exact rfl)  : Owed Try.prog ops Q l bx sl a0 n w0 i := owe_un (x := x) ho hw hop hx hk (fun ρ w h1 => run_not ρ _ _ w _ h1)
end
theorem wq {P : Program} {ops : Array Oper} {Q : Exit → Act → World → Prop} {bx : Bxs} {sl : List (Tmp × Pr)} {n : Nat} {B0 : Nat → Prop} {a0 : Act} {W w0 : World} {id : Nat} {draw : Bool} {y : Code} (l : List Kd) (s1 s2 : List (Nat ⊕ Nat)) (T0 : Sta w0 n bx sl B0 a0 W)
  (hop : AllOwed (Owed P ops (Exit.then (y.wp P Q) Q) l bx sl a0 n w0) ops.size)
  (fin : ∀ B a w, Sta w0 n (pickBx ops l bx s1) (pickSl ops l sl s2) B a w → y.wp P Q a w) (hm : P.follows .mixedOrders = true := by exact follows) (hl : l.length = ops.size := by exact rfl) (hc : (shapeOk ops l (bx.map (·.1)) n && pickOk ops l bx s1) = true := by kernel_rfl) : (Code.seq (.region id ops draw) y).wp P Q a0 W := wp_stmt_seq l s1 s2 hm T0 hl hc hop fin
theorem wr {P : Program} {ops : Array Oper} {Q : Exit → Act → World → Prop} {bx : Bxs} {sl : List (Tmp × Pr)} {n : Nat} {B0 : Nat → Prop} {a0 : Act} {W w0 : World} {id : Nat} {draw : Bool} (l : List Kd) (s1 s2 : List (Nat ⊕ Nat)) (T0 : Sta w0 n bx sl B0 a0 W)
  (hop : AllOwed (Owed P ops Q l bx sl a0 n w0) ops.size)
  (fin : ∀ B a w, Sta w0 n (pickBx ops l bx s1) (pickSl ops l sl s2) B a w → Q .normal a w) (hm : P.follows .mixedOrders = true := by exact follows) (hl : l.length = ops.size := by exact rfl) (hc : (shapeOk ops l (bx.map (·.1)) n && pickOk ops l bx s1) = true := by kernel_rfl) : (Code.region id ops draw).wp P Q a0 W := wp_stmt l s1 s2 hm T0 hl hc hop fin
end Go.Proofs.Ytoeopdmaogmjhaa

/-
 The rules of the logic of statements for rows that a call makes, grows and hands on.
-/
namespace Go.Proofs.Ytoeopdmaogmjhaa
open Go Go.RowKit Nt
set_option linter.unusedSimpArgs false
set_option linter.unusedVariables false
set_option maxRecDepth 20000

/-- What the table says of an element's type. -/
structure EInf (e size bytes : Nat) : Prop where
 inf : ∃ (i : TypeInfo) (z : Value), Try.prog.info? e = some i ∧ i.zero = some z ∧ i.size = size ∧ i.bytes = bytes ∧ z.cells.size = size
 pos : 0 < size
theorem vblock_own (v : Value) (h : ∀ a, v ≠ .pointer (some a)) : vblock v = v.ownBlock := by
 cases v with
 | pointer a => cases a with | none => rfl | some a => exact absurd rfl (h a)
 | slice a n c => cases a <;> rfl
 | _ => rfl
/-- Where the row lies behind an append: where it lay, or in a new block. -/
theorem append_where {w : World} {lo t ty e size bytes n m c : Nat} {v v' : Value} {w' : World} {xs news : List Value} {ad : Addr} (hE : EInf e size bytes) (ht : Try.prog.underlying t = some (.slice e)) (hown : w.ownsRow lo e size v n xs)
  (hl : news.length = m * size) (hnews : ∀ j u, news[j]? = some u → w.cell? (ad.add j) = some u) (h1 : ∀ u ∈ news, u.oneCell' = true) (h63 : n + m ≤ maxLen) (hbytes : (n + m) * bytes ≤ 140737488355328)
  (hr : (Builtin.append_ #[t, t] ty #[v, .slice (some ad) m c]).run Try.prog w = .ok v' w') (hown' : w'.ownsRow lo e size v' (n + m) (xs ++ news)) :
  ∀ b, vblock v' = some b → vblock v = some b ∨ (w.heap.size ≤ b ∧ b < w'.heap.size) := by
 obtain ⟨⟨i, z, hi, hz, hsz, hby, hzs⟩, hpos⟩ := hE
 subst hsz
 subst hby
 have hsmall : n + m ≤ 9223372036854775807 := by simp only [maxLen] at h63; omega
 intro b hb
 have hlt : b < w'.heap.size := by
  rcases hown'.2 with ⟨rfl, _⟩ | ⟨g, cap, cur, rfl, _, hg, _⟩
  ·simp [vblock] at hb
  ·simp [vblock] at hb; subst hb; exact (Array.getElem?_eq_some_iff.1 hg).1
 rcases hown.2 with ⟨rfl, rfl⟩ | ⟨g, cap, cur, rfl, hbg, hg, hnc, hcm, hcs, htake⟩
 ·by_cases hm : m = 0
  ·subst hm
   rcases hown'.2 with ⟨rfl, _⟩ | ⟨g', cap', cur', rfl, _⟩
   ·simp [vblock] at hb
   ·have : (Builtin.append_ #[t, t] ty #[.slice none 0 0, .slice (some ad) 0 c]).run Try.prog w = .ok (.slice none 0 0) w := by
     simp [Builtin.append_, run_underlying ht, sizeOf, typeInfo, hi, Builtin.lenOf, Builtin.firstCells, loadCells, loadCellsFrom]
    rw [this] at hr
    simp at hr
  ·have h2 := run_append_nil (P := Try.prog) w t ty e i z ht hi hz ad m c news hl hnews (by omega) (by omega) (by have hb := hbytes; simp only [Nat.zero_add] at hb; omega)
   rw [h2] at hr
   simp only [Result.ok.injEq] at hr
   rw [← hr.1] at hb
   simp [vblock] at hb
   exact Or.inr ⟨by omega, hlt⟩
 ·by_cases hroom : n + m ≤ cap
  ·have hfit : n * i.size + news.length ≤ cur.size := by rw [hl, hcs, ← Nat.add_mul]; exact Nat.mul_le_mul_right _ hroom
   have h2 := run_append_room (P := Try.prog) w t ty e i ht hi g n cap cur hg ad m c news hl hnews h1 hroom hfit
   rw [h2] at hr
   simp only [Result.ok.injEq] at hr
   rw [← hr.1] at hb
   exact Or.inl hb
  ·have h2 := run_append_grow (P := Try.prog) w t ty e i z ht hi hz ⟨g, 0, none⟩ n cap xs hown.1 (hown.cells (g := g) rfl) ad m c news hl hnews (by omega) (by omega) (growslice_fits (by omega) hbytes)
   rw [h2] at hr
   simp only [Result.ok.injEq] at hr
   rw [← hr.1] at hb
   simp [vblock] at hb
   exact Or.inr ⟨by omega, hlt⟩

/-- A slice of m elements in a block of its own, whose cells are so. -/
def Src (e size m : Nat) (χ : List Value → World → Prop) : Pr := fun v w => ∃ (g c : Nat) (ys : List Value), v = .slice (some ⟨g, 0, none⟩) m c ∧ (ys.length = m * size ∧ m ≤ c ∧ c ≤ maxLen) ∧ w.heap[g]? = some (.cells ys.toArray e (0, 0)) ∧ (∀ u ∈ ys, u.oneCell' = true) ∧ χ ys w
/-- Such a slice is none of the boxes, and its cells stay. -/
theorem src_fix {B : Nat → Prop} {w : World} {e size m : Nat} {χ : List Value → World → Prop} {v : Value} (hm : 0 < m * size) (h : Has B w (Src e size m χ) v) :
  ∃ (g c : Nat) (ys : List Value), v = .slice (some ⟨g, 0, none⟩) m c ∧ (ys.length = m * size ∧ m ≤ c ∧ c ≤ maxLen) ∧ w.heap[g]? = some (.cells ys.toArray e (0, 0)) ∧ (∀ u ∈ ys, u.oneCell' = true) ∧ ∀ w', Ev B w w' → χ ys w' := by
 obtain ⟨g, c, ys, e1, e2, e3, e4, e5⟩ := h.now
 have hlt : g < w.heap.size := (Array.getElem?_eq_some_iff.1 e3).1
 have hnB : ¬ B g := fun hB => by
  have hev : Ev B w (w.setRow g #[]) := ⟨rfl, rfl, rfl, Nat.le_of_eq (setRow_size _ _ _).symm, fun k _ hn => setRow_other _ _ _ _ (fun e => hn (e ▸ hB))⟩
  obtain ⟨g', c', ys', f1, f2, f3, _⟩ := h _ hev
  rw [e1] at f1
  simp only [Value.slice.injEq, Option.some.injEq, Addr.mk.injEq] at f1
  obtain ⟨⟨rfl, _⟩, _⟩ := f1
  rw [setRow_heap w _ _ _ _ _ e3] at f3
  simp only [Option.some.injEq, Obj.cells.injEq] at f3
  have : ys' = [] := by
   have := congrArg Array.toList f3.1
   simpa using this.symm
  subst this
  have := f2.1
  simp at this
  omega
 refine ⟨g, c, ys, e1, e2, e3, e4, fun w' hw' => ?_⟩
 obtain ⟨g', c', ys', f1, f2, f3, _, f5⟩ := h w' hw'
 rw [e1] at f1
 simp only [Value.slice.injEq, Option.some.injEq, Addr.mk.injEq] at f1
 obtain ⟨⟨rfl, _⟩, _⟩ := f1
 rw [hw'.block g hlt hnB, e3] at f3
 simp only [Option.some.injEq, Obj.cells.injEq] at f3
 have : ys = ys' := by
  have := congrArg Array.toList f3.1
  simpa using this
 subst this
 exact f5

section
variable {ops : Array Oper} {l : List Kd} {bx : Bxs} {sl : List (Tmp × Pr)} {i : Nat} {o : Oper} {Q : Exit → Act → World → Prop} {a0 : Act} {n0 : Nat} {w0 : World}

theorem chg_grown {w w' : World} {v : Value} (h : w.grownBy w' v.ownBlock) (hv : vblock v = v.ownBlock) : Chg (fun k => vblock v = some k) w w' :=
 ⟨h.os, h.tape, h.output, h.size, fun k hk hn => h.block k hk (fun e => hn (by rw [hv, ← e]))⟩
/-- A row is grown. -/
theorem owe_append {x y : Operand} {T t k e size bytes n m : Nat} {χ χ2 χ3 : List Value → World → Prop} (ho : ops[i]? = some o) (hw : Wants ops l bx sl i o) (hop : o.op = .call { callee := .builtin .append, args := #[x, y], argTypes := #[T, T] })
  (hx : Opnd ops l bx sl i x (Is (a0.eval (.tmp t)))) (hb : bx[k]? = some (t, .row e size n χ)) (hn : unturned ops l i (.inl t) = true) (hy : Opnd ops l bx sl i y (Src e size m χ2)) (hE : EInf e size bytes) (hT : Try.prog.underlying T = some (.slice e)) (hm : 0 < m * size)
  (hl : n + m ≤ maxLen ∧ (n + m) * bytes ≤ 140737488355328) (hk : kdAt l i = .mov t (.row e size (n + m) χ3)) (h3 : ∀ xs ys w, χ xs w → χ2 ys w → χ3 (xs ++ ys) w) : Owed Try.prog ops Q l bx sl a0 n0 w0 i := fun vs B a w c o' ho' => by
 obtain rfl : o = o' := Option.some.inj (ho.symm.trans ho')
 have hxv : a.eval x = a0.eval (.tmp t) := (hx a0 n0 w0 vs B a w c).now
 obtain ⟨xs, hown, hB, hχ⟩ := c.box t _ (List.mem_of_getElem? hb) hn
 obtain ⟨g, c', ys, e1, e2, e3, e4, hχ2⟩ := src_fix hm (hy a0 n0 w0 vs B a w c)
 have hnews : ∀ j u, ys[j]? = some u → w.cell? ((⟨g, 0, none⟩ : Addr).add j) = some u := fun j u hu => by
  rw [addr_add]
  simp only [World.cell?, e3, Nat.zero_add]
  simpa using hu
 have hlo : w0.heap.size ≤ w.heap.size := c.lo
 obtain ⟨⟨i0, z, hi, hz, hsz, hby, hzs⟩, hpos⟩ := id hE
 obtain ⟨v', w', hr, o1, o2, _⟩ := run_append_own (P := Try.prog) w w0.heap.size T o.type e i0 z size bytes hT hi hz hsz hby hzs hpos _ n xs hown ⟨g, 0, none⟩ m c' ys e2.1 hnews e4 hl.1 hl.2 hlo
 have hwh := append_where hE hT hown e2.1 hnews e4 hl.1 hl.2 hr o1
 have hvb : vblock (a0.eval (.tmp t)) = (a0.eval (.tmp t)).ownBlock := vblock_own _ (fun ad ea => by
  rcases hown.2 with ⟨e', _⟩ | ⟨g', cap, cur, e', _⟩ <;> rw [e'] at ea <;> cases ea)
 have hc := chg_grown o2 hvb
 simp only [wpOp, ho]
 rw [if_pos (hw a0 n0 w0 vs B a w c)]
 refine Or.inl ?_
 unfold Oper.wp
 have h : (execOp a.eval o).run Try.prog w = .ok (.value v') w' := by
  unfold execOp
  rw [hop]
  simp only [resolve, invoke, builtin, Sem.run_bind, Sem.run_pure, Result.andThen_ok, List.map_toArray, List.map_cons, List.map_nil, hxv, e1, hr]
 rw [h, Oper.upon_value]
 refine ⟨v', rfl, ?_⟩
 rw [hk]
 have ev : Ev B w w' := ⟨hc.os, hc.tape, hc.output, hc.size, fun k hk' hn' => hc.block k hk' (fun hs => hn' (hB k hs))⟩
 have hsub : ∀ k, k < w.heap.size → (B k ∨ vblock v' = some k) → B k := fun k hk' h' => by
  rcases h' with h' | h'
  ·exact h'
  ·rcases hwh k h' with h'' | h''
   ·exact hB k h''
   ·omega
 exact out_mov (List.mem_of_getElem? hb) rfl rfl hc hwh ⟨xs ++ ys, o1, fun b hb' => Or.inr hb', fun w'' e'' => h3 _ _ _ (hχ _ (ev.back hsub e'')) (hχ2 _ (ev.back hsub e''))⟩
/-- A row is begun. -/
theorem owe_append0 {x y : Operand} {T e size bytes m : Nat} {χ2 χ3 : List Value → World → Prop} (ho : ops[i]? = some o) (hw : Wants ops l bx sl i o) (hop : o.op = .call { callee := .builtin .append, args := #[x, y], argTypes := #[T, T] })
  (hx : Opnd ops l bx sl i x (Is (.slice none 0 0))) (hy : Opnd ops l bx sl i y (Src e size m χ2)) (hE : EInf e size bytes) (hT : Try.prog.underlying T = some (.slice e)) (hm : 0 < m * size)
  (hl : m ≤ maxLen ∧ m * bytes ≤ 140737488355328) (hk : kdAt l i = .new (.row e size m χ3)) (h3 : ∀ ys w, χ2 ys w → χ3 ys w) : Owed Try.prog ops Q l bx sl a0 n0 w0 i := fun vs B a w c o' ho' => by
 obtain rfl : o = o' := Option.some.inj (ho.symm.trans ho')
 have hxv : a.eval x = .slice none 0 0 := (hx a0 n0 w0 vs B a w c).now
 obtain ⟨g, c', ys, e1, e2, e3, e4, hχ2⟩ := src_fix hm (hy a0 n0 w0 vs B a w c)
 have hnews : ∀ j u, ys[j]? = some u → w.cell? ((⟨g, 0, none⟩ : Addr).add j) = some u := fun j u hu => by
  rw [addr_add]
  simp only [World.cell?, e3, Nat.zero_add]
  simpa using hu
 obtain ⟨⟨i0, z, hi, hz, hsz, hby, hzs⟩, hpos⟩ := id hE
 obtain ⟨v', w', hr, o1, o2, _⟩ := run_append_own (P := Try.prog) w w0.heap.size T o.type e i0 z size bytes hT hi hz hsz hby hzs hpos _ 0 [] (World.ownsRow_nil w w0.heap.size e size) ⟨g, 0, none⟩ m c' ys e2.1 hnews e4 (by rw [Nat.zero_add]; exact hl.1) (by rw [Nat.zero_add]; exact hl.2) c.lo
 have hwh := append_where hE hT (World.ownsRow_nil w w0.heap.size e size) e2.1 hnews e4 (by rw [Nat.zero_add]; exact hl.1) (by rw [Nat.zero_add]; exact hl.2) hr o1
 rw [Nat.zero_add, List.nil_append] at o1
 have hb : Below w.heap.size w w' := ⟨o2.os, o2.tape, o2.output, o2.size, fun k hk' => o2.block k hk' (by simp [Value.ownBlock])⟩
 have hfr : ∀ b, vblock v' = some b → w.heap.size ≤ b ∧ b < w'.heap.size := fun b hb' => by
  rcases hwh b hb' with h' | h'
  ·simp [vblock] at h'
  ·exact h'
 simp only [wpOp, ho]
 rw [if_pos (hw a0 n0 w0 vs B a w c)]
 refine Or.inl ?_
 unfold Oper.wp
 have h : (execOp a.eval o).run Try.prog w = .ok (.value v') w' := by
  unfold execOp
  rw [hop]
  simp only [resolve, invoke, builtin, Sem.run_bind, Sem.run_pure, Result.andThen_ok, List.map_toArray, List.map_cons, List.map_nil, hxv, e1, hr]
 rw [h, Oper.upon_value]
 refine ⟨v', rfl, ?_⟩
 rw [hk]
 refine ⟨hb, hfr, ys, o1, fun b hb' => Or.inr hb', fun w'' e'' => h3 _ _ (hχ2 _ ((Ev.of_below hb).back (fun k hk' h' => ?_) e''))⟩
 rcases h' with h' | h'
 ·exact h'
 ·have := (hfr k h').1; omega

end

/-- A row that is grown no more becomes a plain value. -/
theorem Sta.freeze {w0 W : World} {n : Nat} {bx bx' : Bxs} {sl : List (Tmp × Pr)} {B : Nat → Prop} {a : Act} (S : Sta w0 n bx sl B a W) (k : Nat) {t e size n' : Nat} {χ : List Value → World → Prop} (h : bx[k]? = some (t, .row e size n' χ)) (hs : ∀ x ∈ bx', x ∈ bx ∧ x.1 ≠ t) {φ : Pr} (hφ : ∀ v w xs, w.ownsRow w0.heap.size e size v n' xs → χ xs w → φ v w) :
  Sta w0 n bx' ((t, φ) :: sl) (fun j => B j ∧ vblock (a.eval (.tmp t)) ≠ some j) a W := by
 have hm := List.mem_of_getElem? h
 obtain ⟨xs, hown, hB, hχ⟩ := S.box _ hm
 have sub : ∀ w', Ev (fun j => B j ∧ vblock (a.eval (.tmp t)) ≠ some j) W w' → Ev B W w' := fun w' e => ⟨e.os, e.tape, e.output, e.size, fun k hk hn => e.block k hk (fun h' => hn h'.1)⟩
 refine ⟨S.ent, fun k hk => S.bnd k hk.1, S.siz, S.dfr, fun x hx => ?_, fun x hx y hy => S.sep x (hs x hx).1 y (hs y hy).1, fun x hx => ?_⟩
 ·obtain ⟨hx1, hx2⟩ := hs x hx
  have hat := S.box x hx1
  have hin : ∀ b, x.2.set (a.eval (.tmp x.1)) b → B b ∧ vblock (a.eval (.tmp t)) ≠ some b := fun b hb => ⟨(Rk.inB hat hb).1, fun h' => hx2 (S.sep x hx1 _ hm b hb h')⟩
  obtain ⟨xt, xr⟩ := x
  cases xr with
  | own S0 e0 χ0 =>
   obtain ⟨C, h1, h2⟩ := hat
   exact ⟨C, fun b hb => ⟨hin b hb, (h1 b hb).2⟩, fun w' e => h2 w' (sub w' e)⟩
  | box T ψ =>
   obtain ⟨b, u, h1, h2, h3, h4⟩ := hat
   exact ⟨b, u, h1, hin b (by show vblock (a.eval (.tmp xt)) = _; rw [h1]; rfl), h3, fun w' e => h4 w' (sub w' e)⟩
  | row e' s' n'' χ' =>
   obtain ⟨ys, h1, h2, h3⟩ := hat
   exact ⟨ys, h1, hin, fun w' e => h3 w' (sub w' e)⟩
 ·rcases List.mem_cons.1 hx with rfl | hx
  ·intro w' ew
   refine hφ _ w' xs ⟨hown.1, ?_⟩ (hχ w' (sub w' ew))
   rcases hown.2 with h1 | ⟨g, cap, cur, e1, e2, e3, e4⟩
   ·exact Or.inl h1
   ·exact Or.inr ⟨g, cap, cur, e1, e2, (ew.block g (Array.getElem?_eq_some_iff.1 e3).1 (fun h' => h'.2 (by show vblock (a.eval (.tmp t)) = _; rw [e1]; rfl))).trans e3, e4⟩
  ·exact fun w' e => S.slt x hx w' (sub w' e)
end Go.Proofs.Ytoeopdmaogmjhaa

/-
 Where two ways of the code meet: what is known there, and what comes behind, proved once.
-/
namespace Go.Proofs.Ytoeopdmaogmjhaa
open Go Go.RowKit
set_option linter.unusedSimpArgs false
set_option linter.unusedVariables false
set_option maxRecDepth 20000
section
variable {P : Program} {Q : Exit → Act → World → Prop} {a : Act} {w : World}
end
section
variable {ops : Array Oper} {l : List Kd} {bx : Bxs} {sl : List (Tmp × Pr)} {i : Nat} {o : Oper} {Q : Exit → Act → World → Prop} {a0 : Act} {n : Nat} {w0 : World}
end
end Go.Proofs.Ytoeopdmaogmjhaa

/-
 nat.power, nat.Pow.
-/
namespace Go.Proofs.Ytoeopdmaogmjhaa
open Go.RowKit Nt
set_option linter.unusedSimpArgs false
set_option linter.unusedVariables false
set_option maxRecDepth 20000

theorem len_c (w : World) (x : Nat) (hx : x < 18446744073709551616) :
  Calls Try.prog 84 #[.int .u64 x] w fun e w' => e = .returned (.int .i64 (Go.bitLen x : Nat)) ∧ w' = w := by
 have := Try.bits_Len (x : Int) w (by omega) (by omega)
 rw [Int.toNat_natCast, lib_bitLen hx] at this
 exact this

end Go.Proofs.Ytoeopdmaogmjhaa

/-
 The calls of nat and zint, and of the laws, in the form that the logic of statements takes.
-/
namespace Go.Proofs.Ytoeopdmaogmjhaa
open Go Go.RowKit Nt
set_option linter.unusedSimpArgs false
set_option linter.unusedVariables false
set_option maxRecDepth 20000

theorem dl_mul {a b : Int} {k l : Nat} (ha : (digs a.natAbs).length ≤ k) (hb : (digs b.natAbs).length ≤ l) : (digs (a * b).natAbs).length ≤ k + l := by rw [Int.natAbs_mul]; exact digs_mul_len ha hb
theorem dl_add {a b : Int} {k : Nat} (ha : (digs a.natAbs).length ≤ k) (hb : (digs b.natAbs).length ≤ k) : (digs (a + b).natAbs).length ≤ k + 1 := Nat.le_trans (digs_length_mono (by omega)) (digs_add_len ha hb)
theorem dl_sub {a b : Int} {k : Nat} (ha : (digs a.natAbs).length ≤ k) (hb : (digs b.natAbs).length ≤ k) : (digs (a - b).natAbs).length ≤ k + 1 := Nat.le_trans (digs_length_mono (m := a.natAbs + b.natAbs) (by omega)) (digs_add_len ha hb)
theorem dl_small {a : Int} (h : a.natAbs < 4294967296) : (digs a.natAbs).length ≤ 1 := digs_length_le (by omega)
theorem sg_dl {s : Bool} {w : World} {p : Option Addr} {n c : Nat} {xs : List Nat} (h : Sl w p n c xs) : (digs (sg s (val xs)).natAbs).length ≤ n := by rw [sg_abs]; exact h.dl

/-- A number with these limbs, noughts at the end and all, in a new row. -/
def ZO (s : Bool) (n : Nat) (xs : List Nat) : Nat → Pr := fun lo v w => ∃ r c, v = .agg #[.bool s, .slice r n c] ∧ Sl w r n c xs ∧ ∀ b o, r = some ⟨b, o, none⟩ → lo ≤ b
theorem fresh_zo (s : Bool) (n : Nat) (xs : List Nat) : Fresh (ZO s n xs) :=
  ⟨fun lo lo' v w hl ⟨r, c, e, hs, hf⟩ => ⟨r, c, e, hs, fun b o h => Nat.le_trans hl (hf b o h)⟩,
   fun lo v w w' B hB ⟨r, c, e, hs, hf⟩ ev => ⟨r, c, e, sl_ev hs (fun b o e2 _ hb => by have := hB b hb; have := hf b o e2; omega) ev, hf⟩⟩
theorem zo_zv {s : Bool} {n : Nat} {xs : List Nat} {lo k : Nat} {A : Int} (hA : sg s (val xs) = A) (hk : n ≤ k) : ∀ v w, ZO s n xs lo v w → Zv A k v w := fun v w ⟨r, c, e, h, _⟩ => ⟨s, r, n, c, xs, e, h, hA, hk⟩
theorem shp_zo {s : Bool} {n : Nat} {xs : List Nat} {lo : Nat} : Shp 2 (ZO s n xs lo) := fun u w ⟨r, c, e, _⟩ => ⟨_, e, rfl, by simp [Value.oneCell']⟩

theorem res_nn {w w' : World} {r : Option Addr} {c m : Nat} (h : Res w w' r c m) : NN m w.heap.size (.slice r (digs m).length c) w' := ⟨r, c, rfl, h.sl, fun b o e => (h.own b o e).2.1⟩
theorem nm_zn {w : World} {b : Bool} {L : Nat} {D : List Nat} {z : Int} {r : Option Addr} {c lo : Nat} (h : Nm b L D z) (hs : Sl w r L c D) (hf : ∀ b o, r = some ⟨b, o, none⟩ → lo ≤ b) : ZN z lo (.agg #[.bool b, .slice r L c]) w := by
 obtain ⟨rfl, rfl, rfl⟩ := h
 exact ⟨r, c, rfl, hs, hf⟩

theorem g_add {x y ka kb : Nat} (hk : ka ≤ 70368744177663) (hk' : kb ≤ 70368744177663) : ∀ w u v, Nv x ka u w → Nv y kb v w → Calls Try.prog 41 #[u, v] w (Gives (NN (x + y)) w) := by
 rintro w u v ⟨p, n, c, xs, rfl, h, rfl, hn⟩ ⟨q, m, d, ys, rfl, h', rfl, hm⟩
 refine (add_c w p q n c m d xs ys h h' (by omega) (by omega)).mono ?_
 rintro e w' ⟨r, cr, rfl, R⟩
 exact ⟨_, rfl, R.below, res_nn R⟩
theorem g_cmp {x y ka kb : Nat} : ∀ w u v, Nv x ka u w → Nv y kb v w → Calls Try.prog 29 #[u, v] w (Gives (IS (.int .i64 (cmpN x y))) w) := by
 rintro w u v ⟨p, n, c, xs, rfl, h, rfl, hn⟩ ⟨q, m, d, ys, rfl, h', rfl, hm⟩
 refine (cmp_s w p q n c m d xs ys h h').mono ?_
 rintro e w' ⟨rfl, nq, rfl⟩
 exact ⟨_, rfl, below_drewN' (Below.refl _ _) nq, rfl⟩
theorem g_div {x y ka kb : Nat} (hy : y ≠ 0) (hk : ka + 1 ≤ 70368744177664) : ∀ w u v, Nv x ka u w → Nv y kb v w → Calls Try.prog 60 #[u, v] w (Gives (THREE (NN (x / y)) (NN (x % y)) (IS (.int .i64 0))) w) := by
 rintro w u v ⟨p, n, c, xs, rfl, h, rfl, hn⟩ ⟨q, m, d, ys, rfl, h', rfl, hm⟩
 refine (div_c w p q n c m d xs ys h h' hy (by omega)).mono ?_
 rintro e w' ⟨r, cr, s, cs, rfl, R1, R2, _⟩
 exact ⟨_, rfl, R1.below, _, _, _, rfl, res_nn R1, res_nn R2, rfl⟩
/-! zint. -/
theorem g_signed {s : Bool} {m lo : Nat} : Makes2 43 (Is (.bool s)) (NN m lo) (ZN (sg s m) lo) := by
 rintro w u v hu ⟨r, c, rfl, hs, hf⟩
 obtain rfl : u = _ := hu
 refine (signed_c w s r _ c (Nat.le_trans hs.cap hs.max)).mono ?_
 rintro e w' ⟨rfl, hb⟩
 refine ⟨_, rfl, hb, fun W _ h2 => ?_⟩
 obtain ⟨r', c', e', hs', hf'⟩ := h2
 simp only [Value.slice.injEq] at e'
 obtain ⟨rfl, _, rfl⟩ := e'
 exact ⟨r, c, by rw [← sg_ng, sg_abs], by rw [sg_abs]; exact hs', hf'⟩
theorem g_zof (n : Int) (h1 : -9223372036854775808 ≤ n) (h2 : n < 9223372036854775808) : ∀ w u, Is (.int .i64 n) u w → Calls Try.prog 12 #[u] w (Gives (ZN n) w) := fun w u e => by
 obtain rfl : u = _ := e
 refine (zof_c w n h1 h2).mono ?_
 rintro e w' ⟨r, cr, rfl, Z⟩
 exact za_gives Z
theorem g_zadd {A B : Int} {ka kb : Nat} (hk : ka ≤ 70368744177663) (hk' : kb ≤ 70368744177663) : ∀ w u v, Zv A ka u w → Zv B kb v w → Calls Try.prog 42 #[u, v] w (Gives (ZN (A + B)) w) := by
 rintro w u v ⟨s, p, n, c, xs, rfl, h, rfl, hn⟩ ⟨t, q, m, d, ys, rfl, h', rfl, hm⟩
 refine (zadd_c w s t p q n c m d xs ys h h' (by omega) (by omega)).mono ?_
 rintro e w' ⟨r, cr, rfl, Z⟩
 exact za_gives Z
theorem g_zsub {A B : Int} {ka kb : Nat} (hk : ka ≤ 70368744177663) (hk' : kb ≤ 70368744177663) : ∀ w u v, Zv A ka u w → Zv B kb v w → Calls Try.prog 39 #[u, v] w (Gives (ZN (A - B)) w) := by
 rintro w u v ⟨s, p, n, c, xs, rfl, h, rfl, hn⟩ ⟨t, q, m, d, ys, rfl, h', rfl, hm⟩
 refine (zsub_c w s t p q n c m d xs ys h h' (by omega) (by omega)).mono ?_
 rintro e w' ⟨r, cr, rfl, Z⟩
 exact za_gives Z
theorem g_zmul {A B : Int} {ka kb : Nat} (hk : ka + kb ≤ 70368744177664) : ∀ w u v, Zv A ka u w → Zv B kb v w → Calls Try.prog 25 #[u, v] w (Gives (ZN (A * B)) w) := by
 rintro w u v ⟨s, p, n, c, xs, rfl, h, rfl, hn⟩ ⟨t, q, m, d, ys, rfl, h', rfl, hm⟩
 refine (zmul_c w s t p q n c m d xs ys h h' (by omega)).mono ?_
 rintro e w' ⟨r, cr, rfl, Z⟩
 exact za_gives Z

/-! The laws'. -/
theorem g_own {s : Bool} {p : Option Addr} {n c : Nat} {xs : List Nat} (hc : c ≤ 35184372087808) : ∀ w u, Zx s p n c xs u w → Calls Try.prog 24 #[u] w (Gives (ZO s n xs) w) := by
 rintro w u ⟨rfl, h⟩
 refine (own_c w s p n c xs h hc).mono ?_
 rintro e w' ⟨gx, cr, rfl, C⟩
 exact ⟨_, rfl, C.below, _, cr, rfl, C.sl, fun b o e => by simp at e; rw [← e.1]; exact C.fresh⟩
theorem g_eq {z : Int} {lo lo' : Nat} : ∀ w u v, ZN z lo u w → ZN z lo' v w → Calls Try.prog 15 #[u, v] w (Gives (IS (.bool true)) w) := by
 rintro w u v ⟨r, c, rfl, h, _⟩ ⟨r', c', rfl, h', _⟩
 refine (eq_c w _ r r' _ c _ c' _ h h').mono ?_
 rintro e w' ⟨rfl, hb⟩
 exact ⟨_, rfl, hb, rfl⟩
end Go.Proofs.Ytoeopdmaogmjhaa
