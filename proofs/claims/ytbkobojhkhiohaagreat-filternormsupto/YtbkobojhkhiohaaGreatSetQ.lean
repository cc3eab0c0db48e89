import Derived.Test.YtbkobojhkhiohaaGreatSetO
import Derived.LoopN
import Derived.Laws.MakeOwn
import Derived.Test.YtbkobojhkhiohaaGreatSetI
import Derived.Test.YtbkobojhkhiohaaGreatSetP
set_option linter.all false
namespace Go.Proofs.YtbkobojhkhiohaaGreat
open Go Go.RowKit Nt
set_option maxRecDepth 20000
set_option maxHeartbeats 16000000
theorem thenN {next : Act → World → Prop} {Q : Exit → Act → World → Prop} {a : Act} {w : World} (h : next a w) : Exit.then next Q .normal a w := h
theorem thenR {next : Act → World → Prop} {Q : Exit → Act → World → Prop} {a : Act} {w : World} (h : Q .ret a w) : Exit.then next Q .ret a w := h
theorem yoe {P : Program} {ops : Array Oper} {Q : Exit → Act → World → Prop} {bx : Bxs} {sl : List (Tmp × Pr)} {n : Nat} {B0 : Nat → Prop} {a0 : Act} {W w0 : World} {id : Nat} {draw : Bool} {y : Code} (l : List Kd) (s1 s2 : List (Nat ⊕ Nat)) (hm : P.follows .mixedOrders = true) (T0 : Sta w0 n bx sl B0 a0 W) (hl : l.length = ops.size) (hc : (shapeOk ops l (bx.map (·.1)) n && pickOk ops l bx s1) = true)
  (hop : AllOwed (Owed P ops (Exit.then (y.wp P Q) Q) l bx sl a0 n w0) ops.size)
  (fin : ∀ B a w, Sta w0 n (pickBx ops l bx s1) (pickSl ops l sl s2) B a w → y.wp P Q a w) : (Code.seq (.region id ops draw) y).wp P Q a0 W :=
 wp_seq (yub l s1 s2 hm T0 hl hc hop fin)
theorem inBlkN {id : Nat} {Q : Exit → Act → World → Prop} {a : Act} {w : World} (h : Q .normal a w) : Exit.inBlock id Q .normal a w := h
theorem inBlkR {id : Nat} {Q : Exit → Act → World → Prop} {a : Act} {w : World} (h : Q .ret a w) : Exit.inBlock id Q .ret a w := h
theorem inBlkE {id : Nat} {Q : Exit → Act → World → Prop} {a : Act} {w : World} (h : Q .normal a w) : Exit.inBlock id Q (.exit id) a w := by simp only [Exit.inBlock, if_true]; exact h
theorem thenX {id : Nat} {next : Act → World → Prop} {Q : Exit → Act → World → Prop} {a : Act} {w : World} (h : Q (.exit id) a w) : Exit.then next Q (.exit id) a w := h
def resOf (r : ResultVar) (tmps : Array Value) : Sem Value := match r with
 | .tmp t => pure (tmps.getD t undef)
 | .cell a t => do loadVar t (← asAddr (tmps.getD a undef))
theorem yf2 (fn : Func) (tmps : Array Value) : results fn tmps = (do let vs ← fn.results.mapM (fun r => resOf r tmps); pure (if h : vs.size = 1 then vs[0] else .tuple vs)) := by
 unfold results
 congr 1
theorem yny {P : Program} {fn : Func} {tmps : Array Value} {W : World} {r : ResultVar} {v : Value} (hr : fn.results = #[r]) (h : (resOf r tmps).run P W = .ok v W) : (results fn tmps).run P W = .ok v W := by
 rw [yf2, hr]
 simp [Sem.run_bind, h]
theorem ynz {P : Program} {fn : Func} {tmps : Array Value} {W : World} {r r' : ResultVar} {v v' : Value} (hr : fn.results = #[r, r']) (h : (resOf r tmps).run P W = .ok v W) (h' : (resOf r' tmps).run P W = .ok v' W) : (results fn tmps).run P W = .ok (.tuple #[v, v']) W := by
 rw [yf2, hr]
 simp [Sem.run_bind, h, h']
theorem yk0 {P : Program} {fn : Func} {tmps : Array Value} {W : World} {r r' r'' : ResultVar} {v v' v'' : Value} (hr : fn.results = #[r, r', r'']) (h : (resOf r tmps).run P W = .ok v W) (h' : (resOf r' tmps).run P W = .ok v' W) (h'' : (resOf r'' tmps).run P W = .ok v'' W) : (results fn tmps).run P W = .ok (.tuple #[v, v', v'']) W := by
 rw [yf2, hr]
 simp [Sem.run_bind, h, h', h'']
theorem yaw {w0 W : World} {n : Nat} {bx : Bxs} {sl : List (Tmp × Pr)} {B : Nat → Prop} {a : Act} (S : Sta w0 n bx sl B a W) (k t : Nat) {φ : Pr} (h : sl[k]? = some (t, φ)) : ∃ v, (resOf (.tmp t) a.tmps).run Tryz.prog W = .ok v W ∧ φ v W := ⟨_, by simp only [resOf, Sem.run_pure], S.slot k t h⟩
theorem yau {w0 W : World} {n : Nat} {bx : Bxs} {sl : List (Tmp × Pr)} {B : Nat → Prop} {a : Act} (S : Sta w0 n bx sl B a W) (k t : Nat) {T m : Nat} {φ : Pr} (h : bx[k]? = some (t, .box T φ)) (hT : Strct T m) (hS : Shp m φ) : ∃ v, (resOf (.cell t T) a.tmps).run Tryz.prog W = .ok v W ∧ φ v W := by
 obtain ⟨b, u, hp, hu, hφ⟩ := S.content k t h
 obtain ⟨cs, rfl, hn, _⟩ := hS u W hφ
 obtain ⟨⟨d, hu', hd⟩, hi⟩ := hT
 refine ⟨.agg cs, ?_, hφ⟩
 have := run_loadVar_mid (P := Tryz.prog) W b 0 T cs.toList d (ypk hu) hu' hd (by rw [hi]; simp [hn])
 simp only [resOf, hp, Sem.run_bind]
 simp [asAddr, this]
theorem yav {w0 W : World} {n : Nat} {bx : Bxs} {sl : List (Tmp × Pr)} {B : Nat → Prop} {a : Act} {fn : Func} {r : ResultVar} {ψ : Nat → Pr} (S : Sta w0 n bx sl B a W) (hr : fn.results = #[r]) (h : ∃ v, (resOf r a.tmps).run Tryz.prog W = .ok v W ∧ ψ w0.heap.size v W) : bodyPost Tryz.prog fn (Gives ψ w0) .ret a W := by
 obtain ⟨v, h1, h2⟩ := h
 exact bodyPost_ret (yny hr h1) S.dfr ⟨v, rfl, S.ent, h2⟩
theorem ydc {w0 W : World} {n : Nat} {bx : Bxs} {sl : List (Tmp × Pr)} {B : Nat → Prop} {a : Act} {fn : Func} {r r' : ResultVar} {φ ψ : Nat → Pr} (S : Sta w0 n bx sl B a W) (hr : fn.results = #[r, r']) (h : ∃ v, (resOf r a.tmps).run Tryz.prog W = .ok v W ∧ φ w0.heap.size v W) (h' : ∃ v, (resOf r' a.tmps).run Tryz.prog W = .ok v W ∧ ψ w0.heap.size v W) : bodyPost Tryz.prog fn (Gives (TWO φ ψ) w0) .ret a W := by
 obtain ⟨v, h1, h2⟩ := h
 obtain ⟨v', h1', h2'⟩ := h'
 exact bodyPost_ret (ynz hr h1 h1') S.dfr ⟨_, rfl, S.ent, v, v', rfl, h2, h2'⟩
theorem yfb {w0 W : World} {n : Nat} {bx : Bxs} {sl : List (Tmp × Pr)} {B : Nat → Prop} {a : Act} {fn : Func} {r r' r'' : ResultVar} {φ ψ χ : Nat → Pr} (S : Sta w0 n bx sl B a W) (hr : fn.results = #[r, r', r'']) (h : ∃ v, (resOf r a.tmps).run Tryz.prog W = .ok v W ∧ φ w0.heap.size v W) (h' : ∃ v, (resOf r' a.tmps).run Tryz.prog W = .ok v W ∧ ψ w0.heap.size v W) (h'' : ∃ v, (resOf r'' a.tmps).run Tryz.prog W = .ok v W ∧ χ w0.heap.size v W) : bodyPost Tryz.prog fn (Gives (THREE φ ψ χ) w0) .ret a W := by
 obtain ⟨v, h1, h2⟩ := h
 obtain ⟨v', h1', h2'⟩ := h'
 obtain ⟨v'', h1'', h2''⟩ := h''
 exact bodyPost_ret (yk0 hr h1 h1' h1'') S.dfr ⟨_, rfl, S.ent, v, v', v'', rfl, h2, h2', h2''⟩
theorem yan {f : FuncId} {fn : Func} {c : Code} {args : Array Value} {w : World} {R : Ending → World → Prop} {n : Nat} {sl : List (Tmp × Pr)} (hf : Tryz.prog.funcs[f]? = some fn) (hb : fn.body = some c) (hn : fn.ntmps = n) (hs : args.size ≤ n)
  (h : ∀ x ∈ sl, ∃ v, args[x.1]? = some v ∧ Has (fun _ => False) w x.2 v) (k : ∀ a, Sta w n [] sl (fun _ => False) a w → c.wp Tryz.prog (bodyPost Tryz.prog fn R) a w) : Calls Tryz.prog f args w R := by
 refine calls_of_wp hf hb (k _ (yt0 ?_ rfl (fun x hx => ?_)))
 ·simp [hn]; omega
 ·obtain ⟨v, hv, hh⟩ := h x hx
  have hlt : x.1 < args.size := (zfi.1 hv).1
  have e : (Act.eval { tmps := args ++ Array.replicate (fn.ntmps - args.size) undef, defers := [] } (.tmp x.1)) = v := by
   simp only [Act.eval, Array.getD_eq_getD_getElem?, Array.getElem?_append_left hlt, hv, Option.getD_some]
  rw [e]
  exact hh
theorem yar {args : Array Value} {w : World} : ∀ x ∈ ([] : List (Tmp × Pr)), ∃ v, args[x.1]? = some v ∧ Has (fun _ => False) w x.2 v := fun _ h => nomatch h
theorem yad {args : Array Value} {w : World} {t : Tmp} {φ : Pr} {v : Value} {sl : List (Tmp × Pr)} (h : args[t]? = some v) (hv : Has (fun _ => False) w φ v) (r : ∀ x ∈ sl, ∃ v, args[x.1]? = some v ∧ Has (fun _ => False) w x.2 v) : ∀ x ∈ ((t, φ) :: sl), ∃ v, args[x.1]? = some v ∧ Has (fun _ => False) w x.2 v := fun x hx => by
 rcases zgy.1 hx with rfl | hx
 ·exact ⟨v, h, hv⟩
 ·exact r x hx
theorem follows : Tryz.prog.follows .mixedOrders = true := by kernel_rfl
theorem Gives.cast {φ ψ : Nat → Pr} {w : World} {f : FuncId} {args : Array Value} (h : CG f args w φ) (e : φ = ψ) : CG f args w ψ := e ▸ h
theorem yms (ρ : Operand → Value) (o : Oper) (x y : Operand) (w : World) (s t : Bool) (h1 : ρ x = .bool s) (h2 : ρ y = .bool t) : (execOp ρ { o with op := .binOp .neq 4 x y 4 }).run Tryz.prog w = .ok (.value (.bool (s != t))) w := by
 cases s <;> cases t <;> (unfold execOp; go_simp)
theorem ymr (ρ : Operand → Value) (o : Oper) (x y : Operand) (w : World) (s t : Bool) (h1 : ρ x = .bool s) (h2 : ρ y = .bool t) : (execOp ρ { o with op := .binOp .eql 4 x y 4 }).run Tryz.prog w = .ok (.value (.bool (s == t))) w := by
 cases s <;> cases t <;> (unfold execOp; go_simp)
theorem ylg (ρ : Operand → Value) (o : Oper) (x y : Operand) (w : World) (a b : Int) (h : a ≠ b) (h1 : ρ x = .int .i64 a) (h2 : ρ y = .int .i64 b) : (execOp ρ { o with op := .binOp .neq 3 x y 3 }).run Tryz.prog w = .ok (.value (.bool true)) w := by
 unfold execOp
 go_simp
theorem ylf (ρ : Operand → Value) (o : Oper) (x y : Operand) (w : World) (a b : Int) (h : a = b) (h1 : ρ x = .int .i64 a) (h2 : ρ y = .int .i64 b) : (execOp ρ { o with op := .binOp .neq 3 x y 3 }).run Tryz.prog w = .ok (.value (.bool false)) w := by
 unfold execOp
 go_simp
theorem yk5 (ρ : Operand → Value) (o : Oper) (x y : Operand) (w : World) (a b : Int) (h : a = b) (h1 : ρ x = .int .i64 a) (h2 : ρ y = .int .i64 b) : (execOp ρ { o with op := .binOp .eql 3 x y 3 }).run Tryz.prog w = .ok (.value (.bool true)) w := by
 unfold execOp
 go_simp
theorem yk4 (ρ : Operand → Value) (o : Oper) (x y : Operand) (w : World) (a b : Int) (h : a ≠ b) (h1 : ρ x = .int .i64 a) (h2 : ρ y = .int .i64 b) : (execOp ρ { o with op := .binOp .eql 3 x y 3 }).run Tryz.prog w = .ok (.value (.bool false)) w := by
 unfold execOp
 go_simp
theorem yle (ρ : Operand → Value) (o : Oper) (x y : Operand) (w : World) (a b : Int) (h : a < b) (h1 : ρ x = .int .i64 a) (h2 : ρ y = .int .i64 b) : (execOp ρ { o with op := .binOp .lss 3 x y 3 }).run Tryz.prog w = .ok (.value (.bool true)) w := by
 unfold execOp
 go_simp
theorem yld (ρ : Operand → Value) (o : Oper) (x y : Operand) (w : World) (a b : Int) (h : b ≤ a) (h1 : ρ x = .int .i64 a) (h2 : ρ y = .int .i64 b) : (execOp ρ { o with op := .binOp .lss 3 x y 3 }).run Tryz.prog w = .ok (.value (.bool false)) w := by
 unfold execOp
 go_simp
theorem ylc (ρ : Operand → Value) (o : Oper) (x y : Operand) (w : World) (a b : Int) (h : a ≤ b) (h1 : ρ x = .int .i64 a) (h2 : ρ y = .int .i64 b) : (execOp ρ { o with op := .binOp .leq 3 x y 3 }).run Tryz.prog w = .ok (.value (.bool true)) w := by
 unfold execOp
 go_simp
theorem ylb (ρ : Operand → Value) (o : Oper) (x y : Operand) (w : World) (a b : Int) (h : b < a) (h1 : ρ x = .int .i64 a) (h2 : ρ y = .int .i64 b) : (execOp ρ { o with op := .binOp .leq 3 x y 3 }).run Tryz.prog w = .ok (.value (.bool false)) w := by
 unfold execOp
 go_simp
theorem yla (ρ : Operand → Value) (o : Oper) (x y : Operand) (w : World) (a b : Int) (h : b < a) (h1 : ρ x = .int .i64 a) (h2 : ρ y = .int .i64 b) : (execOp ρ { o with op := .binOp .gtr 3 x y 3 }).run Tryz.prog w = .ok (.value (.bool true)) w := by
 unfold execOp
 go_simp
theorem yk9 (ρ : Operand → Value) (o : Oper) (x y : Operand) (w : World) (a b : Int) (h : a ≤ b) (h1 : ρ x = .int .i64 a) (h2 : ρ y = .int .i64 b) : (execOp ρ { o with op := .binOp .gtr 3 x y 3 }).run Tryz.prog w = .ok (.value (.bool false)) w := by
 unfold execOp
 go_simp
theorem yk7 (ρ : Operand → Value) (o : Oper) (x y : Operand) (w : World) (a b : Int) (h : b ≤ a) (h1 : ρ x = .int .i64 a) (h2 : ρ y = .int .i64 b) : (execOp ρ { o with op := .binOp .geq 3 x y 3 }).run Tryz.prog w = .ok (.value (.bool true)) w := by
 unfold execOp
 go_simp
theorem yk6 (ρ : Operand → Value) (o : Oper) (x y : Operand) (w : World) (a b : Int) (h : a < b) (h1 : ρ x = .int .i64 a) (h2 : ρ y = .int .i64 b) : (execOp ρ { o with op := .binOp .geq 3 x y 3 }).run Tryz.prog w = .ok (.value (.bool false)) w := by
 unfold execOp
 go_simp
theorem yi1 (ρ : Operand → Value) (o : Oper) (x y : Operand) (w : World) (a b : Int) (h : a ≠ b) (h1 : ρ x = .int .i64 a) (h2 : ρ y = .int .i64 b) : (execOp ρ { o with op := .binOp .neq 33 x y 33 }).run Tryz.prog w = .ok (.value (.bool true)) w := by
 unfold execOp
 go_simp
theorem yi0 (ρ : Operand → Value) (o : Oper) (x y : Operand) (w : World) (a b : Int) (h : a = b) (h1 : ρ x = .int .i64 a) (h2 : ρ y = .int .i64 b) : (execOp ρ { o with op := .binOp .neq 33 x y 33 }).run Tryz.prog w = .ok (.value (.bool false)) w := by
 unfold execOp
 go_simp
theorem yiz (ρ : Operand → Value) (o : Oper) (x y : Operand) (w : World) (a b : Int) (h : a = b) (h1 : ρ x = .int .i64 a) (h2 : ρ y = .int .i64 b) : (execOp ρ { o with op := .binOp .eql 33 x y 33 }).run Tryz.prog w = .ok (.value (.bool true)) w := by
 unfold execOp
 go_simp
theorem yiy (ρ : Operand → Value) (o : Oper) (x y : Operand) (w : World) (a b : Int) (h : a ≠ b) (h1 : ρ x = .int .i64 a) (h2 : ρ y = .int .i64 b) : (execOp ρ { o with op := .binOp .eql 33 x y 33 }).run Tryz.prog w = .ok (.value (.bool false)) w := by
 unfold execOp
 go_simp
theorem yzo (ρ : Operand → Value) (o : Oper) (x : Operand) (w : World) (s : Bool) (h1 : ρ x = .bool s) : (execOp ρ { o with op := .unOp .not 4 x }).run Tryz.prog w = .ok (.value (.bool (!s))) w := by
 unfold execOp
 go_simp
theorem yp5 (ρ : Operand → Value) (o : Oper) (w : World) : (execOp ρ { o with op := .build 29 #[] }).run Tryz.prog w = .ok (.value (.agg #[.bool false, .slice none 0 0])) w := by
 unfold execOp
 go_simp
theorem ybd {ops : Array Oper} {l : List Kd} {bx : Bxs} {sl : List (Tmp × Pr)} {i : Nat} {o : Oper} {Q : Exit → Act → World → Prop} {a0 : Act} {n : Nat} {w0 : World} (ho : ops[i]? = some o) (hw : Wants ops l bx sl i o) (hop : o.op = .build 29 #[]) (hk : kdAt l i = .val zI) : Owed Tryz.prog ops Q l bx sl a0 n w0 i :=
 ymg ho hw hk fun vs B a w c => by
  rw [← yp5 a.eval o w]
  unfold execOp
  rw [hop]
theorem ywu {m lo : Nat} : ∀ v w, NN m lo v w → ∃ p c, v = .slice p (digs m).length c := fun v w ⟨r, c, e, _⟩ => ⟨_, _, e⟩
theorem ym9 {x : Int} (h1 : -9223372036854775808 ≤ x) (h2 : x ≤ 9223372036854775807) : IntKind.i64.wrap x = x := by
 rw [IntKind.wrap_i64]
 omega
theorem yn0 (ρ : Operand → Value) (o : Oper) (x y : Operand) (w : World) (a b r : Int) (h : a + b = r ∧ -9223372036854775808 ≤ r ∧ r ≤ 9223372036854775807) (h1 : ρ x = .int .i64 a) (h2 : ρ y = .int .i64 b) : (execOp ρ { o with op := .binOp .add 3 x y 3 }).run Tryz.prog w = .ok (.value (.int .i64 r)) w := by
 obtain ⟨rfl, h3, h4⟩ := h
 have h5 : IntKind.i64.wrap (a + b) = a + b := ym9 h3 h4
 unfold execOp
 go_simp
theorem yn1 (ρ : Operand → Value) (o : Oper) (x y : Operand) (w : World) (a b r : Int) (h : a - b = r ∧ -9223372036854775808 ≤ r ∧ r ≤ 9223372036854775807) (h1 : ρ x = .int .i64 a) (h2 : ρ y = .int .i64 b) : (execOp ρ { o with op := .binOp .sub 3 x y 3 }).run Tryz.prog w = .ok (.value (.int .i64 r)) w := by
 obtain ⟨rfl, h3, h4⟩ := h
 have h5 : IntKind.i64.wrap (a - b) = a - b := ym9 h3 h4
 unfold execOp
 go_simp
theorem ya8 {P : Program} {Q : Exit → Act → World → Prop} {c : Code} {α : Type} (I : α → Act → World → Prop) (μ : α → Nat)
  (round : ∀ x a w, I x a w → c.wp P (Exit.then (fun a' w' => ∃ y, I y a' w' ∧ μ y < μ x) Q) a w) (x : α) {a : Act} {w : World} (h : I x a w) : (Code.loop c).wp P Q a w := by
 have key : ∀ n x a w, μ x < n → I x a w → Code.rounds P c Q n a w := by
  intro n
  induction n with
  | zero => intro x a w h; omega
  | succ n ih =>
   intro x a w hx hI
   refine wp_mono (round x a w hI) (fun e a' w' he => ?_)
   cases e with
   | normal =>
    obtain ⟨y, hy, hlt⟩ := he
    exact ih y a' w' (by omega) hy
   | _ => exact he
 exact wp_loop_rounds (μ x + 1) (key _ x a w (by omega) h)
def takeAt {α : Type} (l : List α) : List Nat → List α
 | [] => []
 | k :: r => (match l[k]? with | some x => [x] | none => []) ++ takeAt l r
theorem yep {α : Type} (l : List α) : ∀ (s : List Nat) (x : α), x ∈ takeAt l s → x ∈ l
 | [], _, h => by cases h
 | k :: r, x, h => by
  simp only [takeAt, zg8] at h
  rcases h with h | h
  ·split at h
   ·rename_i y e
    simp at h
    subst h
    exact zfc e
   ·cases h
  ·exact yep l r x h
theorem Sta.sub {w0 W : World} {n : Nat} {bx : Bxs} {sl : List (Tmp × Pr)} {B : Nat → Prop} {a : Act} (S : Sta w0 n bx sl B a W) (s1 s2 : List Nat) : Sta w0 n (takeAt bx s1) (takeAt sl s2) B a W :=
 ⟨S.ent, S.bnd, S.siz, S.dfr, fun x hx => S.box x (yep _ _ _ hx), fun x hx y hy => S.sep x (yep _ _ _ hx) y (yep _ _ _ hy), fun x hx => S.slt x (yep _ _ _ hx)⟩
theorem yki (n : Int) (h1 : -9223372036854775808 ≤ n) (h2 : n < 9223372036854775808) : ∀ w u, Is (.int .i64 n) u w → CG 25 #[u] w (ZN n) := fun w u e => by
 obtain rfl : u = _ := e
 refine (yxk w n h1 h2).mono ?_
 rintro e w' ⟨r, cr, rfl, Z⟩
 exact ycx Z
theorem yl8 {A B : Int} {ka kb : Nat} (hk : ka + kb ≤ 35184372088832) : ∀ w u v, Zv A ka u w → Zv B kb v w → CG 53 #[u, v] w (ZN (A * B)) := by
 rintro w u v ⟨s, p, n, c, xs, rfl, h, rfl, hn⟩ ⟨t, q, m, d, ys, rfl, h', rfl, hm⟩
 refine (yoh w s t p q n c m d xs ys h h' (by omega)).mono ?_
 rintro e w' ⟨r, cr, rfl, Z⟩
 exact ycx Z
theorem yie {A B : Int} {ka kb : Nat} (hk : ka ≤ 35184372088831) (hk' : kb ≤ 35184372088831) : ∀ w u v, Zv A ka u w → Zv B kb v w → CG 55 #[u, v] w (ZN (A + B)) := by
 rintro w u v ⟨s, p, n, c, xs, rfl, h, rfl, hn⟩ ⟨t, q, m, d, ys, rfl, h', rfl, hm⟩
 refine (yog w s t p q n c m d xs ys h h' (by omega) (by omega)).mono ?_
 rintro e w' ⟨r, cr, rfl, Z⟩
 exact ycx Z
theorem yo1 {A B : Int} {ka kb : Nat} (hk : ka ≤ 35184372088831) (hk' : kb ≤ 35184372088831) : ∀ w u v, Zv A ka u w → Zv B kb v w → CG 69 #[u, v] w (ZN (A - B)) := by
 rintro w u v ⟨s, p, n, c, xs, rfl, h, rfl, hn⟩ ⟨t, q, m, d, ys, rfl, h', rfl, hm⟩
 refine (yuj w s t p q n c m d xs ys h h' (by omega) (by omega)).mono ?_
 rintro e w' ⟨r, cr, rfl, Z⟩
 exact ycx Z
theorem za9 {A : Int} {ka : Nat} (hk : ka ≤ 35184372088832) : ∀ w u, Zv A ka u w → CG 59 #[u] w (ZN (-A)) := by
 rintro w u ⟨s, p, n, c, xs, rfl, h, rfl, hn⟩
 refine (yoi w s p n c xs h (by omega)).mono ?_
 rintro e w' ⟨r, cr, rfl, Z⟩
 exact ycx Z
theorem ydh {A : Int} {ka : Nat} (hk : ka ≤ 35184372088832) : ∀ w u, Zv A ka u w → CG 33 #[u] w (IS (.int .i64 A.sign)) := by
 rintro w u ⟨s, p, n, c, xs, rfl, h, rfl, hn⟩
 refine (yh5 w s p n c xs h (by omega)).mono ?_
 rintro e w' ⟨rfl, hb⟩
 exact ⟨_, rfl, hb, rfl⟩
theorem yrw {s : Bool} {m k : Nat} (hk : k ≤ 35184372088832) : ∀ w u v, Is (.bool s) u w → Nv m k v w → CG 52 #[u, v] w (ZN (sg s m)) := by
 rintro w u v hu ⟨p, n, c, xs, rfl, h, rfl, hn⟩
 obtain rfl : u = _ := hu
 refine (ygn w s p n c xs h (by omega)).mono ?_
 rintro e w' ⟨r, cr, rfl, Z⟩
 exact ycx Z
section
variable {ops : Array Oper} {l : List Kd} {bx : Bxs} {sl : List (Tmp × Pr)} {i : Nat} {o : Oper} {Q : Exit → Act → World → Prop} {a0 : Act} {n : Nat} {w0 : World}
theorem ya7 {a : Int} {b : Int} {x y : Operand} (hw : Wants ops l bx sl i o) (hx : Opnd ops l bx sl i x (Is (.int .i64 a))) (hy : Opnd ops l bx sl i y (Is (.int .i64 b))) (ho : ops[i]? = some o := by exact rfl) (hop : o.op = .binOp .lss 3 x y 3 := by exact rfl) (hk : kdAt l i = .val (Is (.bool true)) := by exact rfl) (h : a < b := by omega) : Owed Tryz.prog ops Q l bx sl a0 n w0 i := ycl ho hw hop hx hy hk (fun ρ w h1 h2 => yle ρ _ _ _ w _ _ h h1 h2)
theorem ybl {a : Int} {b : Int} {x y : Operand} (hw : Wants ops l bx sl i o) (hx : Opnd ops l bx sl i x (Is (.int .i64 a))) (hy : Opnd ops l bx sl i y (Is (.int .i64 b))) (ho : ops[i]? = some o := by exact rfl) (hop : o.op = .binOp .lss 3 x y 3 := by exact rfl) (hk : kdAt l i = .val (Is (.bool false)) := by exact rfl) (h : b ≤ a := by omega) : Owed Tryz.prog ops Q l bx sl a0 n w0 i := ycl ho hw hop hx hy hk (fun ρ w h1 h2 => yld ρ _ _ _ w _ _ h h1 h2)
theorem yes {a : Int} {b : Int} {x y : Operand} (hw : Wants ops l bx sl i o) (hx : Opnd ops l bx sl i x (Is (.int .i64 a))) (hy : Opnd ops l bx sl i y (Is (.int .i64 b))) (ho : ops[i]? = some o := by exact rfl) (hop : o.op = .binOp .leq 3 x y 3 := by exact rfl) (hk : kdAt l i = .val (Is (.bool true)) := by exact rfl) (h : a ≤ b := by omega) : Owed Tryz.prog ops Q l bx sl a0 n w0 i := ycl ho hw hop hx hy hk (fun ρ w h1 h2 => ylc ρ _ _ _ w _ _ h h1 h2)
theorem yd8 {a : Int} {b : Int} {x y : Operand} (hw : Wants ops l bx sl i o) (hx : Opnd ops l bx sl i x (Is (.int .i64 a))) (hy : Opnd ops l bx sl i y (Is (.int .i64 b))) (ho : ops[i]? = some o := by exact rfl) (hop : o.op = .binOp .leq 3 x y 3 := by exact rfl) (hk : kdAt l i = .val (Is (.bool false)) := by exact rfl) (h : b < a := by omega) : Owed Tryz.prog ops Q l bx sl a0 n w0 i := ycl ho hw hop hx hy hk (fun ρ w h1 h2 => ylb ρ _ _ _ w _ _ h h1 h2)
theorem ycy {a : Int} {b : Int} {x y : Operand} (hw : Wants ops l bx sl i o) (hx : Opnd ops l bx sl i x (Is (.int .i64 a))) (hy : Opnd ops l bx sl i y (Is (.int .i64 b))) (ho : ops[i]? = some o := by exact rfl) (hop : o.op = .binOp .gtr 3 x y 3 := by exact rfl) (hk : kdAt l i = .val (Is (.bool true)) := by exact rfl) (h : b < a := by omega) : Owed Tryz.prog ops Q l bx sl a0 n w0 i := ycl ho hw hop hx hy hk (fun ρ w h1 h2 => yla ρ _ _ _ w _ _ h h1 h2)
theorem ycr {a : Int} {b : Int} {x y : Operand} (hw : Wants ops l bx sl i o) (hx : Opnd ops l bx sl i x (Is (.int .i64 a))) (hy : Opnd ops l bx sl i y (Is (.int .i64 b))) (ho : ops[i]? = some o := by exact rfl) (hop : o.op = .binOp .gtr 3 x y 3 := by exact rfl) (hk : kdAt l i = .val (Is (.bool false)) := by exact rfl) (h : a ≤ b := by omega) : Owed Tryz.prog ops Q l bx sl a0 n w0 i := ycl ho hw hop hx hy hk (fun ρ w h1 h2 => yk9 ρ _ _ _ w _ _ h h1 h2)
theorem yne {a : Int} {b : Int} {x y : Operand} (hw : Wants ops l bx sl i o) (hx : Opnd ops l bx sl i x (Is (.int .i64 a))) (hy : Opnd ops l bx sl i y (Is (.int .i64 b))) (ho : ops[i]? = some o := by exact rfl) (hop : o.op = .binOp .geq 3 x y 3 := by exact rfl) (hk : kdAt l i = .val (Is (.bool true)) := by exact rfl) (h : b ≤ a := by omega) : Owed Tryz.prog ops Q l bx sl a0 n w0 i := ycl ho hw hop hx hy hk (fun ρ w h1 h2 => yk7 ρ _ _ _ w _ _ h h1 h2)
theorem yh7 {a : Int} {b : Int} {x y : Operand} (hw : Wants ops l bx sl i o) (hx : Opnd ops l bx sl i x (Is (.int .i64 a))) (hy : Opnd ops l bx sl i y (Is (.int .i64 b))) (ho : ops[i]? = some o := by exact rfl) (hop : o.op = .binOp .geq 3 x y 3 := by exact rfl) (hk : kdAt l i = .val (Is (.bool false)) := by exact rfl) (h : a < b := by omega) : Owed Tryz.prog ops Q l bx sl a0 n w0 i := ycl ho hw hop hx hy hk (fun ρ w h1 h2 => yk6 ρ _ _ _ w _ _ h h1 h2)
theorem ybm {a : Int} {b : Int} {x y : Operand} (hw : Wants ops l bx sl i o) (hx : Opnd ops l bx sl i x (Is (.int .i64 a))) (hy : Opnd ops l bx sl i y (Is (.int .i64 b))) (ho : ops[i]? = some o := by exact rfl) (hop : o.op = .binOp .eql 3 x y 3 := by exact rfl) (hk : kdAt l i = .val (Is (.bool true)) := by exact rfl) (h : a = b := by omega) : Owed Tryz.prog ops Q l bx sl a0 n w0 i := ycl ho hw hop hx hy hk (fun ρ w h1 h2 => yk5 ρ _ _ _ w _ _ h h1 h2)
theorem ybs {a : Int} {b : Int} {x y : Operand} (hw : Wants ops l bx sl i o) (hx : Opnd ops l bx sl i x (Is (.int .i64 a))) (hy : Opnd ops l bx sl i y (Is (.int .i64 b))) (ho : ops[i]? = some o := by exact rfl) (hop : o.op = .binOp .eql 3 x y 3 := by exact rfl) (hk : kdAt l i = .val (Is (.bool false)) := by exact rfl) (h : a ≠ b := by omega) : Owed Tryz.prog ops Q l bx sl a0 n w0 i := ycl ho hw hop hx hy hk (fun ρ w h1 h2 => yk4 ρ _ _ _ w _ _ h h1 h2)
theorem ybb {a : Int} {b : Int} {x y : Operand} (hw : Wants ops l bx sl i o) (hx : Opnd ops l bx sl i x (Is (.int .i64 a))) (hy : Opnd ops l bx sl i y (Is (.int .i64 b))) (ho : ops[i]? = some o := by exact rfl) (hop : o.op = .binOp .neq 3 x y 3 := by exact rfl) (hk : kdAt l i = .val (Is (.bool true)) := by exact rfl) (h : a ≠ b := by omega) : Owed Tryz.prog ops Q l bx sl a0 n w0 i := ycl ho hw hop hx hy hk (fun ρ w h1 h2 => ylg ρ _ _ _ w _ _ h h1 h2)
theorem ya0 {a : Int} {b : Int} {x y : Operand} (hw : Wants ops l bx sl i o) (hx : Opnd ops l bx sl i x (Is (.int .i64 a))) (hy : Opnd ops l bx sl i y (Is (.int .i64 b))) (ho : ops[i]? = some o := by exact rfl) (hop : o.op = .binOp .neq 3 x y 3 := by exact rfl) (hk : kdAt l i = .val (Is (.bool false)) := by exact rfl) (h : a = b := by omega) : Owed Tryz.prog ops Q l bx sl a0 n w0 i := ycl ho hw hop hx hy hk (fun ρ w h1 h2 => ylf ρ _ _ _ w _ _ h h1 h2)
theorem yj9 {a : Int} {b : Int} {x y : Operand} (hw : Wants ops l bx sl i o) (hx : Opnd ops l bx sl i x (Is (.int .i64 a))) (hy : Opnd ops l bx sl i y (Is (.int .i64 b))) (ho : ops[i]? = some o := by exact rfl) (hop : o.op = .binOp .eql 33 x y 33 := by exact rfl) (hk : kdAt l i = .val (Is (.bool true)) := by exact rfl) (h : a = b := by omega) : Owed Tryz.prog ops Q l bx sl a0 n w0 i := ycl ho hw hop hx hy hk (fun ρ w h1 h2 => yiz ρ _ _ _ w _ _ h h1 h2)
theorem yj8 {a : Int} {b : Int} {x y : Operand} (hw : Wants ops l bx sl i o) (hx : Opnd ops l bx sl i x (Is (.int .i64 a))) (hy : Opnd ops l bx sl i y (Is (.int .i64 b))) (ho : ops[i]? = some o := by exact rfl) (hop : o.op = .binOp .eql 33 x y 33 := by exact rfl) (hk : kdAt l i = .val (Is (.bool false)) := by exact rfl) (h : a ≠ b := by omega) : Owed Tryz.prog ops Q l bx sl a0 n w0 i := ycl ho hw hop hx hy hk (fun ρ w h1 h2 => yiy ρ _ _ _ w _ _ h h1 h2)
theorem yd0 {a : Int} {b : Int} {x y : Operand} (hw : Wants ops l bx sl i o) (hx : Opnd ops l bx sl i x (Is (.int .i64 a))) (hy : Opnd ops l bx sl i y (Is (.int .i64 b))) (ho : ops[i]? = some o := by exact rfl) (hop : o.op = .binOp .neq 33 x y 33 := by exact rfl) (hk : kdAt l i = .val (Is (.bool true)) := by exact rfl) (h : a ≠ b := by omega) : Owed Tryz.prog ops Q l bx sl a0 n w0 i := ycl ho hw hop hx hy hk (fun ρ w h1 h2 => yi1 ρ _ _ _ w _ _ h h1 h2)
theorem ycj {a : Int} {b : Int} {x y : Operand} (hw : Wants ops l bx sl i o) (hx : Opnd ops l bx sl i x (Is (.int .i64 a))) (hy : Opnd ops l bx sl i y (Is (.int .i64 b))) (ho : ops[i]? = some o := by exact rfl) (hop : o.op = .binOp .neq 33 x y 33 := by exact rfl) (hk : kdAt l i = .val (Is (.bool false)) := by exact rfl) (h : a = b := by omega) : Owed Tryz.prog ops Q l bx sl a0 n w0 i := ycl ho hw hop hx hy hk (fun ρ w h1 h2 => yi0 ρ _ _ _ w _ _ h h1 h2)
theorem yba {a : Int} {b : Int} {r : Int} {x y : Operand} (hw : Wants ops l bx sl i o) (hx : Opnd ops l bx sl i x (Is (.int .i64 a))) (hy : Opnd ops l bx sl i y (Is (.int .i64 b))) (ho : ops[i]? = some o := by exact rfl) (hop : o.op = .binOp .add 3 x y 3 := by exact rfl) (hk : kdAt l i = .val (Is (.int .i64 r)) := by exact rfl) (h : a + b = r ∧ -9223372036854775808 ≤ r ∧ r ≤ 9223372036854775807 := by exact ⟨by omega, by omega, by omega⟩) : Owed Tryz.prog ops Q l bx sl a0 n w0 i := ycl ho hw hop hx hy hk (fun ρ w h1 h2 => yn0 ρ _ _ _ w _ _ _ h h1 h2)
theorem yct {a : Int} {b : Int} {r : Int} {x y : Operand} (hw : Wants ops l bx sl i o) (hx : Opnd ops l bx sl i x (Is (.int .i64 a))) (hy : Opnd ops l bx sl i y (Is (.int .i64 b))) (ho : ops[i]? = some o := by exact rfl) (hop : o.op = .binOp .sub 3 x y 3 := by exact rfl) (hk : kdAt l i = .val (Is (.int .i64 r)) := by exact rfl) (h : a - b = r ∧ -9223372036854775808 ≤ r ∧ r ≤ 9223372036854775807 := by exact ⟨by omega, by omega, by omega⟩) : Owed Tryz.prog ops Q l bx sl a0 n w0 i := ycl ho hw hop hx hy hk (fun ρ w h1 h2 => yn1 ρ _ _ _ w _ _ _ h h1 h2)
theorem yft {s : Bool} {t : Bool} {x y : Operand} (hw : Wants ops l bx sl i o) (hx : Opnd ops l bx sl i x (Is (.bool s))) (hy : Opnd ops l bx sl i y (Is (.bool t))) (ho : ops[i]? = some o := by exact rfl) (hop : o.op = .binOp .neq 4 x y 4 := by exact rfl) (hk : kdAt l i = .val (Is (.bool (s != t))) := by exact rfl)  : Owed Tryz.prog ops Q l bx sl a0 n w0 i := ycl ho hw hop hx hy hk (fun ρ w h1 h2 => yms ρ _ _ _ w _ _ h1 h2)
theorem ydb {s : Bool} {x : Operand} (hw : Wants ops l bx sl i o) (hx : Opnd ops l bx sl i x (Is (.bool s))) (ho : ops[i]? = some o := by exact rfl) (hop : o.op = .unOp .not 4 x := by exact rfl) (hk : kdAt l i = .val (Is (.bool (!s))) := by exact rfl)  : Owed Tryz.prog ops Q l bx sl a0 n w0 i := zb7 (x := x) ho hw hop hx hk (fun ρ w h1 => yzo ρ _ _ w _ h1)
end
theorem wq {P : Program} {ops : Array Oper} {Q : Exit → Act → World → Prop} {bx : Bxs} {sl : List (Tmp × Pr)} {n : Nat} {B0 : Nat → Prop} {a0 : Act} {W w0 : World} {id : Nat} {draw : Bool} {y : Code} (l : List Kd) (s1 s2 : List (Nat ⊕ Nat)) (T0 : Sta w0 n bx sl B0 a0 W)
  (hop : AllOwed (Owed P ops (Exit.then (y.wp P Q) Q) l bx sl a0 n w0) ops.size)
  (fin : ∀ B a w, Sta w0 n (pickBx ops l bx s1) (pickSl ops l sl s2) B a w → y.wp P Q a w) (hm : P.follows .mixedOrders = true := by exact follows) (hl : l.length = ops.size := by exact rfl) (hc : (shapeOk ops l (bx.map (·.1)) n && pickOk ops l bx s1) = true := by kernel_rfl) : (Code.seq (.region id ops draw) y).wp P Q a0 W := yoe l s1 s2 hm T0 hl hc hop fin
theorem wr {P : Program} {ops : Array Oper} {Q : Exit → Act → World → Prop} {bx : Bxs} {sl : List (Tmp × Pr)} {n : Nat} {B0 : Nat → Prop} {a0 : Act} {W w0 : World} {id : Nat} {draw : Bool} (l : List Kd) (s1 s2 : List (Nat ⊕ Nat)) (T0 : Sta w0 n bx sl B0 a0 W)
  (hop : AllOwed (Owed P ops Q l bx sl a0 n w0) ops.size)
  (fin : ∀ B a w, Sta w0 n (pickBx ops l bx s1) (pickSl ops l sl s2) B a w → Q .normal a w) (hm : P.follows .mixedOrders = true := by exact follows) (hl : l.length = ops.size := by exact rfl) (hc : (shapeOk ops l (bx.map (·.1)) n && pickOk ops l bx s1) = true := by kernel_rfl) : (Code.region id ops draw).wp P Q a0 W := yub l s1 s2 hm T0 hl hc hop fin
structure EInf (e size bytes : Nat) : Prop where
 inf : ∃ (i : TypeInfo) (z : Value), Tryz.prog.info? e = some i ∧ i.zero = some z ∧ i.size = size ∧ i.bytes = bytes ∧ z.cells.size = size
 pos : 0 < size
theorem yhb (v : Value) (h : ∀ a, v ≠ .pointer (some a)) : vblock v = v.ownBlock := by
 cases v with
 | pointer a => cases a with | none => rfl | some a => exact absurd rfl (h a)
 | slice a n c => cases a <;> rfl
 | _ => rfl
theorem ye8 {w : World} {lo t ty e size bytes n m c : Nat} {v v' : Value} {w' : World} {xs news : List Value} {ad : Addr} (hE : EInf e size bytes) (ht : Tryz.prog.underlying t = some (.slice e)) (hown : w.ownsRow lo e size v n xs)
  (hl : news.length = m * size) (hnews : ∀ j u, news[j]? = some u → w.cell? (ad.add j) = some u) (h1 : ∀ u ∈ news, u.oneCell' = true) (h63 : n + m ≤ maxLen) (hbytes : (n + m) * bytes ≤ 140737488355328)
  (hr : (Builtin.append_ #[t, t] ty #[v, .slice (some ad) m c]).run Tryz.prog w = .ok v' w') (hown' : w'.ownsRow lo e size v' (n + m) (xs ++ news)) :
  ∀ b, vblock v' = some b → vblock v = some b ∨ (w.heap.size ≤ b ∧ b < w'.heap.size) := by
 obtain ⟨⟨i, z, hi, hz, hsz, hby, hzs⟩, hpos⟩ := hE
 subst hsz
 subst hby
 have hsmall : n + m ≤ 9223372036854775807 := by simp only [maxLen] at h63; omega
 intro b hb
 have hlt : b < w'.heap.size := by
  rcases hown'.2 with ⟨rfl, _⟩ | ⟨g, cap, cur, rfl, _, hg, _⟩
  ·simp [vblock] at hb
  ·simp [vblock] at hb; subst hb; exact (zfi.1 hg).1
 rcases hown.2 with ⟨rfl, rfl⟩ | ⟨g, cap, cur, rfl, hbg, hg, hnc, hcm, hcs, htake⟩
 ·by_cases hm : m = 0
  ·subst hm
   rcases hown'.2 with ⟨rfl, _⟩ | ⟨g', cap', cur', rfl, _⟩
   ·simp [vblock] at hb
   ·have : (Builtin.append_ #[t, t] ty #[.slice none 0 0, .slice (some ad) 0 c]).run Tryz.prog w = .ok (.slice none 0 0) w := by
     simp [Builtin.append_, run_underlying ht, sizeOf, typeInfo, hi, Builtin.lenOf, Builtin.firstCells, loadCells, loadCellsFrom]
    rw [this] at hr
    simp at hr
  ·have h2 := run_append_nil (P := Tryz.prog) w t ty e i z ht hi hz ad m c news hl hnews (by omega) (by omega) (by have hb := hbytes; simp only [zf7] at hb; omega)
   rw [h2] at hr
   simp only [Result.ok.injEq] at hr
   rw [← hr.1] at hb
   simp [vblock] at hb
   exact Or.inr ⟨by omega, hlt⟩
 ·by_cases hroom : n + m ≤ cap
  ·have hfit : n * i.size + news.length ≤ cur.size := by rw [hl, hcs, ← zfo]; exact zfj _ hroom
   have h2 := run_append_room (P := Tryz.prog) w t ty e i ht hi g n cap cur hg ad m c news hl hnews h1 hroom hfit
   rw [h2] at hr
   simp only [Result.ok.injEq] at hr
   rw [← hr.1] at hb
   exact Or.inl hb
  ·have h2 := run_append_grow (P := Tryz.prog) w t ty e i z ht hi hz ⟨g, 0, none⟩ n cap xs hown.1 (hown.cells (g := g) rfl) ad m c news hl hnews (by omega) (by omega) (growslice_fits (by omega) hbytes)
   rw [h2] at hr
   simp only [Result.ok.injEq] at hr
   rw [← hr.1] at hb
   simp [vblock] at hb
   exact Or.inr ⟨by omega, hlt⟩
def Src (e size m : Nat) (χ : List Value → World → Prop) : Pr := fun v w => ∃ (g c : Nat) (ys : List Value), v = .slice (some ⟨g, 0, none⟩) m c ∧ (ys.length = m * size ∧ m ≤ c ∧ c ≤ maxLen) ∧ w.heap[g]? = some (.cells ys.toArray e (0, 0)) ∧ (∀ u ∈ ys, u.oneCell' = true) ∧ χ ys w
theorem yn9 {B : Nat → Prop} {w : World} {e size m : Nat} {χ : List Value → World → Prop} {v : Value} (hm : 0 < m * size) (h : Has B w (Src e size m χ) v) :
  ∃ (g c : Nat) (ys : List Value), v = .slice (some ⟨g, 0, none⟩) m c ∧ (ys.length = m * size ∧ m ≤ c ∧ c ≤ maxLen) ∧ w.heap[g]? = some (.cells ys.toArray e (0, 0)) ∧ (∀ u ∈ ys, u.oneCell' = true) ∧ ∀ w', Ev B w w' → χ ys w' := by
 obtain ⟨g, c, ys, e1, e2, e3, e4, e5⟩ := h.now
 have hlt : g < w.heap.size := (zfi.1 e3).1
 have hnB : ¬ B g := fun hB => by
  have hev : Ev B w (w.setRow g #[]) := ⟨rfl, rfl, rfl, Nat.le_of_eq (ydp _ _ _).symm, fun k _ hn => setRow_other _ _ _ _ (fun e => hn (e ▸ hB))⟩
  obtain ⟨g', c', ys', f1, f2, f3, _⟩ := h _ hev
  rw [e1] at f1
  simp only [Value.slice.injEq, Option.some.injEq, Addr.mk.injEq] at f1
  obtain ⟨⟨rfl, _⟩, _⟩ := f1
  rw [setRow_heap w _ _ _ _ _ e3] at f3
  simp only [Option.some.injEq, Obj.cells.injEq] at f3
  have : ys' = [] := by
   have := congrArg Array.toList f3.1
   simpa using this.symm
  subst this
  have := f2.1
  simp at this
  omega
 refine ⟨g, c, ys, e1, e2, e3, e4, fun w' hw' => ?_⟩
 obtain ⟨g', c', ys', f1, f2, f3, _, f5⟩ := h w' hw'
 rw [e1] at f1
 simp only [Value.slice.injEq, Option.some.injEq, Addr.mk.injEq] at f1
 obtain ⟨⟨rfl, _⟩, _⟩ := f1
 rw [hw'.block g hlt hnB, e3] at f3
 simp only [Option.some.injEq, Obj.cells.injEq] at f3
 have : ys = ys' := by
  have := congrArg Array.toList f3.1
  simpa using this
 subst this
 exact f5
section
variable {ops : Array Oper} {l : List Kd} {bx : Bxs} {sl : List (Tmp × Pr)} {i : Nat} {o : Oper} {Q : Exit → Act → World → Prop} {a0 : Act} {n0 : Nat} {w0 : World}
theorem yia {w w' : World} {v : Value} (h : w.grownBy w' v.ownBlock) (hv : vblock v = v.ownBlock) : Chg (fun k => vblock v = some k) w w' :=
 ⟨h.os, h.tape, h.output, h.size, fun k hk hn => h.block k hk (fun e => hn (by rw [hv, ← e]))⟩
theorem yg4 {x y : Operand} {T t k e size bytes n m : Nat} {χ χ2 χ3 : List Value → World → Prop} (ho : ops[i]? = some o) (hw : Wants ops l bx sl i o) (hop : o.op = .call { callee := .builtin .append, args := #[x, y], argTypes := #[T, T] })
  (hx : Opnd ops l bx sl i x (Is (a0.eval (.tmp t)))) (hb : bx[k]? = some (t, .row e size n χ)) (hn : unturned ops l i (.inl t) = true) (hy : Opnd ops l bx sl i y (Src e size m χ2)) (hE : EInf e size bytes) (hT : Tryz.prog.underlying T = some (.slice e)) (hm : 0 < m * size)
  (hl : n + m ≤ maxLen ∧ (n + m) * bytes ≤ 140737488355328) (hk : kdAt l i = .mov t (.row e size (n + m) χ3)) (h3 : ∀ xs ys w, χ xs w → χ2 ys w → χ3 (xs ++ ys) w) : Owed Tryz.prog ops Q l bx sl a0 n0 w0 i := fun vs B a w c o' ho' => by
 obtain rfl : o = o' := Option.some.inj (ho.symm.trans ho')
 have hxv : a.eval x = a0.eval (.tmp t) := (hx a0 n0 w0 vs B a w c).now
 obtain ⟨xs, hown, hB, hχ⟩ := c.box t _ (zfc hb) hn
 obtain ⟨g, c', ys, e1, e2, e3, e4, hχ2⟩ := yn9 hm (hy a0 n0 w0 vs B a w c)
 have hnews : ∀ j u, ys[j]? = some u → w.cell? ((⟨g, 0, none⟩ : Addr).add j) = some u := fun j u hu => by
  rw [yb8]
  simp only [World.cell?, e3, zf7]
  simpa using hu
 have hlo : w0.heap.size ≤ w.heap.size := c.lo
 obtain ⟨⟨i0, z, hi, hz, hsz, hby, hzs⟩, hpos⟩ := id hE
 obtain ⟨v', w', hr, o1, o2, _⟩ := run_append_own (P := Tryz.prog) w w0.heap.size T o.type e i0 z size bytes hT hi hz hsz hby hzs hpos _ n xs hown ⟨g, 0, none⟩ m c' ys e2.1 hnews e4 hl.1 hl.2 hlo
 have hwh := ye8 hE hT hown e2.1 hnews e4 hl.1 hl.2 hr o1
 have hvb : vblock (a0.eval (.tmp t)) = (a0.eval (.tmp t)).ownBlock := yhb _ (fun ad ea => by
  rcases hown.2 with ⟨e', _⟩ | ⟨g', cap, cur, e', _⟩ <;> rw [e'] at ea <;> cases ea)
 have hc := yia o2 hvb
 simp only [wpOp, ho]
 rw [if_pos (hw a0 n0 w0 vs B a w c)]
 refine Or.inl ?_
 unfold Oper.wp
 have h : (execOp a.eval o).run Tryz.prog w = .ok (.value v') w' := by
  unfold execOp
  rw [hop]
  simp only [resolve, invoke, builtin, Sem.run_bind, Sem.run_pure, Result.andThen_ok, zik, zgz, zi0, hxv, e1, hr]
 rw [h, Oper.upon_value]
 refine ⟨v', rfl, ?_⟩
 rw [hk]
 have ev : Ev B w w' := ⟨hc.os, hc.tape, hc.output, hc.size, fun k hk' hn' => hc.block k hk' (fun hs => hn' (hB k hs))⟩
 have hsub : ∀ k, k < w.heap.size → (B k ∨ vblock v' = some k) → B k := fun k hk' h' => by
  rcases h' with h' | h'
  ·exact h'
  ·rcases hwh k h' with h'' | h''
   ·exact hB k h''
   ·omega
 exact ysn (zfc hb) rfl rfl hc hwh ⟨xs ++ ys, o1, fun b hb' => Or.inr hb', fun w'' e'' => h3 _ _ _ (hχ _ (ev.back hsub e'')) (hχ2 _ (ev.back hsub e''))⟩
end
theorem Sta.freeze {w0 W : World} {n : Nat} {bx bx' : Bxs} {sl : List (Tmp × Pr)} {B : Nat → Prop} {a : Act} (S : Sta w0 n bx sl B a W) (k : Nat) {t e size n' : Nat} {χ : List Value → World → Prop} (h : bx[k]? = some (t, .row e size n' χ)) (hs : ∀ x ∈ bx', x ∈ bx ∧ x.1 ≠ t) {φ : Pr} (hφ : ∀ v w xs, w.ownsRow w0.heap.size e size v n' xs → χ xs w → φ v w) :
  Sta w0 n bx' ((t, φ) :: sl) (fun j => B j ∧ vblock (a.eval (.tmp t)) ≠ some j) a W := by
 have hm := zfc h
 obtain ⟨xs, hown, hB, hχ⟩ := S.box _ hm
 have sub : ∀ w', Ev (fun j => B j ∧ vblock (a.eval (.tmp t)) ≠ some j) W w' → Ev B W w' := fun w' e => ⟨e.os, e.tape, e.output, e.size, fun k hk hn => e.block k hk (fun h' => hn h'.1)⟩
 refine ⟨S.ent, fun k hk => S.bnd k hk.1, S.siz, S.dfr, fun x hx => ?_, fun x hx y hy => S.sep x (hs x hx).1 y (hs y hy).1, fun x hx => ?_⟩
 ·obtain ⟨hx1, hx2⟩ := hs x hx
  have hat := S.box x hx1
  have hin : ∀ b, x.2.set (a.eval (.tmp x.1)) b → B b ∧ vblock (a.eval (.tmp t)) ≠ some b := fun b hb => ⟨(Rk.inB hat hb).1, fun h' => hx2 (S.sep x hx1 _ hm b hb h')⟩
  obtain ⟨xt, xr⟩ := x
  cases xr with
  | own S0 e0 χ0 =>
   obtain ⟨C, h1, h2⟩ := hat
   exact ⟨C, fun b hb => ⟨hin b hb, (h1 b hb).2⟩, fun w' e => h2 w' (sub w' e)⟩
  | box T ψ =>
   obtain ⟨b, u, h1, h2, h3, h4⟩ := hat
   exact ⟨b, u, h1, hin b (by show vblock (a.eval (.tmp xt)) = _; rw [h1]; rfl), h3, fun w' e => h4 w' (sub w' e)⟩
  | row e' s' n'' χ' =>
   obtain ⟨ys, h1, h2, h3⟩ := hat
   exact ⟨ys, h1, hin, fun w' e => h3 w' (sub w' e)⟩
 ·rcases zgy.1 hx with rfl | hx
  ·intro w' ew
   refine hφ _ w' xs ⟨hown.1, ?_⟩ (hχ w' (sub w' ew))
   rcases hown.2 with h1 | ⟨g, cap, cur, e1, e2, e3, e4⟩
   ·exact Or.inl h1
   ·exact Or.inr ⟨g, cap, cur, e1, e2, (ew.block g (zfi.1 e3).1 (fun h' => h'.2 (by show vblock (a.eval (.tmp t)) = _; rw [e1]; rfl))).trans e3, e4⟩
  ·exact fun w' e => S.slt x hx w' (sub w' e)
end Go.Proofs.YtbkobojhkhiohaaGreat

namespace Go.Proofs.YtbkobojhkhiohaaGreat
open Go Go.RowKit
set_option maxRecDepth 20000
set_option maxHeartbeats 16000000
section
variable {P : Program} {Q : Exit → Act → World → Prop} {a : Act} {w : World}
theorem ye4 {x y : Code} (I : Act → World → Prop) (h1 : ∀ a W, I a W → y.wp P Q a W) (h : x.wp P (Exit.then I Q) a w) : (Code.seq x y).wp P Q a w :=
 wp_seq (wp_mono h (fun e a w q => by cases e <;> first | exact h1 _ _ q | exact q))
theorem yv1 {x1 x2 x3 y : Code} (I : Act → World → Prop) (h1 : ∀ a W, I a W → y.wp P Q a W) (h : (∀ a W, I a W → y.wp P Q a W) → (Code.seq x1 (Code.seq x2 (Code.seq x3 y))).wp P Q a w) : (Code.seq x1 (Code.seq x2 (Code.seq x3 y))).wp P Q a w := h h1
end
section
variable {ops : Array Oper} {l : List Kd} {bx : Bxs} {sl : List (Tmp × Pr)} {i : Nat} {o : Oper} {Q : Exit → Act → World → Prop} {a0 : Act} {n : Nat} {w0 : World}
end
end Go.Proofs.YtbkobojhkhiohaaGreat

namespace Go.Proofs.YtbkobojhkhiohaaGreat
open Go.RowKit Nt
set_option maxRecDepth 20000
set_option maxHeartbeats 16000000
theorem zd8 (w : World) (x : Nat) (hx : x < 18446744073709551616) :
  Calls Tryz.prog 124 #[.int .u64 x] w fun e w' => e = .returned (.int .i64 (Go.bitLen x : Nat)) ∧ w' = w := by
 have := Tryz.bits_Len (x : Int) w (by omega) (by omega)
 rw [zh1, yg2 hx] at this
 exact this
end Go.Proofs.YtbkobojhkhiohaaGreat

namespace Go.Proofs.YtbkobojhkhiohaaGreat
open Go Go.RowKit Nt
set_option maxRecDepth 20000
set_option maxHeartbeats 16000000
theorem yco {a b : Int} {k l : Nat} (ha : (digs a.natAbs).length ≤ k) (hb : (digs b.natAbs).length ≤ l) : (digs (a * b).natAbs).length ≤ k + l := by rw [zft]; exact yam ha hb
theorem yf5 {a b : Int} {k : Nat} (ha : (digs a.natAbs).length ≤ k) (hb : (digs b.natAbs).length ≤ k) : (digs (a + b).natAbs).length ≤ k + 1 := ze6 (yae (by omega)) (yb5 ha hb)
theorem yjb {a b : Int} {k : Nat} (ha : (digs a.natAbs).length ≤ k) (hb : (digs b.natAbs).length ≤ k) : (digs (a - b).natAbs).length ≤ k + 1 := ze6 (yae (m := a.natAbs + b.natAbs) (by omega)) (yb5 ha hb)
theorem yke {a : Int} (h : a.natAbs < 4294967296) : (digs a.natAbs).length ≤ 1 := yay (by omega)
theorem ygv {s : Bool} {w : World} {p : Option Addr} {n c : Nat} {xs : List Nat} (h : Sl w p n c xs) : (digs (sg s (val xs)).natAbs).length ≤ n := by rw [sg_abs]; exact h.dl
def ZO (s : Bool) (n : Nat) (xs : List Nat) : Nat → Pr := fun lo v w => ∃ r c, v = .agg #[.bool s, .slice r n c] ∧ Sl w r n c xs ∧ ∀ b o, r = some ⟨b, o, none⟩ → lo ≤ b
theorem yex (s : Bool) (n : Nat) (xs : List Nat) : Fresh (ZO s n xs) :=
  ⟨fun lo lo' v w hl ⟨r, c, e, hs, hf⟩ => ⟨r, c, e, hs, fun b o h => ze6 hl (hf b o h)⟩,
   fun lo v w w' B hB ⟨r, c, e, hs, hf⟩ ev => ⟨r, c, e, yi3 hs (fun b o e2 _ hb => by have := hB b hb; have := hf b o e2; omega) ev, hf⟩⟩
theorem yz3 {s : Bool} {n : Nat} {xs : List Nat} {lo k : Nat} {A : Int} (hA : sg s (val xs) = A) (hk : n ≤ k) : ∀ v w, ZO s n xs lo v w → Zv A k v w := fun v w ⟨r, c, e, h, _⟩ => ⟨s, r, n, c, xs, e, h, hA, hk⟩
theorem ymz {s : Bool} {n : Nat} {xs : List Nat} {lo : Nat} : Shp 2 (ZO s n xs lo) := fun u w ⟨r, c, e, _⟩ => ⟨_, e, rfl, by simp [Value.oneCell']⟩
theorem yta {w w' : World} {r : Option Addr} {c m : Nat} (h : Res w w' r c m) : NN m w.heap.size (.slice r (digs m).length c) w' := ⟨r, c, rfl, h.sl, fun b o e => (h.own b o e).2.1⟩
theorem yv7 {w w' : World} {r : Option Addr} {c m : Nat} (h : Ans w w' r c m) : NN m w.heap.size (.slice r (digs m).length c) w' := ⟨r, c, rfl, h.sl, h.fresh⟩
theorem yql {w : World} {b : Bool} {L : Nat} {D : List Nat} {z : Int} {r : Option Addr} {c lo : Nat} (h : Nm b L D z) (hs : Sl w r L c D) (hf : ∀ b o, r = some ⟨b, o, none⟩ → lo ≤ b) : ZN z lo (.agg #[.bool b, .slice r L c]) w := by
 obtain ⟨rfl, rfl, rfl⟩ := h
 exact ⟨r, c, rfl, hs, hf⟩
theorem za7 {x y ka kb : Nat} (hy : y ≠ 0) (hk : ka + 1 ≤ 70368744177664) : ∀ w u v, Nv x ka u w → Nv y kb v w → CG 89 #[u, v] w (THREE (NN (x / y)) (NN (x % y)) (IS (.int .i64 0))) := by
 rintro w u v ⟨p, n, c, xs, rfl, h, rfl, hn⟩ ⟨q, m, d, ys, rfl, h', rfl, hm⟩
 refine (ynm w p q n c m d xs ys h h' hy (by omega)).mono ?_
 rintro e w' ⟨r, cr, s, cs, rfl, R1, R2, _⟩
 exact ⟨_, rfl, R1.below, _, _, _, rfl, yta R1, yta R2, rfl⟩
theorem yo2 {s : Bool} {m lo : Nat} : Makes2 77 (Is (.bool s)) (NN m lo) (ZN (sg s m) lo) := by
 rintro w u v hu ⟨r, c, rfl, hs, hf⟩
 obtain rfl : u = _ := hu
 refine (ycd w s r _ c (ze6 hs.cap hs.max)).mono ?_
 rintro e w' ⟨rfl, hb⟩
 refine ⟨_, rfl, hb, fun W _ h2 => ?_⟩
 obtain ⟨r', c', e', hs', hf'⟩ := h2
 simp only [Value.slice.injEq] at e'
 obtain ⟨rfl, _, rfl⟩ := e'
 exact ⟨r, c, by rw [← yn3, sg_abs], by rw [sg_abs]; exact hs', hf'⟩
theorem yr2 (n : Int) (h1 : -9223372036854775808 ≤ n) (h2 : n < 9223372036854775808) : ∀ w u, Is (.int .i64 n) u w → CG 43 #[u] w (ZN n) := fun w u e => by
 obtain rfl : u = _ := e
 refine (zdm w n h1 h2).mono ?_
 rintro e w' ⟨r, cr, rfl, Z⟩
 exact ycx Z
theorem yr0 {A B : Int} {ka kb : Nat} (hk : ka ≤ 70368744177663) (hk' : kb ≤ 70368744177663) : ∀ w u v, Zv A ka u w → Zv B kb v w → CG 63 #[u, v] w (ZN (A + B)) := by
 rintro w u v ⟨s, p, n, c, xs, rfl, h, rfl, hn⟩ ⟨t, q, m, d, ys, rfl, h', rfl, hm⟩
 refine (yxi w s t p q n c m d xs ys h h' (by omega) (by omega)).mono ?_
 rintro e w' ⟨r, cr, rfl, Z⟩
 exact ycx Z
theorem yo3 {A B : Int} {ka kb : Nat} (hk : ka ≤ 70368744177663) (hk' : kb ≤ 70368744177663) : ∀ w u v, Zv A ka u w → Zv B kb v w → CG 58 #[u, v] w (ZN (A - B)) := by
 rintro w u v ⟨s, p, n, c, xs, rfl, h, rfl, hn⟩ ⟨t, q, m, d, ys, rfl, h', rfl, hm⟩
 refine (yxl w s t p q n c m d xs ys h h' (by omega) (by omega)).mono ?_
 rintro e w' ⟨r, cr, rfl, Z⟩
 exact ycx Z
theorem yde {A B : Int} {ka kb : Nat} (hk : ka + kb ≤ 70368744177664) : ∀ w u v, Zv A ka u w → Zv B kb v w → CG 45 #[u, v] w (ZN (A * B)) := by
 rintro w u v ⟨s, p, n, c, xs, rfl, h, rfl, hn⟩ ⟨t, q, m, d, ys, rfl, h', rfl, hm⟩
 refine (zdj w s t p q n c m d xs ys h h' (by omega)).mono ?_
 rintro e w' ⟨r, cr, rfl, Z⟩
 exact ycx Z
theorem yrx {x y ka kb : Nat} (hy : y ≠ 0) (hk : ka + 1 ≤ 35184372088831) (hk' : kb + 1 ≤ 35184372088831) : ∀ w u v, Nv x ka u w → Nv y kb v w → CG 84 #[u, v] w (THREE (NN (x / y)) (NN (x % y)) (IS (.int .i64 0))) := by
 rintro w u v ⟨p, n, c, xs, rfl, h, rfl, hn⟩ ⟨q, m, d, ys, rfl, h', rfl, hm⟩
 refine (ypl w p q n c m d xs ys h h' hy (by omega) (by omega)).mono ?_
 rintro e w' ⟨r, cr, s, cs, rfl, A1, A2⟩
 exact ⟨_, rfl, A1.below, _, _, _, rfl, yv7 A1, yv7 A2, rfl⟩
theorem yyb {s : Bool} {p : Option Addr} {n c : Nat} {xs : List Nat} (hc : c ≤ 35184372087808) : ∀ w u, Zx s p n c xs u w → CG 23 #[u] w (ZO s n xs) := by
 rintro w u ⟨rfl, h⟩
 refine (zeh w s p n c xs h hc).mono ?_
 rintro e w' ⟨gx, cr, rfl, C⟩
 exact ⟨_, rfl, C.below, _, cr, rfl, C.sl, fun b o e => by simp at e; rw [← e.1]; exact C.fresh⟩
end Go.Proofs.YtbkobojhkhiohaaGreat
