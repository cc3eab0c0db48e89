import Derived.Test.YtdnindaohpdblaaGreatSetO
import Derived.LoopN
import Derived.Laws.MakeOwn
import Derived.Test.YtdnindaohpdblaaGreatSetI
import Derived.Test.YtdnindaohpdblaaGreatSetP
set_option linter.all false
namespace Go.Proofs.YtdnindaohpdblaaGreat
open Go Go.RowKit Nt
set_option maxRecDepth 20000
set_option maxHeartbeats 16000000
theorem thenN {next:Act->World->Prop}{Q:Exit->Act->World->Prop}{a:Act}{w:World}(h:next a w):Exit.then next Q .normal a w:=h
theorem thenR {next:Act->World->Prop}{Q:Exit->Act->World->Prop}{a:Act}{w:World}(h:Q .ret a w):Exit.then next Q .ret a w:=h
theorem yg7 {P:Program}{ops:Array Oper}{Q:Exit->Act->World->Prop}{bx:Bxs}{sl:List (Tmp × Pr)}{n:Nat}{B0:Nat->Prop}{a0:Act}{W w0:World}{id:Nat}{draw:Bool}{y:Code}(l:List Kd)(s1 s2:List (Nat ⊕ Nat))(hm:P.follows .mixedOrders=true)(T0:Sta w0 n bx sl B0 a0 W)(hl:l.length=ops.size)(hc:(shapeOk ops l (bx.map (·.1)) n && pickOk ops l bx s1)=true)
  (hop:AllOwed (Owed P ops (Exit.then (y.wp P Q) Q) l bx sl a0 n w0) ops.size)
  (fin:∀ B a w,Sta w0 n (pickBx ops l bx s1) (pickSl ops l sl s2) B a w->y.wp P Q a w):(Code.seq (.region id ops draw) y).wp P Q a0 W:=
 wp_seq (yvg l s1 s2 hm T0 hl hc hop fin)
theorem inBlkN {id:Nat}{Q:Exit->Act->World->Prop}{a:Act}{w:World}(h:Q .normal a w):Exit.inBlock id Q .normal a w:=h
theorem inBlkR {id:Nat}{Q:Exit->Act->World->Prop}{a:Act}{w:World}(h:Q .ret a w):Exit.inBlock id Q .ret a w:=h
theorem inBlkE {id:Nat}{Q:Exit->Act->World->Prop}{a:Act}{w:World}(h:Q .normal a w):Exit.inBlock id Q (.exit id) a w:=by simp only [Exit.inBlock,if_true]; exact h
theorem inBlkX {id id':Nat}{Q:Exit->Act->World->Prop}{a:Act}{w:World}(hn:id'≠id)(h:Q (.exit id') a w):Exit.inBlock id Q (.exit id') a w:=by simp only [Exit.inBlock,hn,if_false]; exact h
theorem thenX {id:Nat}{next:Act->World->Prop}{Q:Exit->Act->World->Prop}{a:Act}{w:World}(h:Q (.exit id) a w):Exit.then next Q (.exit id) a w:=h
def resOf (r:ResultVar)(tmps:Array Value):Sem Value:=match r with
 | .tmp t=>pure (tmps.getD t undef)
 | .cell a t=>do loadVar t (← asAddr (tmps.getD a undef))
theorem yh0 (fn:Func)(tmps:Array Value):results fn tmps=(do let vs ← fn.results.mapM (fun r=>resOf r tmps); pure (if h:vs.size=1 then vs[0] else .tuple vs)):=by
 unfold results
 congr 1
theorem yoj {P:Program}{fn:Func}{tmps:Array Value}{W:World}{r:ResultVar}{v:Value}(hr:fn.results=#[r])(h:(resOf r tmps).run P W=.ok v W):(results fn tmps).run P W=.ok v W:=by
 rw [yh0,hr]
 simp [Sem.run_bind,h]
theorem yok {P:Program}{fn:Func}{tmps:Array Value}{W:World}{r r':ResultVar}{v v':Value}(hr:fn.results=#[r,r'])(h:(resOf r tmps).run P W=.ok v W)(h':(resOf r' tmps).run P W=.ok v' W):(results fn tmps).run P W=.ok (.tuple #[v,v']) W:=by
 rw [yh0,hr]
 simp [Sem.run_bind,h,h']
theorem yln {P:Program}{fn:Func}{tmps:Array Value}{W:World}{r r' r'':ResultVar}{v v' v'':Value}(hr:fn.results=#[r,r',r''])(h:(resOf r tmps).run P W=.ok v W)(h':(resOf r' tmps).run P W=.ok v' W)(h'':(resOf r'' tmps).run P W=.ok v'' W):(results fn tmps).run P W=.ok (.tuple #[v,v',v'']) W:=by
 rw [yh0,hr]
 simp [Sem.run_bind,h,h',h'']
theorem yay {w0 W:World}{n:Nat}{bx:Bxs}{sl:List (Tmp × Pr)}{B:Nat->Prop}{a:Act}(S:Sta w0 n bx sl B a W)(k t:Nat){φ:Pr}(h:sl[k]? = some (t,φ)):∃ v,(resOf (.tmp t) a.tmps).run Tryz.prog W=.ok v W/\φ v W:=⟨_,by simp only [resOf,Sem.run_pure],S.slot k t h⟩
theorem ybb {w0 W:World}{n:Nat}{bx:Bxs}{sl:List (Tmp × Pr)}{B:Nat->Prop}{a:Act}(S:Sta w0 n bx sl B a W)(k t:Nat){T m:Nat}{φ:Pr}(h:bx[k]? = some (t,.box T φ))(hT:Strct T m)(hS:Shp m φ):∃ v,(resOf (.cell t T) a.tmps).run Tryz.prog W=.ok v W/\φ v W:=by
 obtain ⟨b,u,hp,hu,hφ⟩:=S.content k t h
 obtain ⟨cs,rfl,hn,_⟩:=hS u W hφ
 obtain ⟨⟨d,hu',hd⟩,hi⟩:=hT
 refine ⟨.agg cs,?_,hφ⟩
 have:=run_loadVar_mid (P:=Tryz.prog) W b 0 T cs.toList d (yp6 hu) hu' hd (by rw [hi]; simp [hn])
 simp only [resOf,hp,Sem.run_bind]
 simp [asAddr,this]
theorem yav {w0 W:World}{n:Nat}{bx:Bxs}{sl:List (Tmp × Pr)}{B:Nat->Prop}{a:Act}{fn:Func}{r:ResultVar}{ψ:Nat->Pr}(S:Sta w0 n bx sl B a W)(hr:fn.results=#[r])(h:∃ v,(resOf r a.tmps).run Tryz.prog W=.ok v W/\ψ w0.heap.size v W):bodyPost Tryz.prog fn (Gives ψ w0) .ret a W:=by
 obtain ⟨v,h1,h2⟩:=h
 exact bodyPost_ret (yoj hr h1) S.dfr ⟨v,rfl,S.ent,h2⟩
theorem ydi {w0 W:World}{n:Nat}{bx:Bxs}{sl:List (Tmp × Pr)}{B:Nat->Prop}{a:Act}{fn:Func}{r r':ResultVar}{φ ψ:Nat->Pr}(S:Sta w0 n bx sl B a W)(hr:fn.results=#[r,r'])(h:∃ v,(resOf r a.tmps).run Tryz.prog W=.ok v W/\φ w0.heap.size v W)(h':∃ v,(resOf r' a.tmps).run Tryz.prog W=.ok v W/\ψ w0.heap.size v W):bodyPost Tryz.prog fn (Gives (TWO φ ψ) w0) .ret a W:=by
 obtain ⟨v,h1,h2⟩:=h
 obtain ⟨v',h1',h2'⟩:=h'
 exact bodyPost_ret (yok hr h1 h1') S.dfr ⟨_,rfl,S.ent,v,v',rfl,h2,h2'⟩
theorem ymo {w0 W:World}{n:Nat}{bx:Bxs}{sl:List (Tmp × Pr)}{B:Nat->Prop}{a:Act}{fn:Func}{r r' r'':ResultVar}{φ ψ χ:Nat->Pr}(S:Sta w0 n bx sl B a W)(hr:fn.results=#[r,r',r''])(h:∃ v,(resOf r a.tmps).run Tryz.prog W=.ok v W/\φ w0.heap.size v W)(h':∃ v,(resOf r' a.tmps).run Tryz.prog W=.ok v W/\ψ w0.heap.size v W)(h'':∃ v,(resOf r'' a.tmps).run Tryz.prog W=.ok v W/\χ w0.heap.size v W):bodyPost Tryz.prog fn (Gives (THREE φ ψ χ) w0) .ret a W:=by
 obtain ⟨v,h1,h2⟩:=h
 obtain ⟨v',h1',h2'⟩:=h'
 obtain ⟨v'',h1'',h2''⟩:=h''
 exact bodyPost_ret (yln hr h1 h1' h1'') S.dfr ⟨_,rfl,S.ent,v,v',v'',rfl,h2,h2',h2''⟩
theorem yak {f:FuncId}{fn:Func}{c:Code}{args:Array Value}{w:World}{R:Ending->World->Prop}{n:Nat}{sl:List (Tmp × Pr)}(hf:Tryz.prog.funcs[f]? = some fn)(hb:fn.body=some c)(hn:fn.ntmps=n)(hs:args.size<=n)
  (h:∀ x ∈ sl,∃ v,args[x.1]? = some v/\Has (fun _=>False) w x.2 v) (k:∀ a,Sta w n [] sl (fun _=>False) a w->c.wp Tryz.prog (bodyPost Tryz.prog fn R) a w):Calls Tryz.prog f args w R:=by
 refine calls_of_wp hf hb (k _ (ydr ?_ rfl (fun x hx=>?_)))
 ·simp [hn]; omega
 ·obtain ⟨v,hv,hh⟩:=h x hx
  have hlt:x.1 < args.size:=(zhf.1 hv).1
  have e:(Act.eval { tmps:=args ++ Array.replicate (fn.ntmps-args.size) undef,defers:=[] } (.tmp x.1))=v:=by
   simp only [Act.eval,zkr,Array.getElem?_append_left hlt,hv,Option.getD_some]
  rw [e]
  exact hh
theorem yao {args:Array Value}{w:World}:∀ x ∈ ([]:List (Tmp × Pr)),∃ v,args[x.1]? = some v/\Has (fun _=>False) w x.2 v:=fun _ h=>nomatch h
theorem yae {args:Array Value}{w:World}{t:Tmp}{φ:Pr}{v:Value}{sl:List (Tmp × Pr)}(h:args[t]? = some v)(hv:Has (fun _=>False) w φ v)(r:∀ x ∈ sl,∃ v,args[x.1]? = some v/\Has (fun _=>False) w x.2 v):∀ x ∈ ((t,φ) :: sl),∃ v,args[x.1]? = some v/\Has (fun _=>False) w x.2 v:=fun x hx=>by
 rcases zj3.1 hx with rfl | hx
 ·exact ⟨v,h,hv⟩
 ·exact r x hx
theorem follows:Tryz.prog.follows .mixedOrders=true:=by kernel_rfl
theorem Gives.cast {φ ψ:Nat->Pr}{w:World}{f:FuncId}{args:Array Value}(h:CG f args w φ)(e:φ=ψ):CG f args w ψ:=e ▸ h
theorem yef (ρ:Operand->Value)(o:Oper)(x y:Operand)(w:World)(s t:Bool)(h1:ρ x=.bool s)(h2:ρ y=.bool t):(execOp ρ { o with op:=.binOp .neq 4 x y 4 }).run Tryz.prog w=.ok (.value (.bool (s != t))) w:=by
 cases s <;> cases t <;> (unfold execOp; go_simp)
theorem ye1 (ρ:Operand->Value)(o:Oper)(x y:Operand)(w:World)(s t:Bool)(h1:ρ x=.bool s)(h2:ρ y=.bool t):(execOp ρ { o with op:=.binOp .eql 4 x y 4 }).run Tryz.prog w=.ok (.value (.bool (s == t))) w:=by
 cases s <;> cases t <;> (unfold execOp; go_simp)
theorem yl3 (ρ:Operand->Value)(o:Oper)(x y:Operand)(w:World)(a b:Int)(h:a≠b)(h1:ρ x=.int .i64 a)(h2:ρ y=.int .i64 b):(execOp ρ { o with op:=.binOp .neq 3 x y 3 }).run Tryz.prog w=.ok (.value (.bool true)) w:=by
 unfold execOp
 go_simp
theorem yl2 (ρ:Operand->Value)(o:Oper)(x y:Operand)(w:World)(a b:Int)(h:a=b)(h1:ρ x=.int .i64 a)(h2:ρ y=.int .i64 b):(execOp ρ { o with op:=.binOp .neq 3 x y 3 }).run Tryz.prog w=.ok (.value (.bool false)) w:=by
 unfold execOp
 go_simp
theorem yls (ρ:Operand->Value)(o:Oper)(x y:Operand)(w:World)(a b:Int)(h:a=b)(h1:ρ x=.int .i64 a)(h2:ρ y=.int .i64 b):(execOp ρ { o with op:=.binOp .eql 3 x y 3 }).run Tryz.prog w=.ok (.value (.bool true)) w:=by
 unfold execOp
 go_simp
theorem ylr (ρ:Operand->Value)(o:Oper)(x y:Operand)(w:World)(a b:Int)(h:a≠b)(h1:ρ x=.int .i64 a)(h2:ρ y=.int .i64 b):(execOp ρ { o with op:=.binOp .eql 3 x y 3 }).run Tryz.prog w=.ok (.value (.bool false)) w:=by
 unfold execOp
 go_simp
theorem yl1 (ρ:Operand->Value)(o:Oper)(x y:Operand)(w:World)(a b:Int)(h:a < b)(h1:ρ x=.int .i64 a)(h2:ρ y=.int .i64 b):(execOp ρ { o with op:=.binOp .lss 3 x y 3 }).run Tryz.prog w=.ok (.value (.bool true)) w:=by
 unfold execOp
 go_simp
theorem yl0 (ρ:Operand->Value)(o:Oper)(x y:Operand)(w:World)(a b:Int)(h:b<=a)(h1:ρ x=.int .i64 a)(h2:ρ y=.int .i64 b):(execOp ρ { o with op:=.binOp .lss 3 x y 3 }).run Tryz.prog w=.ok (.value (.bool false)) w:=by
 unfold execOp
 go_simp
theorem ylz (ρ:Operand->Value)(o:Oper)(x y:Operand)(w:World)(a b:Int)(h:a<=b)(h1:ρ x=.int .i64 a)(h2:ρ y=.int .i64 b):(execOp ρ { o with op:=.binOp .leq 3 x y 3 }).run Tryz.prog w=.ok (.value (.bool true)) w:=by
 unfold execOp
 go_simp
theorem yly (ρ:Operand->Value)(o:Oper)(x y:Operand)(w:World)(a b:Int)(h:b < a)(h1:ρ x=.int .i64 a)(h2:ρ y=.int .i64 b):(execOp ρ { o with op:=.binOp .leq 3 x y 3 }).run Tryz.prog w=.ok (.value (.bool false)) w:=by
 unfold execOp
 go_simp
theorem ylx (ρ:Operand->Value)(o:Oper)(x y:Operand)(w:World)(a b:Int)(h:b < a)(h1:ρ x=.int .i64 a)(h2:ρ y=.int .i64 b):(execOp ρ { o with op:=.binOp .gtr 3 x y 3 }).run Tryz.prog w=.ok (.value (.bool true)) w:=by
 unfold execOp
 go_simp
theorem ylw (ρ:Operand->Value)(o:Oper)(x y:Operand)(w:World)(a b:Int)(h:a<=b)(h1:ρ x=.int .i64 a)(h2:ρ y=.int .i64 b):(execOp ρ { o with op:=.binOp .gtr 3 x y 3 }).run Tryz.prog w=.ok (.value (.bool false)) w:=by
 unfold execOp
 go_simp
theorem ylu (ρ:Operand->Value)(o:Oper)(x y:Operand)(w:World)(a b:Int)(h:b<=a)(h1:ρ x=.int .i64 a)(h2:ρ y=.int .i64 b):(execOp ρ { o with op:=.binOp .geq 3 x y 3 }).run Tryz.prog w=.ok (.value (.bool true)) w:=by
 unfold execOp
 go_simp
theorem ylt (ρ:Operand->Value)(o:Oper)(x y:Operand)(w:World)(a b:Int)(h:a < b)(h1:ρ x=.int .i64 a)(h2:ρ y=.int .i64 b):(execOp ρ { o with op:=.binOp .geq 3 x y 3 }).run Tryz.prog w=.ok (.value (.bool false)) w:=by
 unfold execOp
 go_simp
theorem yjr (ρ:Operand->Value)(o:Oper)(x y:Operand)(w:World)(a b:Int)(h:a≠b)(h1:ρ x=.int .i64 a)(h2:ρ y=.int .i64 b):(execOp ρ { o with op:=.binOp .neq 27 x y 27 }).run Tryz.prog w=.ok (.value (.bool true)) w:=by
 unfold execOp
 go_simp
theorem yjq (ρ:Operand->Value)(o:Oper)(x y:Operand)(w:World)(a b:Int)(h:a=b)(h1:ρ x=.int .i64 a)(h2:ρ y=.int .i64 b):(execOp ρ { o with op:=.binOp .neq 27 x y 27 }).run Tryz.prog w=.ok (.value (.bool false)) w:=by
 unfold execOp
 go_simp
theorem yjp (ρ:Operand->Value)(o:Oper)(x y:Operand)(w:World)(a b:Int)(h:a=b)(h1:ρ x=.int .i64 a)(h2:ρ y=.int .i64 b):(execOp ρ { o with op:=.binOp .eql 27 x y 27 }).run Tryz.prog w=.ok (.value (.bool true)) w:=by
 unfold execOp
 go_simp
theorem yjo (ρ:Operand->Value)(o:Oper)(x y:Operand)(w:World)(a b:Int)(h:a≠b)(h1:ρ x=.int .i64 a)(h2:ρ y=.int .i64 b):(execOp ρ { o with op:=.binOp .eql 27 x y 27 }).run Tryz.prog w=.ok (.value (.bool false)) w:=by
 unfold execOp
 go_simp
theorem yuv (ρ:Operand->Value)(o:Oper)(x:Operand)(w:World)(s:Bool)(h1:ρ x=.bool s):(execOp ρ { o with op:=.unOp .not 4 x }).run Tryz.prog w=.ok (.value (.bool (!s))) w:=by
 unfold execOp
 go_simp
theorem yqt (ρ:Operand->Value)(o:Oper)(w:World):(execOp ρ { o with op:=.build 24 #[] }).run Tryz.prog w=.ok (.value (.agg #[.bool false,.slice none 0 0])) w:=by
 unfold execOp
 go_simp
theorem yde {ops:Array Oper}{l:List Kd}{bx:Bxs}{sl:List (Tmp × Pr)}{i:Nat}{o:Oper}{Q:Exit->Act->World->Prop}{a0:Act}{n:Nat}{w0:World}(ho:ops[i]? = some o)(hw:Wants ops l bx sl i o)(hop:o.op=.build 24 #[])(hk:kdAt l i=.val zI):Owed Tryz.prog ops Q l bx sl a0 n w0 i:=
 ym5 ho hw hk fun vs B a w c=>by
  rw [← yqt a.eval o w]
  unfold execOp
  rw [hop]
theorem yyi {m lo:Nat}:∀ v w,NN m lo v w->∃ p c,v=.slice p (digs m).length c:=fun v w ⟨r,c,e,_⟩=>⟨_,_,e⟩
theorem yjx {x:Int}(h1:-9223372036854775808<=x)(h2:x<=9223372036854775807):IntKind.i64.wrap x=x:=by
 rw [IntKind.wrap_i64]
 omega
theorem yol (ρ:Operand->Value)(o:Oper)(x y:Operand)(w:World)(a b r:Int)(h:a+b=r/\-9223372036854775808<=r/\r<=9223372036854775807)(h1:ρ x=.int .i64 a)(h2:ρ y=.int .i64 b):(execOp ρ { o with op:=.binOp .add 3 x y 3 }).run Tryz.prog w=.ok (.value (.int .i64 r)) w:=by
 obtain ⟨rfl,h3,h4⟩:=h
 have h5:IntKind.i64.wrap (a+b)=a+b:=yjx h3 h4
 unfold execOp
 go_simp
theorem yom (ρ:Operand->Value)(o:Oper)(x y:Operand)(w:World)(a b r:Int)(h:a-b=r/\-9223372036854775808<=r/\r<=9223372036854775807)(h1:ρ x=.int .i64 a)(h2:ρ y=.int .i64 b):(execOp ρ { o with op:=.binOp .sub 3 x y 3 }).run Tryz.prog w=.ok (.value (.int .i64 r)) w:=by
 obtain ⟨rfl,h3,h4⟩:=h
 have h5:IntKind.i64.wrap (a-b)=a-b:=yjx h3 h4
 unfold execOp
 go_simp
theorem yfx (ρ:Operand->Value)(o:Oper)(x y:Operand)(w:World)(a b r:Int)(h:a / b=r/\0<=a/\0 < b/\a<=9223372036854775807)(h1:ρ x=.int .i64 a)(h2:ρ y=.int .i64 b):(execOp ρ { o with op:=.binOp .quo 3 x y 3 }).run Tryz.prog w=.ok (.value (.int .i64 r)) w:=by
 obtain ⟨rfl,h3,h4,h5⟩:=h
 have h6:0<=a / b:=Int.ediv_nonneg h3 (by omega)
 have h7:a / b<=a:=Int.ediv_le_self b h3
 have h8:b≠0:=by omega
 have h9:a.tdiv b=a / b:=Int.tdiv_eq_ediv_of_nonneg h3
 have h10:IntKind.i64.wrap (a / b)=a / b:=yjx (by omega) (by omega)
 unfold execOp
 go_simp
theorem ydp (ρ:Operand->Value)(o:Oper)(x y:Operand)(w:World)(a b r:Int)(h:a % b=r/\0<=a/\0 < b/\b<=9223372036854775807)(h1:ρ x=.int .i64 a)(h2:ρ y=.int .i64 b):(execOp ρ { o with op:=.binOp .rem 3 x y 3 }).run Tryz.prog w=.ok (.value (.int .i64 r)) w:=by
 obtain ⟨rfl,h3,h4,h5⟩:=h
 have h6:=zk1 a (by omega:b≠0)
 have h7:=zkn a h4
 have h8:b≠0:=by omega
 have h9:a.tmod b=a % b:=Int.tmod_eq_emod_of_nonneg h3
 unfold execOp
 go_simp
theorem ybi {P:Program}{Q:Exit->Act->World->Prop}{c:Code}{α:Type}(I:α->Act->World->Prop)(μ:α->Nat)
  (round:∀ x a w,I x a w->c.wp P (Exit.then (fun a' w'=>∃ y,I y a' w'/\μ y < μ x) Q) a w) (x:α) {a:Act} {w:World} (h:I x a w):(Code.loop c).wp P Q a w:=by
 have key:∀ n x a w,μ x < n->I x a w->Code.rounds P c Q n a w:=by
  intro n
  induction n with
  | zero=>intro x a w h; omega
  | succ n ih =>
   intro x a w hx hI
   refine wp_mono (round x a w hI) (fun e a' w' he=>?_)
   cases e with
   | normal =>
    obtain ⟨y,hy,hlt⟩:=he
    exact ih y a' w' (by omega) hy
   | _=>exact he
 exact wp_loop_rounds (μ x+1) (key _ x a w (by omega) h)
def takeAt {α:Type}(l:List α):List Nat->List α
 | []=>[]
 | k :: r=>(match l[k]? with | some x=>[x] | none=>[]) ++ takeAt l r
theorem yfj {α:Type}(l:List α):∀ (s:List Nat) (x:α),x ∈ takeAt l s->x ∈ l
 | [],_,h=>by cases h
 | k :: r,x,h=>by
  simp only [takeAt,zjn] at h
  rcases h with h | h
  ·split at h
   ·rename_i y e
    simp at h
    subst h
    exact zhl e
   ·cases h
  ·exact yfj l r x h
theorem Sta.sub {w0 W:World}{n:Nat}{bx:Bxs}{sl:List (Tmp × Pr)}{B:Nat->Prop}{a:Act}(S:Sta w0 n bx sl B a W)(s1 s2:List Nat):Sta w0 n (takeAt bx s1) (takeAt sl s2) B a W:=
 ⟨S.ent,S.bnd,S.siz,S.dfr,fun x hx=>S.box x (yfj _ _ _ hx),fun x hx y hy=>S.sep x (yfj _ _ _ hx) y (yfj _ _ _ hy),fun x hx=>S.slt x (yfj _ _ _ hx)⟩
theorem yz1 (n:Int)(h1:-9223372036854775808<=n)(h2:n < 9223372036854775808):∀ w u,Is (.int .i64 n) u w->CG 34 #[u] w (ZN n):=fun w u e=>by
 obtain rfl:u=_:=e
 refine (yze w n h1 h2).mono ?_
 rintro e w' ⟨r,cr,rfl,Z⟩
 exact ye6 Z
theorem yx6 {A B:Int}{ka kb:Nat}(hk:ka+kb<=35184372088832):∀ w u v,Zv A ka u w->Zv B kb v w->CG 79 #[u,v] w (ZN (A*B)):=by
 rintro w u v ⟨s,p,n,c,xs,rfl,h,rfl,hn⟩ ⟨t,q,m,d,ys,rfl,h',rfl,hm⟩
 refine (yoy w s t p q n c m d xs ys h h' (by omega)).mono ?_
 rintro e w' ⟨r,cr,rfl,Z⟩
 exact ye6 Z
theorem yg3 {A:Int}{ka:Nat}(hk:ka<=35184372088832):∀ w u,Zv A ka u w->CG 29 #[u] w (IS (.int .i64 A.sign)):=by
 rintro w u ⟨s,p,n,c,xs,rfl,h,rfl,hn⟩
 refine (yiu w s p n c xs h (by omega)).mono ?_
 rintro e w' ⟨rfl,hb⟩
 exact ⟨_,rfl,hb,rfl⟩
section
variable {ops:Array Oper} {l:List Kd} {bx:Bxs} {sl:List (Tmp × Pr)} {i:Nat} {o:Oper} {Q:Exit->Act->World->Prop} {a0:Act} {n:Nat} {w0:World}
theorem ya8 {a:Int}{b:Int}{x y:Operand}(hw:Wants ops l bx sl i o)(hx:Opnd ops l bx sl i x (Is (.int .i64 a)))(hy:Opnd ops l bx sl i y (Is (.int .i64 b)))(ho:ops[i]? = some o:=by exact rfl)(hop:o.op=.binOp .lss 3 x y 3:=by exact rfl)(hk:kdAt l i=.val (Is (.bool true)):=by exact rfl)(h:a < b:=by omega):Owed Tryz.prog ops Q l bx sl a0 n w0 i:=ybt ho hw hop hx hy hk (fun ρ w h1 h2=>yl1 ρ _ _ _ w _ _ h h1 h2)
theorem ybc {a:Int}{b:Int}{x y:Operand}(hw:Wants ops l bx sl i o)(hx:Opnd ops l bx sl i x (Is (.int .i64 a)))(hy:Opnd ops l bx sl i y (Is (.int .i64 b)))(ho:ops[i]? = some o:=by exact rfl)(hop:o.op=.binOp .lss 3 x y 3:=by exact rfl)(hk:kdAt l i=.val (Is (.bool false)):=by exact rfl)(h:b<=a:=by omega):Owed Tryz.prog ops Q l bx sl a0 n w0 i:=ybt ho hw hop hx hy hk (fun ρ w h1 h2=>yl0 ρ _ _ _ w _ _ h h1 h2)
theorem yer {a:Int}{b:Int}{x y:Operand}(hw:Wants ops l bx sl i o)(hx:Opnd ops l bx sl i x (Is (.int .i64 a)))(hy:Opnd ops l bx sl i y (Is (.int .i64 b)))(ho:ops[i]? = some o:=by exact rfl)(hop:o.op=.binOp .leq 3 x y 3:=by exact rfl)(hk:kdAt l i=.val (Is (.bool true)):=by exact rfl)(h:a<=b:=by omega):Owed Tryz.prog ops Q l bx sl a0 n w0 i:=ybt ho hw hop hx hy hk (fun ρ w h1 h2=>ylz ρ _ _ _ w _ _ h h1 h2)
theorem yd4 {a:Int}{b:Int}{x y:Operand}(hw:Wants ops l bx sl i o)(hx:Opnd ops l bx sl i x (Is (.int .i64 a)))(hy:Opnd ops l bx sl i y (Is (.int .i64 b)))(ho:ops[i]? = some o:=by exact rfl)(hop:o.op=.binOp .leq 3 x y 3:=by exact rfl)(hk:kdAt l i=.val (Is (.bool false)):=by exact rfl)(h:b < a:=by omega):Owed Tryz.prog ops Q l bx sl a0 n w0 i:=ybt ho hw hop hx hy hk (fun ρ w h1 h2=>yly ρ _ _ _ w _ _ h h1 h2)
theorem yd3 {a:Int}{b:Int}{x y:Operand}(hw:Wants ops l bx sl i o)(hx:Opnd ops l bx sl i x (Is (.int .i64 a)))(hy:Opnd ops l bx sl i y (Is (.int .i64 b)))(ho:ops[i]? = some o:=by exact rfl)(hop:o.op=.binOp .gtr 3 x y 3:=by exact rfl)(hk:kdAt l i=.val (Is (.bool true)):=by exact rfl)(h:b < a:=by omega):Owed Tryz.prog ops Q l bx sl a0 n w0 i:=ybt ho hw hop hx hy hk (fun ρ w h1 h2=>ylx ρ _ _ _ w _ _ h h1 h2)
theorem ybv {a:Int}{b:Int}{x y:Operand}(hw:Wants ops l bx sl i o)(hx:Opnd ops l bx sl i x (Is (.int .i64 a)))(hy:Opnd ops l bx sl i y (Is (.int .i64 b)))(ho:ops[i]? = some o:=by exact rfl)(hop:o.op=.binOp .gtr 3 x y 3:=by exact rfl)(hk:kdAt l i=.val (Is (.bool false)):=by exact rfl)(h:a<=b:=by omega):Owed Tryz.prog ops Q l bx sl a0 n w0 i:=ybt ho hw hop hx hy hk (fun ρ w h1 h2=>ylw ρ _ _ _ w _ _ h h1 h2)
theorem yfo {a:Int}{b:Int}{x y:Operand}(hw:Wants ops l bx sl i o)(hx:Opnd ops l bx sl i x (Is (.int .i64 a)))(hy:Opnd ops l bx sl i y (Is (.int .i64 b)))(ho:ops[i]? = some o:=by exact rfl)(hop:o.op=.binOp .geq 3 x y 3:=by exact rfl)(hk:kdAt l i=.val (Is (.bool true)):=by exact rfl)(h:b<=a:=by omega):Owed Tryz.prog ops Q l bx sl a0 n w0 i:=ybt ho hw hop hx hy hk (fun ρ w h1 h2=>ylu ρ _ _ _ w _ _ h h1 h2)
theorem yfn {a:Int}{b:Int}{x y:Operand}(hw:Wants ops l bx sl i o)(hx:Opnd ops l bx sl i x (Is (.int .i64 a)))(hy:Opnd ops l bx sl i y (Is (.int .i64 b)))(ho:ops[i]? = some o:=by exact rfl)(hop:o.op=.binOp .geq 3 x y 3:=by exact rfl)(hk:kdAt l i=.val (Is (.bool false)):=by exact rfl)(h:a < b:=by omega):Owed Tryz.prog ops Q l bx sl a0 n w0 i:=ybt ho hw hop hx hy hk (fun ρ w h1 h2=>ylt ρ _ _ _ w _ _ h h1 h2)
theorem ycl {a:Int}{b:Int}{x y:Operand}(hw:Wants ops l bx sl i o)(hx:Opnd ops l bx sl i x (Is (.int .i64 a)))(hy:Opnd ops l bx sl i y (Is (.int .i64 b)))(ho:ops[i]? = some o:=by exact rfl)(hop:o.op=.binOp .eql 3 x y 3:=by exact rfl)(hk:kdAt l i=.val (Is (.bool true)):=by exact rfl)(h:a=b:=by omega):Owed Tryz.prog ops Q l bx sl a0 n w0 i:=ybt ho hw hop hx hy hk (fun ρ w h1 h2=>yls ρ _ _ _ w _ _ h h1 h2)
theorem ycd {a:Int}{b:Int}{x y:Operand}(hw:Wants ops l bx sl i o)(hx:Opnd ops l bx sl i x (Is (.int .i64 a)))(hy:Opnd ops l bx sl i y (Is (.int .i64 b)))(ho:ops[i]? = some o:=by exact rfl)(hop:o.op=.binOp .eql 3 x y 3:=by exact rfl)(hk:kdAt l i=.val (Is (.bool false)):=by exact rfl)(h:a≠b:=by omega):Owed Tryz.prog ops Q l bx sl a0 n w0 i:=ybt ho hw hop hx hy hk (fun ρ w h1 h2=>ylr ρ _ _ _ w _ _ h h1 h2)
theorem ybz {a:Int}{b:Int}{x y:Operand}(hw:Wants ops l bx sl i o)(hx:Opnd ops l bx sl i x (Is (.int .i64 a)))(hy:Opnd ops l bx sl i y (Is (.int .i64 b)))(ho:ops[i]? = some o:=by exact rfl)(hop:o.op=.binOp .neq 3 x y 3:=by exact rfl)(hk:kdAt l i=.val (Is (.bool true)):=by exact rfl)(h:a≠b:=by omega):Owed Tryz.prog ops Q l bx sl a0 n w0 i:=ybt ho hw hop hx hy hk (fun ρ w h1 h2=>yl3 ρ _ _ _ w _ _ h h1 h2)
theorem ybn {a:Int}{b:Int}{x y:Operand}(hw:Wants ops l bx sl i o)(hx:Opnd ops l bx sl i x (Is (.int .i64 a)))(hy:Opnd ops l bx sl i y (Is (.int .i64 b)))(ho:ops[i]? = some o:=by exact rfl)(hop:o.op=.binOp .neq 3 x y 3:=by exact rfl)(hk:kdAt l i=.val (Is (.bool false)):=by exact rfl)(h:a=b:=by omega):Owed Tryz.prog ops Q l bx sl a0 n w0 i:=ybt ho hw hop hx hy hk (fun ρ w h1 h2=>yl2 ρ _ _ _ w _ _ h h1 h2)
theorem yb0 {a:Int}{b:Int}{x y:Operand}(hw:Wants ops l bx sl i o)(hx:Opnd ops l bx sl i x (Is (.int .i64 a)))(hy:Opnd ops l bx sl i y (Is (.int .i64 b)))(ho:ops[i]? = some o:=by exact rfl)(hop:o.op=.binOp .eql 27 x y 27:=by exact rfl)(hk:kdAt l i=.val (Is (.bool true)):=by exact rfl)(h:a=b:=by omega):Owed Tryz.prog ops Q l bx sl a0 n w0 i:=ybt ho hw hop hx hy hk (fun ρ w h1 h2=>yjp ρ _ _ _ w _ _ h h1 h2)
theorem yk0 {a:Int}{b:Int}{x y:Operand}(hw:Wants ops l bx sl i o)(hx:Opnd ops l bx sl i x (Is (.int .i64 a)))(hy:Opnd ops l bx sl i y (Is (.int .i64 b)))(ho:ops[i]? = some o:=by exact rfl)(hop:o.op=.binOp .eql 27 x y 27:=by exact rfl)(hk:kdAt l i=.val (Is (.bool false)):=by exact rfl)(h:a≠b:=by omega):Owed Tryz.prog ops Q l bx sl a0 n w0 i:=ybt ho hw hop hx hy hk (fun ρ w h1 h2=>yjo ρ _ _ _ w _ _ h h1 h2)
theorem yd0 {a:Int}{b:Int}{x y:Operand}(hw:Wants ops l bx sl i o)(hx:Opnd ops l bx sl i x (Is (.int .i64 a)))(hy:Opnd ops l bx sl i y (Is (.int .i64 b)))(ho:ops[i]? = some o:=by exact rfl)(hop:o.op=.binOp .neq 27 x y 27:=by exact rfl)(hk:kdAt l i=.val (Is (.bool true)):=by exact rfl)(h:a≠b:=by omega):Owed Tryz.prog ops Q l bx sl a0 n w0 i:=ybt ho hw hop hx hy hk (fun ρ w h1 h2=>yjr ρ _ _ _ w _ _ h h1 h2)
theorem yaz {a:Int}{b:Int}{x y:Operand}(hw:Wants ops l bx sl i o)(hx:Opnd ops l bx sl i x (Is (.int .i64 a)))(hy:Opnd ops l bx sl i y (Is (.int .i64 b)))(ho:ops[i]? = some o:=by exact rfl)(hop:o.op=.binOp .neq 27 x y 27:=by exact rfl)(hk:kdAt l i=.val (Is (.bool false)):=by exact rfl)(h:a=b:=by omega):Owed Tryz.prog ops Q l bx sl a0 n w0 i:=ybt ho hw hop hx hy hk (fun ρ w h1 h2=>yjq ρ _ _ _ w _ _ h h1 h2)
theorem ya7 {a:Int}{b:Int}{r:Int}{x y:Operand}(hw:Wants ops l bx sl i o)(hx:Opnd ops l bx sl i x (Is (.int .i64 a)))(hy:Opnd ops l bx sl i y (Is (.int .i64 b)))(ho:ops[i]? = some o:=by exact rfl)(hop:o.op=.binOp .add 3 x y 3:=by exact rfl)(hk:kdAt l i=.val (Is (.int .i64 r)):=by exact rfl)(h:a+b=r/\-9223372036854775808<=r/\r<=9223372036854775807:=by exact ⟨by omega,by omega,by omega⟩):Owed Tryz.prog ops Q l bx sl a0 n w0 i:=ybt ho hw hop hx hy hk (fun ρ w h1 h2=>yol ρ _ _ _ w _ _ _ h h1 h2)
theorem ydu {a:Int}{b:Int}{r:Int}{x y:Operand}(hw:Wants ops l bx sl i o)(hx:Opnd ops l bx sl i x (Is (.int .i64 a)))(hy:Opnd ops l bx sl i y (Is (.int .i64 b)))(ho:ops[i]? = some o:=by exact rfl)(hop:o.op=.binOp .sub 3 x y 3:=by exact rfl)(hk:kdAt l i=.val (Is (.int .i64 r)):=by exact rfl)(h:a-b=r/\-9223372036854775808<=r/\r<=9223372036854775807:=by exact ⟨by omega,by omega,by omega⟩):Owed Tryz.prog ops Q l bx sl a0 n w0 i:=ybt ho hw hop hx hy hk (fun ρ w h1 h2=>yom ρ _ _ _ w _ _ _ h h1 h2)
theorem yqs {s:Bool}{t:Bool}{x y:Operand}(hw:Wants ops l bx sl i o)(hx:Opnd ops l bx sl i x (Is (.bool s)))(hy:Opnd ops l bx sl i y (Is (.bool t)))(ho:ops[i]? = some o:=by exact rfl)(hop:o.op=.binOp .neq 4 x y 4:=by exact rfl)(hk:kdAt l i=.val (Is (.bool (s != t))):=by exact rfl)  : Owed Tryz.prog ops Q l bx sl a0 n w0 i:=ybt ho hw hop hx hy hk (fun ρ w h1 h2=>yef ρ _ _ _ w _ _ h1 h2)
theorem ycc {s:Bool}{x:Operand}(hw:Wants ops l bx sl i o)(hx:Opnd ops l bx sl i x (Is (.bool s)))(ho:ops[i]? = some o:=by exact rfl)(hop:o.op=.unOp .not 4 x:=by exact rfl)(hk:kdAt l i=.val (Is (.bool (!s))):=by exact rfl)  : Owed Tryz.prog ops Q l bx sl a0 n w0 i:=zdz (x:=x) ho hw hop hx hk (fun ρ w h1=>yuv ρ _ _ w _ h1)
end
theorem wq {P:Program}{ops:Array Oper}{Q:Exit->Act->World->Prop}{bx:Bxs}{sl:List (Tmp × Pr)}{n:Nat}{B0:Nat->Prop}{a0:Act}{W w0:World}{id:Nat}{draw:Bool}{y:Code}(l:List Kd)(s1 s2:List (Nat ⊕ Nat))(T0:Sta w0 n bx sl B0 a0 W)
  (hop:AllOwed (Owed P ops (Exit.then (y.wp P Q) Q) l bx sl a0 n w0) ops.size)
  (fin:∀ B a w,Sta w0 n (pickBx ops l bx s1) (pickSl ops l sl s2) B a w->y.wp P Q a w) (hm:P.follows .mixedOrders=true:=by exact follows) (hl:l.length=ops.size:=by exact rfl) (hc:(shapeOk ops l (bx.map (·.1)) n && pickOk ops l bx s1)=true:=by kernel_rfl):(Code.seq (.region id ops draw) y).wp P Q a0 W:=yg7 l s1 s2 hm T0 hl hc hop fin
theorem wr {P:Program}{ops:Array Oper}{Q:Exit->Act->World->Prop}{bx:Bxs}{sl:List (Tmp × Pr)}{n:Nat}{B0:Nat->Prop}{a0:Act}{W w0:World}{id:Nat}{draw:Bool}(l:List Kd)(s1 s2:List (Nat ⊕ Nat))(T0:Sta w0 n bx sl B0 a0 W)
  (hop:AllOwed (Owed P ops Q l bx sl a0 n w0) ops.size)
  (fin:∀ B a w,Sta w0 n (pickBx ops l bx s1) (pickSl ops l sl s2) B a w->Q .normal a w) (hm:P.follows .mixedOrders=true:=by exact follows) (hl:l.length=ops.size:=by exact rfl) (hc:(shapeOk ops l (bx.map (·.1)) n && pickOk ops l bx s1)=true:=by kernel_rfl):(Code.region id ops draw).wp P Q a0 W:=yvg l s1 s2 hm T0 hl hc hop fin
structure EInf (e size bytes:Nat):Prop where
 inf:∃ (i:TypeInfo) (z:Value),Tryz.prog.info? e=some i/\i.zero=some z/\i.size=size/\i.bytes=bytes/\z.cells.size=size
 pos:0 < size
def Src (e size m:Nat)(χ:List Value->World->Prop):Pr:=fun v w=>∃ (g c:Nat) (ys:List Value),v=.slice (some ⟨g,0,none⟩) m c/\(ys.length=m*size/\m<=c/\c<=maxLen)/\w.heap[g]? = some (.cells ys.toArray e (0,0))/\(∀ u ∈ ys,u.oneCell'=true)/\χ ys w
theorem zbj {B:Nat->Prop}{w:World}{e size m:Nat}{χ:List Value->World->Prop}{v:Value}(hm:0 < m*size)(h:Has B w (Src e size m χ) v):
  ∃ (g c:Nat) (ys:List Value),v=.slice (some ⟨g,0,none⟩) m c/\(ys.length=m*size/\m<=c/\c<=maxLen)/\w.heap[g]? = some (.cells ys.toArray e (0,0))/\(∀ u ∈ ys,u.oneCell'=true)/\∀ w',Ev B w w'->χ ys w':=by
 obtain ⟨g,c,ys,e1,e2,e3,e4,e5⟩:=h.now
 have hlt:g < w.heap.size:=(zhf.1 e3).1
 have hnB:¬ B g:=fun hB=>by
  have hev:Ev B w (w.setRow g #[]):=⟨rfl,rfl,rfl,Nat.le_of_eq (yd8 _ _ _).symm,fun k _ hn=>setRow_other _ _ _ _ (fun e=>hn (e ▸ hB))⟩
  obtain ⟨g',c',ys',f1,f2,f3,_⟩:=h _ hev
  rw [e1] at f1
  simp only [Value.slice.injEq,Option.some.injEq,Addr.mk.injEq] at f1
  obtain ⟨⟨rfl,_⟩,_⟩:=f1
  rw [setRow_heap w _ _ _ _ _ e3] at f3
  simp only [Option.some.injEq,Obj.cells.injEq] at f3
  have:ys'=[]:=by
   have:=congrArg Array.toList f3.1
   simpa using this.symm
  subst this
  have:=f2.1
  simp at this
  omega
 refine ⟨g,c,ys,e1,e2,e3,e4,fun w' hw'=>?_⟩
 obtain ⟨g',c',ys',f1,f2,f3,_,f5⟩:=h w' hw'
 rw [e1] at f1
 simp only [Value.slice.injEq,Option.some.injEq,Addr.mk.injEq] at f1
 obtain ⟨⟨rfl,_⟩,_⟩:=f1
 rw [hw'.block g hlt hnB,e3] at f3
 simp only [Option.some.injEq,Obj.cells.injEq] at f3
 have:ys=ys':=by
  have:=congrArg Array.toList f3.1
  simpa using this
 subst this
 exact f5
section
variable {ops:Array Oper} {l:List Kd} {bx:Bxs} {sl:List (Tmp × Pr)} {i:Nat} {o:Oper} {Q:Exit->Act->World->Prop} {a0:Act} {n0:Nat} {w0:World}
end
theorem Sta.freeze {w0 W:World}{n:Nat}{bx bx':Bxs}{sl:List (Tmp × Pr)}{B:Nat->Prop}{a:Act}(S:Sta w0 n bx sl B a W)(k:Nat){t e size n':Nat}{χ:List Value->World->Prop}(h:bx[k]? = some (t,.row e size n' χ))(hs:∀ x ∈ bx',x ∈ bx/\x.1≠t){φ:Pr}(hφ:∀ v w xs,w.ownsRow w0.heap.size e size v n' xs->χ xs w->φ v w):
  Sta w0 n bx' ((t,φ) :: sl) (fun j=>B j/\vblock (a.eval (.tmp t))≠some j) a W:=by
 have hm:=zhl h
 obtain ⟨xs,hown,hB,hχ⟩:=S.box _ hm
 have sub:∀ w',Ev (fun j=>B j/\vblock (a.eval (.tmp t))≠some j) W w'->Ev B W w':=fun w' e=>⟨e.os,e.tape,e.output,e.size,fun k hk hn=>e.block k hk (fun h'=>hn h'.1)⟩
 refine ⟨S.ent,fun k hk=>S.bnd k hk.1,S.siz,S.dfr,fun x hx=>?_,fun x hx y hy=>S.sep x (hs x hx).1 y (hs y hy).1,fun x hx=>?_⟩
 ·obtain ⟨hx1,hx2⟩:=hs x hx
  have hat:=S.box x hx1
  have hin:∀ b,x.2.set (a.eval (.tmp x.1)) b->B b/\vblock (a.eval (.tmp t))≠some b:=fun b hb=>⟨(Rk.inB hat hb).1,fun h'=>hx2 (S.sep x hx1 _ hm b hb h')⟩
  obtain ⟨xt,xr⟩:=x
  cases xr with
  | own S0 e0 χ0 =>
   obtain ⟨C,h1,h2⟩:=hat
   exact ⟨C,fun b hb=>⟨hin b hb,(h1 b hb).2⟩,fun w' e=>h2 w' (sub w' e)⟩
  | box T ψ =>
   obtain ⟨b,u,h1,h2,h3,h4⟩:=hat
   exact ⟨b,u,h1,hin b (by show vblock (a.eval (.tmp xt))=_; rw [h1]; rfl),h3,fun w' e=>h4 w' (sub w' e)⟩
  | row e' s' n'' χ' =>
   obtain ⟨ys,h1,h2,h3⟩:=hat
   exact ⟨ys,h1,hin,fun w' e=>h3 w' (sub w' e)⟩
 ·rcases zj3.1 hx with rfl | hx
  ·intro w' ew
   refine hφ _ w' xs ⟨hown.1,?_⟩ (hχ w' (sub w' ew))
   rcases hown.2 with h1 | ⟨g,cap,cur,e1,e2,e3,e4⟩
   ·exact Or.inl h1
   ·exact Or.inr ⟨g,cap,cur,e1,e2,(ew.block g (zhf.1 e3).1 (fun h'=>h'.2 (by show vblock (a.eval (.tmp t))=_; rw [e1]; rfl))).trans e3,e4⟩
  ·exact fun w' e=>S.slt x hx w' (sub w' e)
end Go.Proofs.YtdnindaohpdblaaGreat

namespace Go.Proofs.YtdnindaohpdblaaGreat
open Go Go.RowKit
set_option maxRecDepth 20000
set_option maxHeartbeats 16000000
section
variable {P:Program} {Q:Exit->Act->World->Prop} {a:Act} {w:World}
end
section
variable {ops:Array Oper} {l:List Kd} {bx:Bxs} {sl:List (Tmp × Pr)} {i:Nat} {o:Oper} {Q:Exit->Act->World->Prop} {a0:Act} {n:Nat} {w0:World}
theorem yin (j d:Nat){b b':Bool}(ho:ops[i]? = some o)(hk:kdAt l i=.val (Is undef))(hg:o.guard=some (j,b))(h:((depsOf ops i).contains j && (dstOf ops j == some d))=true)(hkj:kdAt l j=.val (Is (.bool b')))(hb:b'≠b):Owed Tryz.prog ops Q l bx sl a0 n w0 i:=fun vs B a w c o' ho'=>by
 obtain rfl:o=o':=Option.some.inj (ho.symm.trans ho')
 have hv:=(yg5 (bx:=bx) (sl:=sl) j d h hkj a0 n w0 vs B a w c).now
 simp only [zh0,zid,beq_iff_eq] at h
 simp only [wpOp,ho]
 rw [if_neg (by simp [Region.wanted,hg,yh6 h.2 hv]; exact hb)]
 exact ⟨undef,rfl,by rw [hk]; exact ⟨Below.refl _ _,fun _ _=>rfl⟩⟩
theorem ybx (j d:Nat){b:Bool}(ho:ops[i]? = some o)(hk:kdAt l i=.off)(hg:o.guard=some (j,b))(h:((depsOf ops i).contains j && (dstOf ops j == some d))=true)(hkj:kdAt l j=.val (Is undef)):Owed Tryz.prog ops Q l bx sl a0 n w0 i:=fun vs B a w c o' ho'=>by
 obtain rfl:o=o':=Option.some.inj (ho.symm.trans ho')
 have hv:a.eval (.tmp d)=undef:=(yg5 (bx:=bx) (sl:=sl) j d h hkj a0 n w0 vs B a w c).now
 simp only [zh0,zid,beq_iff_eq] at h
 have hd':((ops[j]?).bind (·.dst))=some d:=h.2
 have hy:yielded ops a.tmps j=none:=by
  simp only [Act.eval] at hv
  cases hx:a.tmps[d]? with
  | none=>simp [yielded,hd',hx]
  | some v=>simp [hx] at hv; subst hv; simp [yielded,hd',hx,undef]
 simp only [wpOp,ho]
 rw [if_neg (by simp [Region.wanted,hg,hy])]
 exact ⟨undef,rfl,by rw [hk]; rfl⟩
end
end Go.Proofs.YtdnindaohpdblaaGreat

namespace Go.Proofs.YtdnindaohpdblaaGreat
open Go.RowKit Nt
set_option maxRecDepth 20000
set_option maxHeartbeats 16000000
theorem zf3 (w:World)(x:Nat)(hx:x < 18446744073709551616):
  Calls Tryz.prog 152 #[.int .u64 x] w fun e w'=>e=.returned (.int .i64 (Go.bitLen x:Nat))/\w'=w:=by
 have:=Tryz.bits_Len (x:Int) w (by omega) (by omega)
 rw [zju,yhu hx] at this
 exact this
end Go.Proofs.YtdnindaohpdblaaGreat

namespace Go.Proofs.YtdnindaohpdblaaGreat
open Go Go.RowKit Nt
set_option maxRecDepth 20000
set_option maxHeartbeats 16000000
theorem yet {a b:Int}{k l:Nat}(ha:(digs a.natAbs).length<=k)(hb:(digs b.natAbs).length<=l):(digs (a*b).natAbs).length<=k+l:=by rw [zh3]; exact yaq ha hb
theorem yj7 {a b:Int}{k:Nat}(ha:(digs a.natAbs).length<=k)(hb:(digs b.natAbs).length<=k):(digs (a+b).natAbs).length<=k+1:=zhb (yag (by omega)) (yc3 ha hb)
theorem ysj {a b:Int}{k:Nat}(ha:(digs a.natAbs).length<=k)(hb:(digs b.natAbs).length<=k):(digs (a-b).natAbs).length<=k+1:=zhb (yag (m:=a.natAbs+b.natAbs) (by omega)) (yc3 ha hb)
theorem yo9 {a:Int}(h:a.natAbs < 4294967296):(digs a.natAbs).length<=1:=ya1 (by omega)
theorem yj0 {s:Bool}{w:World}{p:Option Addr}{n c:Nat}{xs:List Nat}(h:Sl w p n c xs):(digs (sg s (val xs)).natAbs).length<=n:=by rw [sg_abs]; exact h.dl
theorem yp8 {w w':World}{r:Option Addr}{c m:Nat}(h:Res w w' r c m):NN m w.heap.size (.slice r (digs m).length c) w':=⟨r,c,rfl,h.sl,fun b o e=>(h.own b o e).2.1⟩
theorem yrf {w:World}{b:Bool}{L:Nat}{D:List Nat}{z:Int}{r:Option Addr}{c lo:Nat}(h:Nm b L D z)(hs:Sl w r L c D)(hf:∀ b o,r=some ⟨b,o,none⟩->lo<=b):ZN z lo (.agg #[.bool b,.slice r L c]) w:=by
 obtain ⟨rfl,rfl,rfl⟩:=h
 exact ⟨r,c,rfl,hs,hf⟩
theorem zcy {x y ka kb:Nat}(hk:ka<=70368744177663)(hk':kb<=70368744177663):∀ w u v,Nv x ka u w->Nv y kb v w->CG 86 #[u,v] w (NN (x+y)):=by
 rintro w u v ⟨p,n,c,xs,rfl,h,rfl,hn⟩ ⟨q,m,d,ys,rfl,h',rfl,hm⟩
 refine (yvr w p q n c m d xs ys h h' (by omega) (by omega)).mono ?_
 rintro e w' ⟨r,cr,rfl,R⟩
 exact ⟨_,rfl,R.below,yp8 R⟩
theorem zcz {x y ka kb:Nat}:∀ w u v,Nv x ka u w->Nv y kb v w->CG 100 #[u,v] w (IS (.int .i64 (cmpN x y))):=by
 rintro w u v ⟨p,n,c,xs,rfl,h,rfl,hn⟩ ⟨q,m,d,ys,rfl,h',rfl,hm⟩
 refine (yqw w p q n c m d xs ys h h').mono ?_
 rintro e w' ⟨rfl,nq,rfl⟩
 exact ⟨_,rfl,ybq (Below.refl _ _) nq,rfl⟩
theorem zc0 {x y ka kb:Nat}(hy:y≠0)(hk:ka+1<=70368744177664):∀ w u v,Nv x ka u w->Nv y kb v w->CG 121 #[u,v] w (THREE (NN (x / y)) (NN (x % y)) (IS (.int .i64 0))):=by
 rintro w u v ⟨p,n,c,xs,rfl,h,rfl,hn⟩ ⟨q,m,d,ys,rfl,h',rfl,hm⟩
 refine (yn8 w p q n c m d xs ys h h' hy (by omega)).mono ?_
 rintro e w' ⟨r,cr,s,cs,rfl,R1,R2,_⟩
 exact ⟨_,rfl,R1.below,_,_,_,rfl,yp8 R1,yp8 R2,rfl⟩
theorem ypi {s:Bool}{m lo:Nat}:Makes2 85 (Is (.bool s)) (NN m lo) (ZN (sg s m) lo):=by
 rintro w u v hu ⟨r,c,rfl,hs,hf⟩
 obtain rfl:u=_:=hu
 refine (ycx w s r _ c (zhb hs.cap hs.max)).mono ?_
 rintro e w' ⟨rfl,hb⟩
 refine ⟨_,rfl,hb,fun W _ h2=>?_⟩
 obtain ⟨r',c',e',hs',hf'⟩:=h2
 simp only [Value.slice.injEq] at e'
 obtain ⟨rfl,_,rfl⟩:=e'
 exact ⟨r,c,by rw [← yon,sg_abs],by rw [sg_abs]; exact hs',hf'⟩
theorem yjz (n:Int)(h1:-9223372036854775808<=n)(h2:n < 9223372036854775808):∀ w u,Is (.int .i64 n) u w->CG 56 #[u] w (ZN n):=fun w u e=>by
 obtain rfl:u=_:=e
 refine (zfg w n h1 h2).mono ?_
 rintro e w' ⟨r,cr,rfl,Z⟩
 exact ye6 Z
theorem ykb {A B:Int}{ka kb:Nat}(hk:ka<=70368744177663)(hk':kb<=70368744177663):∀ w u v,Zv A ka u w->Zv B kb v w->CG 57 #[u,v] w (ZN (A+B)):=by
 rintro w u v ⟨s,p,n,c,xs,rfl,h,rfl,hn⟩ ⟨t,q,m,d,ys,rfl,h',rfl,hm⟩
 refine (yy9 w s t p q n c m d xs ys h h' (by omega) (by omega)).mono ?_
 rintro e w' ⟨r,cr,rfl,Z⟩
 exact ye6 Z
theorem ykc {A B:Int}{ka kb:Nat}(hk:ka<=70368744177663)(hk':kb<=70368744177663):∀ w u v,Zv A ka u w->Zv B kb v w->CG 58 #[u,v] w (ZN (A-B)):=by
 rintro w u v ⟨s,p,n,c,xs,rfl,h,rfl,hn⟩ ⟨t,q,m,d,ys,rfl,h',rfl,hm⟩
 refine (yzf w s t p q n c m d xs ys h h' (by omega) (by omega)).mono ?_
 rintro e w' ⟨r,cr,rfl,Z⟩
 exact ye6 Z
theorem ydv {A B:Int}{ka kb:Nat}(hk:ka+kb<=70368744177664):∀ w u v,Zv A ka u w->Zv B kb v w->CG 71 #[u,v] w (ZN (A*B)):=by
 rintro w u v ⟨s,p,n,c,xs,rfl,h,rfl,hn⟩ ⟨t,q,m,d,ys,rfl,h',rfl,hm⟩
 refine (yzb w s t p q n c m d xs ys h h' (by omega)).mono ?_
 rintro e w' ⟨r,cr,rfl,Z⟩
 exact ye6 Z
end Go.Proofs.YtdnindaohpdblaaGreat
