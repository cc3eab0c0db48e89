import Derived.Test.YtdnindaohpdblaaGreatJaA
set_option linter.all false
namespace Go.Proofs.YtdnindaohpdblaaGreat
open Go Go.RowKit Nt
set_option maxRecDepth 20000
set_option maxHeartbeats 16000000
section
variable {G:Nat->Nat->Int} {n t E F:Nat}
end
def cmN (ts:List (Int × Int)):Nat->Nat
 | 0=>1
 | k+1=>cmN ts k*((ts.getD k (0,0)).2.toNat / Nat.gcd (cmN ts k) (ts.getD k (0,0)).2.toNat)
def DenOk (ts:List (Int × Int)):Prop:=∀ k,k < ts.length->0 < (ts.getD k (0,0)).2
theorem ysu (a b:Nat):Nat.gcd a b*(b / Nat.gcd a b)=b:=Nat.mul_div_cancel' (zjm a b)
theorem zcc {ts:List (Int × Int)}(h:DenOk ts):∀ k,k<=ts.length->cmN ts k≠0
 | 0,_=>Nat.one_ne_zero
 | k+1,hk=>by
  have h1:=zcc h k (by omega)
  have h2:=h k (by omega)
  have h3:=ysu (cmN ts k) (ts.getD k (0,0)).2.toNat
  refine zh2 h1 (fun e=>?_)
  rw [e,zin] at h3
  omega
theorem yr9 {ts:List (Int × Int)}:∀ k j,j < k->k<=ts.length->(ts.getD j (0,0)).2.toNat ∣ cmN ts k
  | k+1,j,hj,hk=>by
    rcases zi0 j k with h1 | h1
    · exact zj9 (yr9 k j h1 (by omega)) (Nat.dvd_mul_right _ _)
    · have e:j=k:=by omega
      subst e
      rw [cmN]
      generalize (ts.getD j (0,0)).2.toNat=d
      obtain ⟨q,hq⟩:=zj2 (cmN ts j) d
      have h3:=ysu (cmN ts j) d
      refine ⟨q,?_⟩
      calc cmN ts j*(d / Nat.gcd (cmN ts j) d)=(Nat.gcd (cmN ts j) d*(d / Nat.gcd (cmN ts j) d))*q:=by
            conv=>lhs; rw [hq]
            rw [zhk,zhk,zhd q]
            congr 3 <;> rw [← hq]
        _=d*q:=by rw [h3]
def dsum (ts:List (Int × Int)):Nat->Nat
 | 0=>1
 | k+1=>dsum ts k+(digs (ts.getD k (0,0)).2.natAbs).length
theorem yj5 {ts:List (Int × Int)}(h:DenOk ts):∀ k,k<=ts.length->(digs (cmN ts k)).length<=dsum ts k
 | 0,_=>by
  show (digs 1).length<=1
  exact ya1 (by decide)
 | k+1,hk=>by
  have h1:=yj5 h k (by omega)
  have h2:=h k (by omega)
  rw [cmN,dsum]
  refine yaq h1 (yag (zhb (zia _ _) (by omega)))
def tlL (ts:List (Int × Int))(M:Nat):List Int:=ts.map (fun t=>t.1*((M / t.2.toNat:Nat):Int))
theorem yqg (ts:List (Int × Int))(M:Nat):(tlL ts M).length=ts.length:=by simp [tlL]
theorem zez {ts:List (Int × Int)}{M k:Nat}(hk:k < ts.length):(tlL ts M).getD k 0=(ts.getD k (0,0)).1*((M / (ts.getD k (0,0)).2.toNat:Nat):Int):=by
 rw [zhc,zhc,tlL,zhi,zhj hk]
 rfl
theorem zgw {ts:List (Int × Int)}(h:DenOk ts){k:Nat}(hk:k < ts.length):(tlL ts (cmN ts ts.length)).getD k 0*(ts.getD k (0,0)).2=(ts.getD k (0,0)).1*((cmN ts ts.length:Nat):Int):=by
 rw [zez hk,zj7]
 congr 1
 have h1:=h k hk
 obtain ⟨q,hq⟩:=yr9 ts.length k hk (zha _)
 rw [hq,Nat.mul_div_cancel_left _ (by omega),zho,zjb,show (((ts.getD k (0,0)).2.toNat:Nat):Int)=(ts.getD k (0,0)).2 by omega]
def TR (pd pl pt pr:Pr):Pr:=fun v w=>∃ x y t a b c d,v=.agg #[x,y,t,a,b,c,d]/\(#[x,y,t,a,b,c,d]:Array Value).all (·.oneCell')=true/\pd x w/\pl y w/\pt t w/\pr (.agg #[a,b,c,d]) w
theorem yax {pd pl pt pr:Pr}:Shp 7 (TR pd pl pt pr):=fun u w ⟨x,y,t,a,b,c,d,e,h,_⟩=>⟨_,e,rfl,h⟩
theorem zeq:Shp 7 (Is (.agg #[.slice none 0 0,.slice none 0 0,.slice none 0 0,.bool false,.slice none 0 0,.bool false,.slice none 0 0])):=fun u w h=>⟨_,h,rfl,by simp [Value.oneCell']⟩
theorem yy5 {pd pl pt pz pd' pl' pt' pz':Pr}(h1:∀ v w,pd v w->pd' v w)(h2:∀ v w,pl v w->pl' v w)(h3:∀ v w,pt v w->pt' v w)(h4:∀ v w,pz v w->pz' v w):∀ v w,TR pd pl pt pz v w->TR pd' pl' pt' pz' v w:=
 fun v w ⟨x,y,t,p,q,p',q',e,h,a,b,c,d⟩=>⟨x,y,t,p,q,p',q',e,h,h1 _ _ a,h2 _ _ b,h3 _ _ c,h4 _ _ d⟩
theorem yal:Strct 41 7:=⟨⟨_,Tryz.underlying41,rfl⟩,by kernel_rfl⟩
theorem yqo (ρ:Operand->Value)(o:Oper)(w:World):(execOp ρ { o with op:=.alloc 41 }).run Tryz.prog w=.ok (.value (.pointer (some ⟨w.heap.size,0,none⟩))) (w.alloc (.cells (Value.agg #[.slice none 0 0,.slice none 0 0,.slice none 0 0,.bool false,.slice none 0 0,.bool false,.slice none 0 0]).cells 41 (0,0))):=by
 unfold execOp
 go_simp
theorem ybe {φ:Pr}(h:Shp 7 φ)(ρ:Operand->Value)(o:Oper)(x:Operand)(w:World)(hφ:φ (ρ x) w):(execOp ρ { o with op:=.box 41 x }).run Tryz.prog w=.ok (.value (.pointer (some ⟨w.heap.size,0,none⟩))) (w.alloc (.cells (ρ x).cells 41 (0,0))):=by
 obtain ⟨cs,e,h1,h2⟩:=h _ _ hφ
 unfold execOp
 rw [e]
 go_simp
theorem yas (ρ:Operand->Value)(o:Oper)(x:Operand)(w:World)(b f:Nat)(h:ρ x=.pointer (some ⟨b,f,none⟩)):(execOp ρ { o with op:=.fieldAddr 41 x 0 }).run Tryz.prog w=.ok (.value (.pointer (some ⟨b,f,none⟩))) w:=by
 unfold execOp
 go_simp
theorem yap (ρ:Operand->Value)(o:Oper)(x:Operand)(w:World)(b f:Nat)(h:ρ x=.pointer (some ⟨b,f,none⟩)):(execOp ρ { o with op:=.fieldAddr 41 x 1 }).run Tryz.prog w=.ok (.value (.pointer (some ⟨b,f+2,none⟩))) w:=by
 unfold execOp
 go_simp
theorem ybp (ρ:Operand->Value)(o:Oper)(x:Operand)(w:World)(b f:Nat)(h:ρ x=.pointer (some ⟨b,f,none⟩)):(execOp ρ { o with op:=.fieldAddr 41 x 2 }).run Tryz.prog w=.ok (.value (.pointer (some ⟨b,f+3,none⟩))) w:=by
 unfold execOp
 go_simp
theorem ymx {T n:Nat}(hS:Strct T n){ρ:Operand->Value}{o:Oper}{x:Operand}{w:World}{b off:Nat}{xs:List Value}(hx:ρ x=.pointer (some ⟨b,off,none⟩))(hn:xs.length=n)(h0:∀ (j:Nat) v,xs[j]? = some v->w.cell? ⟨b,off+j,none⟩=some v):
  (execOp ρ { o with op:=.load T x }).run Tryz.prog w=.ok (.value (.agg xs.toArray)) w:=by
 obtain ⟨⟨d,hu,hd⟩,hi⟩:=hS
 unfold execOp
 simp only [hx,Sem.run_bind,run_loadAt_mid (P:=Tryz.prog) w b off T xs d h0 hu hd (by rw [hi,hn]),Result.andThen_ok,Sem.run_pure]
theorem ycb {pd pl pt pr:Pr}(ρ:Operand->Value)(o:Oper)(x:Operand)(w:World)(b:Nat)(u:Value)(hφ:TR pd pl pt pr u w)(hx:ρ x=.pointer (some ⟨b,0,none⟩))(hb:w.heap[b]? = some (.cells u.cells 41 (0,0))):
  ∃ v,(execOp ρ { o with op:=.load 38 x }).run Tryz.prog w=.ok (.value v) w/\∀ w',TR pd pl pt pr u w'->SF [pd,pl] v w':=by
 obtain ⟨x0,x1,x2,x3,x4,x5,x6,rfl,ho,_⟩:=hφ
 refine ⟨.agg #[x0,x1],ymx ygh (xs:=[x0,x1]) hx rfl (fun j v hv=>?_),fun w' ⟨y0,y1,y2,y3,y4,y5,y6,e,ha,h1,h2,_⟩=>?_⟩
 ·match j,hv with
  | 0,hv=>simp at hv; subst hv; exact (ybl hb).trans rfl
  | 1,hv=>simp at hv; subst hv; exact (ybl hb).trans rfl
  | j+2,hv=>simp at hv
 ·simp at e
  obtain ⟨rfl,rfl,_⟩:=e
  simp only [List.all_toArray,List.all_cons,zh0] at ha
  refine ⟨_,rfl,rfl,by simp [ha.1,ha.2.1],fun f p hf=>?_⟩
  match f,hf with
  | 0,hf=>simp at hf; subst hf; exact ⟨_,rfl,h1⟩
  | 1,hf=>simp at hf; subst hf; exact ⟨_,rfl,h2⟩
  | f+2,hf=>simp at hf
theorem ybj {pd pl pt pr:Pr}(ρ:Operand->Value)(o:Oper)(x:Operand)(w:World)(b:Nat)(u:Value)(hφ:TR pd pl pt pr u w)(hx:ρ x=.pointer (some ⟨b,1,none⟩))(hb:w.heap[b]? = some (.cells u.cells 41 (0,0))):
  ∃ v,(execOp ρ { o with op:=.load 36 x }).run Tryz.prog w=.ok (.value v) w/\∀ w',TR pd pl pt pr u w'->pl v w':=by
 obtain ⟨x0,x1,x2,x3,x4,x5,x6,rfl,ho,_⟩:=hφ
 refine ⟨x1,yb1 ρ w o x b 1 x1 hx ((ybl hb).trans rfl),fun w' ⟨y0,y1,y2,y3,y4,y5,y6,e,_,_,h,_⟩=>?_⟩
 simp at e
 rw [e.2.1]
 exact h
theorem yat {pd pl pt pr:Pr}(ρ:Operand->Value)(o:Oper)(x:Operand)(w:World)(b:Nat)(u:Value)(hφ:TR pd pl pt pr u w)(hx:ρ x=.pointer (some ⟨b,2,none⟩))(hb:w.heap[b]? = some (.cells u.cells 41 (0,0))):
  ∃ v,(execOp ρ { o with op:=.load 39 x }).run Tryz.prog w=.ok (.value v) w/\∀ w',TR pd pl pt pr u w'->pt v w':=by
 obtain ⟨x0,x1,x2,x3,x4,x5,x6,rfl,ho,_⟩:=hφ
 refine ⟨x2,yrc ρ w o x b 2 x2 hx ((ybl hb).trans rfl),fun w' ⟨y0,y1,y2,y3,y4,y5,y6,e,_,_,_,h,_⟩=>?_⟩
 simp at e
 rw [e.2.2.1]
 exact h
theorem ycp {pd pl pt pr:Pr}(ρ:Operand->Value)(o:Oper)(x:Operand)(w:World)(b:Nat)(u:Value)(hφ:TR pd pl pt pr u w)(hx:ρ x=.pointer (some ⟨b,3,none⟩))(hb:w.heap[b]? = some (.cells u.cells 41 (0,0))):
  ∃ v,(execOp ρ { o with op:=.load 26 x }).run Tryz.prog w=.ok (.value v) w/\∀ w',TR pd pl pt pr u w'->pr v w':=by
 obtain ⟨x0,x1,x2,x3,x4,x5,x6,rfl,ho,_⟩:=hφ
 refine ⟨.agg #[x3,x4,x5,x6],ymx yaj (xs:=[x3,x4,x5,x6]) hx rfl (fun j v hv=>?_),fun w' ⟨y0,y1,y2,y3,y4,y5,y6,e,_,_,_,_,h⟩=>?_⟩
 ·match j,hv with
  | 0,hv=>simp at hv; subst hv; exact (ybl hb).trans rfl
  | 1,hv=>simp at hv; subst hv; exact (ybl hb).trans rfl
  | 2,hv=>simp at hv; subst hv; exact (ybl hb).trans rfl
  | 3,hv=>simp at hv; subst hv; exact (ybl hb).trans rfl
  | j+4,hv=>simp at hv
 ·simp at e
  rw [e.2.2.2.1,e.2.2.2.2.1,e.2.2.2.2.2.1,e.2.2.2.2.2.2]
  exact h
theorem yee {pd pl pt φ ψ:Pr}(ρ:Operand->Value)(o:Oper)(x:Operand)(w:World)(b:Nat)(u:Value)(hφ:TR pd pl pt (PR φ ψ) u w)(hx:ρ x=.pointer (some ⟨b,3,none⟩))(hb:w.heap[b]? = some (.cells u.cells 41 (0,0))):
  ∃ v,(execOp ρ { o with op:=.load 24 x }).run Tryz.prog w=.ok (.value v) w/\∀ w',TR pd pl pt (PR φ ψ) u w'->φ v w':=by
 obtain ⟨x0,x1,x2,x3,x4,x5,x6,rfl,ho,_⟩:=hφ
 refine ⟨.agg #[x3,x4],ylc hx ((ybl hb).trans rfl) ((ybl hb).trans rfl),fun w' ⟨y0,y1,y2,y3,y4,y5,y6,e,_,_,_,_,h⟩=>?_⟩
 obtain ⟨a0,a1,b0,b1,e',ha,_⟩:=h
 simp at e e'
 rw [e.2.2.2.1,e.2.2.2.2.1,e'.1,e'.2.1]
 exact ha
abbrev QV (n:Nat)(ts:List (Int × Int))(k:Nat):Pr:=Ar 4 n (ts.map (fun t=>PR (Zv t.1 k) (Zv t.2 k)))
theorem zdu {k:Nat}:∀ v w,Is (.slice none 0 0) v w->QV 0 [] k v w:=fun v w h=>⟨none,0,h,rfl,⟨zha _,by unfold maxLen; omega,fun _=>rfl⟩,fun i φ hφ=>by simp at hφ⟩
theorem ygt {ts:List (Int × Int)}{k i:Nat}(h:i < ts.length):(ts.map (fun t=>PR (Zv t.1 k) (Zv t.2 k)))[i]? = some (PR (Zv (ts.getD i (0,0)).1 k) (Zv (ts.getD i (0,0)).2 k)):=by
 rw [zhi,zhj h,zhc,zhj h]
 rfl
section
variable {ops:Array Oper} {l:List Kd} {bx:Bxs} {sl:List (Tmp × Pr)} {i:Nat} {o:Oper} {Q:Exit->Act->World->Prop} {a0:Act} {n:Nat} {w0:World}
theorem ym3 {x z:Operand}{pd pl pr:Pr}(ho:ops[i]? = some o)(hw:Wants ops l bx sl i o)(hop:o.op=.build 41 #[(0,x),(2,z)])(hx:Opnd ops l bx sl i x (SF [pd,pl]))(hz:Opnd ops l bx sl i z pr)(hS:Shp 4 pr)(hk:kdAt l i=.val (TR pd pl (Is (.slice none 0 0)) pr)):Owed Tryz.prog ops Q l bx sl a0 n w0 i:=
 ycs ho hw hk fun vs B a w c=>by
  have h1:=hx a0 n w0 vs B a w c
  have h3:=hz a0 n w0 vs B a w c
  obtain ⟨cs,e1,c1,c2,_⟩:=id h1.now
  obtain ⟨ds,e3,d1,d2⟩:=hS _ _ h3.now
  match cs,c1,e1,c2 with
  | ⟨[x0,x1]⟩,_,e1,c2 =>
   match ds,d1,e3,d2 with
   | ⟨[z0,z1,z2,z3]⟩,_,e3,d2 =>
    have c3:x0.oneCell'=true/\x1.oneCell'=true:=by simpa using c2
    have d3:z0.oneCell'=true/\z1.oneCell'=true/\z2.oneCell'=true/\z3.oneCell'=true:=by simpa using d2
    have hall:(#[x0,x1,.slice none 0 0,z0,z1,z2,z3]:Array Value).all (·.oneCell')=true:=by
     have hone:(Value.slice none 0 0).oneCell'=true:=rfl
     simp at ⊢
     exact ⟨c3.1,c3.2,hone,d3.1,d3.2.1,d3.2.2.1,d3.2.2.2⟩
    refine ⟨.agg #[x0,x1,.slice none 0 0,z0,z1,z2,z3],?_,fun w' e'=>⟨x0,x1,_,z0,z1,z2,z3,rfl,hall,?_,?_,rfl,e3 ▸ h3 w' e'⟩⟩
    ·unfold execOp
     rw [hop]
     clear h1 h3 hx hz hall c2 d2
     generalize a.eval=ρ at e1 e3
     obtain ⟨c4,c5⟩:=c3
     obtain ⟨d4,d5,d6,d7⟩:=d3
     go_simp
    ·obtain ⟨cs',e4,_,_,h4⟩:=h1 w' e'
     rw [e1] at e4
     simp at e4
     subst e4
     obtain ⟨u,hu,hp⟩:=h4 0 _ rfl
     simp at hu
     subst hu
     exact hp
    ·obtain ⟨cs',e4,_,_,h4⟩:=h1 w' e'
     rw [e1] at e4
     simp at e4
     subst e4
     obtain ⟨u,hu,hp⟩:=h4 1 _ rfl
     simp at hu
     subst hu
     exact hp
theorem yws {T E sz:Nat}(ho:ops[i]? = some o)(hw:Wants ops l bx sl i o)(hop:o.op=.buildSlice T 0 #[])(hB:Bld0 T E)(hz:0 < sz)(hk:kdAt l i=.val (LF sz 0 [] w0.heap.size)):Owed Tryz.prog ops Q l bx sl a0 n w0 i:=
 yfw ho hw hk fun vs B a w c=>by
  obtain ⟨b1,b2⟩:=ys6 c (E:=E) (n:=0) (us:=[]) (ψs:=[]) hz rfl (by unfold maxLen; omega) rfl (by intro u hu; simp at hu) (fun j u ψ hu hψ=>by simp at hu)
  refine ⟨_,_,?_,b1,b2⟩
  rw [show (cellsOf ([]:List Value)).toArray=#[] from rfl,← hB a.eval o w]
  unfold execOp
  rw [hop]
theorem ym2 {x y:Operand}{pd pl:Pr}(ho:ops[i]? = some o)(hw:Wants ops l bx sl i o)(hop:o.op=.build 38 #[(0,x),(1,y)])(hx:Opnd ops l bx sl i x pd)(hy:Opnd ops l bx sl i y pl)(h1:∀ v w,pd v w->∃ p m c,v=.slice p m c)(h2:∀ v w,pl v w->∃ p m c,v=.slice p m c)(hk:kdAt l i=.val (SF [pd,pl])):Owed Tryz.prog ops Q l bx sl a0 n w0 i:=
 ycs ho hw hk fun vs B a w cx=>by
  have hX:=hx a0 n w0 vs B a w cx
  have hY:=hy a0 n w0 vs B a w cx
  obtain ⟨p,m,c,e1⟩:=h1 _ _ hX.now
  obtain ⟨p',m',c',e2⟩:=h2 _ _ hY.now
  refine ⟨.agg #[a.eval x,a.eval y],?_,fun w' ev=>⟨_,rfl,rfl,by simp [e1,e2,Value.oneCell'],fun f q hq=>?_⟩⟩
  ·unfold execOp
   rw [hop]
   clear hX hY hx hy
   generalize a.eval=ρ at e1 e2
   go_simp
  ·match f,hq with
   | 0,hq=>simp at hq; subst hq; exact ⟨_,rfl,hX w' ev⟩
   | 1,hq=>simp at hq; subst hq; exact ⟨_,rfl,hY w' ev⟩
   | f+2,hq=>simp at hq
end
theorem yjs {z:Int}(h:0<=z):0<=z.sign:=by
 by_cases h0:z=0
 ·rw [h0]; decide
 ·rw [zh7 (by omega)]; decide
theorem yps {rn rd:Int}(h:0 < rd):∀ i,i < 1->0 < (([(rn,rd)]:List (Int × Int)).getD i (0,0)).2:=fun i hi=>by
 match i,hi with
 | 0,_=>exact h
theorem yh2 {E lo k:Nat}{a b:Int}:∀ v w,Sng E 4 (PR (Zv a k) (Zv b k)) lo v w->QV 1 [(a,b)] k v w:=by
 rintro v w ⟨g,u,rfl,h1,h2,h3,h4⟩
 refine ⟨_,_,rfl,rfl,⟨zha _,by unfold maxLen; omega,fun e=>by cases e⟩,fun i φ hφ=>?_⟩
 match i,hφ with
 | 0,hφ =>
  simp at hφ
  subst hφ
  refine ⟨g,0,u,rfl,fun j x hx=>?_,h3.siz,h4⟩
  rw [zin,zif,zig,ybl h2]
  exact hx
 | i+1,hφ=>simp at hφ
structure TGood (D:List Int) (L:List (List Int)) (ts:List (Int × Int)) (rn rd:Int):Prop where
 g:Good D L
 dim:L.length<=12
 len:ts.length=0\/(ts.length≠0/\ts.length=L.length)
 t:∀ i,i < ts.length->0 < (ts.getD i (0,0)).2
 rd:0 < rd
 rn:0<=rn
inductive TBad (D:List Int) (L:List (List Int)) (ts:List (Int × Int)) (rn rd:Int):Prop
 | g:Bad D L->TBad D L ts rn rd
 | dim:Good D L->12 < L.length->TBad D L ts rn rd
 | len:Good D L->L.length<=12->ts.length≠0->ts.length≠L.length->TBad D L ts rn rd
 | t (i0:Nat):Good D L->L.length<=12->ts.length≠0->ts.length=L.length->i0 < ts.length->(∀ j,j < i0->0 < (ts.getD j (0,0)).2)->(ts.getD i0 (0,0)).2<=0->TBad D L ts rn rd
 | rd:Good D L->L.length<=12->(ts.length=0\/(ts.length≠0/\ts.length=L.length))->(∀ i,i < ts.length->0 < (ts.getD i (0,0)).2)->rd<=0->TBad D L ts rn rd
 | rn:Good D L->L.length<=12->(ts.length=0\/(ts.length≠0/\ts.length=L.length))->(∀ i,i < ts.length->0 < (ts.getD i (0,0)).2)->0 < rd->rn < 0->TBad D L ts rn rd
theorem yxe (D:List Int)(L:List (List Int))(ts:List (Int × Int))(rn rd:Int):TGood D L ts rn rd\/TBad D L ts rn rd:=by
 rcases yz5 D L with g | g
 ·by_cases h1:L.length<=12
  ·have hl:(ts.length=0\/(ts.length≠0/\ts.length=L.length))\/(ts.length≠0/\ts.length≠L.length):=by omega
   rcases hl with hl | ⟨h2,h3⟩
   ·rcases yf8 (fun i=>decide (0 < (ts.getD i (0,0)).2)) ts.length with h4 | ⟨i,h4,h5,h6⟩
    ·have h4':∀ i,i < ts.length->0 < (ts.getD i (0,0)).2:=fun i hi=>of_decide_eq_true (h4 i hi)
     by_cases h5:0 < rd
     ·by_cases h6:0<=rn
      ·exact Or.inl ⟨g,h1,hl,h4',h5,h6⟩
      ·exact Or.inr (.rn g h1 hl h4' h5 (by omega))
     ·exact Or.inr (.rd g h1 hl h4' (by omega))
    ·have h7:=of_decide_eq_false h5
     exact Or.inr (.t i g h1 (by omega) (by omega) h4 (fun j hj=>of_decide_eq_true (h6 j hj)) (by omega))
   ·exact Or.inr (.len g h1 h2 h3)
  ·exact Or.inr (.dim g (by omega))
 ·exact Or.inr (.g g)
theorem ygv (w:World)(u:Value)(n k:Nat)(ts:List (Int × Int))(h:Hs w (QV n ts k) u)(hn:n<=1048576)(hk:k<=8388608)(lt:ts.length=n)(ht:∀ i,i < n->0 < (ts.getD i (0,0)).2):
  CG 26 #[u] w (IS (.bool true)):=by
 refine yak (sl:=[(0,(QV n ts k))]) Tryz.func26 rfl Tryz.ntmps26 (by simp) (yae rfl (h) yao) ?_
 intro a0 S0
 refine wq [kF] [] [.inr 0] S0 ?_ ?_
 ·exact jj1 mC
 intro _ a1 _ (S1:Zt [] [_])
 refine wp_seq ?_
 refine wq [V (QV n ts k),V (iV (n:Nat)),V (iV 0)] [] [.inl 0,.inl 1,.inl 2] S1 ?_ ?_
 ·exact jj3 (mS 0 0) (lnA wA (oO 0 5) Tryz.underlying39) mC
 intro B2 a2 _ (S2:Zt [] [_,_,_])
 refine wp_block ?_
 refine ybi (fun (k0:Nat) a W=>(k0<=n)/\∃ Bq,Sta w 16 [] [(5,(QV n ts k)),(6,iV (n:Nat)),(7,iV (k0:Nat))] Bq a W) (fun (k0:Nat)=>n-k0) ?_ 0 ⟨zhs _,B2,S2.sub [] [0,1,2]⟩
 rintro k0 a3 _ ⟨hcond,_,S3⟩
 by_cases hlt:k0 < n
 ·have hp:=yd9 (ht k0 hlt)
  refine wq [kT] [] (.inl 0 :: ur3) S3 ?_ ?_
  ·exact jj1 (ya8 wA (oS 2 7) (oS 1 6))
  intro B4 a4 W4 (S4:Zt [] [_,_,_,_])
  refine wp_seq (wp_cond_true (S4.bool 0 8 rfl) (wp_skip (thenN (wp_seq (wp_block ?_)))))
  refine wq [V (AtE 4 (PR (Zv ((ts.getD k0 (0,0)).1) k) (Zv ((ts.getD k0 (0,0)).2) k))),V (PR (Zv ((ts.getD k0 (0,0)).1) k) (Zv ((ts.getD k0 (0,0)).2) k)),.new (.box 26 zR),.put (.inr 2) (.box 26 (PR (Zv ((ts.getD k0 (0,0)).1) k) (Zv ((ts.getD k0 (0,0)).2) k)))] [.inl 2] [.inr 1,.inr 2,.inr 3] S4 ?_ ?_
  ·exact jj4 (axA wA ydd (oS 1 5) (oS 3 7) (ygt (by omega)) rfl) (alC wA yc6 (ybm yan yan) (oO 0 9)) (nwA wA ya3) (puA 2 wA (oO 1 10) yaj ybk (ybm yan yan))
  intro B5 a5 W5 (S5:Zt [_] [_,_,_])
  refine wq [V (Part a5 4 2),V (Zv ((ts.getD k0 (0,0)).2) k),V (Is (.int .i64 ((ts.getD k0 (0,0)).2).sign)),kF] [] (.inl 3 :: ur3) S5 ?_ ?_
  ·exact jj4 (ptA wA 0 ycg) (plA wA (oO 0 11) 0 rfl rfl ycj) (cc1 wA (qO 1 12 rfl) (yab _) (fun w u h1=>yev (by omega) w u ((fun _ _ h=>h) _ _ h1))) (yd4 wA (oO 2 13) (yaa _))
  intro _ a6 _ (S6:Zt [] [_,_,_,_])
  refine wp_cond_false (S6.bool 0 14 rfl) (wp_skip (inBlkN (thenN ?_)))
  refine wr [V (iV (k0+1:Nat)),V (iV (k0+1:Nat))] [] [.inl 1,.inr 1,.inr 2] S6 ?_ ?_
  ·exact jj2 (ya7 wA (oS 3 7) (yaa _)) (mO 0 15)
  intro B7 a7 _ (S7:Zt [] [_,_,_])
  refine thenN ?_
  exact ⟨k0+1,⟨by omega,B7,S7.sub [] [1,2,0]⟩,by omega⟩
 ·skip
  refine wq [kF] [] (.inl 0 :: ur3) S3 ?_ ?_
  ·exact jj1 (ybc wA (oS 2 7) (oS 1 6))
  intro B4 a4 W4 (S4:Zt [] [_,_,_,_])
  refine wp_seq (wp_cond_false (S4.bool 0 8 rfl) (wp_exit (thenX (thenX (inBlkE (thenN ?_))))))
  refine wq [kT] [] [.inl 0,.inr 1,.inr 2,.inr 3] S4 ?_ ?_
  ·exact jj1 mC
  intro B5 a5 W5 (S5:Zt [] [_,_,_,_])
  refine wp_ret ?_
  exact yav S5 rfl (yay S5 0 2 rfl)
abbrev ykn (k:Nat)(ts:List (Int × Int))(k0:Nat):Pr:=PR (Zv ((ts.getD k0 (0,0)).1) k) (Zv ((ts.getD k0 (0,0)).2) k)
theorem yte (w:World)(u:Value)(n k:Nat)(ts:List (Int × Int))(h:Hs w (QV n ts k) u)(hn:n<=1048576)(hk:k<=8388608)(lt:ts.length=n)(i0:Nat)(hi:i0 < n)(ht:∀ i,i < i0->0 < (ts.getD i (0,0)).2)(hz:(ts.getD i0 (0,0)).2<=0):
  CG 26 #[u] w (IS (.bool false)):=by
 refine yak (sl:=[(0,(QV n ts k))]) Tryz.func26 rfl Tryz.ntmps26 (by simp) (yae rfl (h) yao) ?_
 intro a0 S0
 refine wq [kF] [] [.inr 0] S0 ?_ ?_
 ·exact jj1 mC
 intro _ a1 _ (S1:Zt [] [_])
 refine wp_seq ?_
 refine wq [V (QV n ts k),V (iV (n:Nat)),V (iV 0)] [] [.inl 0,.inl 1,.inl 2] S1 ?_ ?_
 ·exact jj3 (mS 0 0) (lnA wA (oO 0 5) Tryz.underlying39) mC
 intro B2 a2 _ (S2:Zt [] [_,_,_])
 refine wp_block ?_
 refine ybi (fun (k0:Nat) a W=>(k0<=i0)/\∃ Bq,Sta w 16 [] [(5,(QV n ts k)),(6,iV (n:Nat)),(7,iV (k0:Nat))] Bq a W) (fun (k0:Nat)=>n-k0) ?_ 0 ⟨zhs _,B2,S2.sub [] [0,1,2]⟩
 rintro k0 a3 _ ⟨hcond,_,S3⟩
 by_cases hlt:k0 < i0
 ·have hp:=yd9 (ht k0 hlt)
  refine wq [kT] [] (.inl 0 :: ur3) S3 ?_ ?_
  ·exact jj1 (ya8 wA (oS 2 7) (oS 1 6))
  intro B4 a4 W4 (S4:Zt [] [_,_,_,_])
  refine wp_seq (wp_cond_true (S4.bool 0 8 rfl) (wp_skip (thenN (wp_seq (wp_block ?_)))))
  refine wq [V (AtE 4 (ykn k ts k0)),V (ykn k ts k0),.new (.box 26 zR),.put (.inr 2) (.box 26 (ykn k ts k0))] [.inl 2] [.inr 1,.inr 2,.inr 3] S4 ?_ ?_
  ·exact jj4 (axA wA ydd (oS 1 5) (oS 3 7) (ygt (by omega)) rfl) (alC wA yc6 (ybm yan yan) (oO 0 9)) (nwA wA ya3) (puA 2 wA (oO 1 10) yaj ybk (ybm yan yan))
  intro B5 a5 W5 (S5:Zt [_] [_,_,_])
  refine wq [V (Part a5 4 2),V (Zv ((ts.getD k0 (0,0)).2) k),V (Is (.int .i64 ((ts.getD k0 (0,0)).2).sign)),kF] [] (.inl 3 :: ur3) S5 ?_ ?_
  ·exact jj4 (ptA wA 0 ycg) (plA wA (oO 0 11) 0 rfl rfl ycj) (cc1 wA (qO 1 12 rfl) (yab _) (fun w u h1=>yev (by omega) w u ((fun _ _ h=>h) _ _ h1))) (yd4 wA (oO 2 13) (yaa _))
  intro B6 a6 W6 (S6:Zt [] [_,_,_,_])
  refine wp_cond_false (S6.bool 0 14 rfl) (wp_skip (inBlkN (thenN ?_)))
  refine wr [V (iV (k0+1:Nat)),V (iV (k0+1:Nat))] [] [.inl 1,.inr 1,.inr 2] S6 ?_ ?_
  ·exact jj2 (ya7 wA (oS 3 7) (yaa _)) (mO 0 15)
  intro B7 a7 W7 (S7:Zt [] [_,_,_])
  refine thenN ?_
  exact ⟨k0+1,⟨by omega,B7,S7.sub [] [1,2,0]⟩,by omega⟩
 ·have ek:k0=i0:=by omega
  rw [← ek] at hz
  have hp:=yel hz
  refine wq [kT] [] (.inl 0 :: ur3) S3 ?_ ?_
  ·exact jj1 (ya8 wA (oS 2 7) (oS 1 6))
  intro B4 a4 W4 (S4:Zt [] [_,_,_,_])
  refine wp_seq (wp_cond_true (S4.bool 0 8 rfl) (wp_skip (thenN (wp_seq (wp_block ?_)))))
  refine wq [V (AtE 4 (ykn k ts k0)),V (ykn k ts k0),.new (.box 26 zR),.put (.inr 2) (.box 26 (ykn k ts k0))] [.inl 2] [.inr 1,.inr 2,.inr 3] S4 ?_ ?_
  ·exact jj4 (axA wA ydd (oS 1 5) (oS 3 7) (ygt (by omega)) rfl) (alC wA yc6 (ybm yan yan) (oO 0 9)) (nwA wA ya3) (puA 2 wA (oO 1 10) yaj ybk (ybm yan yan))
  intro B5 a5 W5 (S5:Zt [_] [_,_,_])
  refine wq [V (Part a5 4 2),V (Zv ((ts.getD k0 (0,0)).2) k),V (Is (.int .i64 ((ts.getD k0 (0,0)).2).sign)),kT] [] (.inl 3 :: ur3) S5 ?_ ?_
  ·exact jj4 (ptA wA 0 ycg) (plA wA (oO 0 11) 0 rfl rfl ycj) (cc1 wA (qO 1 12 rfl) (yab _) (fun w u h1=>yev (by omega) w u ((fun _ _ h=>h) _ _ h1))) (yer wA (oO 2 13) (yaa _))
  intro B6 a6 W6 (S6:Zt [] [_,_,_,_])
  refine wp_cond_true (S6.bool 0 14 rfl) ?_
  refine wq [kF] [] [.inl 0,.inr 1,.inr 2,.inr 3] S6 ?_ ?_
  ·exact jj1 mC
  intro B7 a7 W7 (S7:Zt [] [_,_,_,_])
  refine wp_ret (inBlkR (thenR (thenR (inBlkR (thenR ?_)))))
  exact yav S7 rfl (yay S7 0 2 rfl)
abbrev ygz (w:World):Pr:=(TWO (RN 1 1) (IS (.int .i64 0))) w.heap.size
abbrev ync (w:World):Rk:=.box 26 ((RN 1 1) w.heap.size)
abbrev yjj  : Rk:=.box 26 zR
theorem yy6 (w:World)(u:Value)(nD nL nT K:Nat)(D:List Int)(L:List (List Int))(ts:List (Int × Int))(rn rd:Int)(h:Hs w (TR (Vv nD D K) (Mv nL L K) (QV nT ts K) (PR (Zv rn K) (Zv rd K))) u)(hD:nD<=1048576)(hL:nL<=1048576)(hT:nT<=1048576)(hK:K<=1048576)(lD:D.length=nD)(lL:L.length=nL)(lT:ts.length=nT)(tg:TBad D L ts rn rd):
  CG 15 #[u] w (IS (.int .i64 110)):=by
 refine yak (sl:=[(0,(TR (Vv nD D K) (Mv nL L K) (QV nT ts K) (PR (Zv rn K) (Zv rd K))))]) Tryz.func15 rfl Tryz.ntmps15 (by simp) (yae rfl (h) yao) ?_
 intro a0 S0
 refine wq [.new (.box 41 (TR (Vv nD D K) (Mv nL L K) (QV nT ts K) (PR (Zv rn K) (Zv rd K)))),V (iV 0)] [.inl 0] [] S0 ?_ ?_
 ·exact jj2 (bxA wA (oS 0 0) (ybe yax)) mC
 intro _ a1 _ (S1:Zt [_] [])
 rcases tg with g | ⟨g,g1⟩ | ⟨g,g1,g2,g3⟩ | ⟨i0,g,g1,g2,g3,g4,g6,g7⟩ | ⟨g,g1,hl,g5,g6⟩ | ⟨g,g1,hl,g5,g6,g7⟩
 ·skip
  refine wq [V (Part a1 1 0),V (SF [(Vv nD D K),(Mv nL L K)]),Fw (TWO (IS (.agg #[.bool false,.slice none 0 0,.bool false,.slice none 0 0])) (IS (.int .i64 51))) w,Fw (TWO (IS (.agg #[.bool false,.slice none 0 0,.bool false,.slice none 0 0])) (IS (.int .i64 51))) w,.val zR,V (iV 51),.new (yjj),.put (.inr 6) (yjj),V (iV 51)] [.inr 0,.inl 6] [.inl 8] S1 ?_ ?_
  ·exact ⟨jj8 (ptZ wA 0 yas) (plA wA (oO 0 7) 0 rfl rfl ycb) (ch3 wA (qO 1 8 rfl) (yaa _) (yaa _) (ya5 (yab _) (yab _)) (fun w u0 u1 u2 h0 h1 h2=>by obtain rfl:u1=_:=h1.now; obtain rfl:u2=_:=h2.now; exact mu_b w u0 nD nL K D L h0 hD hL hK lD lL 0 0 g)) (mO 2 9) (e20 wA (oO 3 6)) (e21 wA (oO 3 6)) (nwA wA ya3) (puA 6 wA (oO 4 10) yaj ybk ybk),mO 5 11⟩
  intro B2 a2 W2 (S2:Zt [_,_] [_])
  refine wq [V (Part a2 1 0),V (Part a2 1 1),V (Mv nL L K),V (iV (nL:Nat)),V (iV (nL:Nat))] [.inr 0] [.inl 4,.inr 0] S2 ?_ ?_
  ·exact jj5 (ptZ wA 0 yas) (ya6 rfl wA rfl (oO 0 12) rfl (fun ρ w b h=>yaw ρ _ _ w b 0 h)) (plA wA (oO 1 13) 0 rfl rfl ybj) (lnA wA (oO 2 14) Tryz.underlying36) (mO 3 15)
  intro B3 a3 W3 (S3:Zt [_] [_,_])
  refine wp_seq (wp_block ?_)
  refine wq [V (iV 51),kT,kT,.off,.off,kT,kT] [.inr 0] [.inl 6,.inr 0] S3 ?_ ?_
  ·repeat' refine And.intro ?_ ?_
   ·trivial
   ·exact mS 1 4
   ·exact yd0 wA (oO 0 17) (yaa _) (h:=by decide)
   ·exact mO 1 18
   ·exact oF 2 19
   ·exact oF 2 19
   ·exact pT wA (oO 2 19) (yaa _)
   ·exact mO 5 22
  intro B4 a4 W4 (S4:Zt [_] [_,_])
  refine wp_cond_true (S4.bool 0 16 rfl) ?_
  refine wq [V (iV 110)] [.inr 0] [.inl 0] S4 ?_ ?_
  ·exact jj1 mC
  intro B5 a5 W5 (S5:Zt [_] [_])
  refine wp_ret (inBlkR (thenR ?_))
  exact yav S5 rfl (yay S5 0 2 rfl)
 ·skip
  refine wq [V (Part a1 1 0),V (SF [(Vv nD D K),(Mv nL L K)]),V (ygz w),V (ygz w),Fw (RN 1 1) w,V (iV 0),.new (yjj),.put (.inr 6) (ync w),V (iV 0)] [.inr 0,.inl 6] [.inl 8] S1 ?_ ?_
  ·exact ⟨jj8 (ptZ wA 0 yas) (plA wA (oO 0 7) 0 rfl rfl ycb) (ch3 wA (qO 1 8 rfl) (yaa _) (yaa _) (ya5 (ydx _ _) (yab _)) (fun w u0 u1 u2 h0 h1 h2=>by obtain rfl:u1=_:=h1.now; obtain rfl:u2=_:=h2.now; exact mu_e w u0 nD nL K D L h0 hD hL hK lD lL 0 g (by have:=g.some; omega))) (mO 2 9) (e20 wA (oO 3 6)) (e21 wA (oO 3 6)) (nwA wA ya3) (puA 6 wA (oO 4 10) yaj ybk (ybm yai yai)),mO 5 11⟩
  intro B2 a2 W2 (S2:Zt [_,_] [_])
  refine wq [V (Part a2 1 0),V (Part a2 1 1),V (Mv nL L K),V (iV (nL:Nat)),V (iV (nL:Nat))] [.inr 0] [.inl 4,.inr 0] S2 ?_ ?_
  ·exact jj5 (ptZ wA 0 yas) (ya6 rfl wA rfl (oO 0 12) rfl (fun ρ w b h=>yaw ρ _ _ w b 0 h)) (plA wA (oO 1 13) 0 rfl rfl ybj) (lnA wA (oO 2 14) Tryz.underlying36) (mO 3 15)
  intro B3 a3 W3 (S3:Zt [_] [_,_])
  refine wp_seq (wp_block ?_)
  refine wq [V (iV 0),kF,kF,V (iV (nL:Nat)),kT,kT,kT] [.inr 0] [.inl 6,.inr 0] S3 ?_ ?_
  ·repeat' refine And.intro ?_ ?_
   ·trivial
   ·exact mS 1 4
   ·exact yaz wA (oO 0 17) (yaa _) (h:=by decide)
   ·exact mO 1 18
   ·exact mW (wI 2 19) (oS 0 5)
   ·exact yd3 (wI 2 19) (oO 3 20) (yaa _)
   ·exact pF wA (oO 2 19) (oO 4 21)
   ·exact mO 5 22
  intro B4 a4 W4 (S4:Zt [_] [_,_])
  refine wp_cond_true (S4.bool 0 16 rfl) ?_
  refine wq [V (iV 110)] [.inr 0] [.inl 0] S4 ?_ ?_
  ·exact jj1 mC
  intro B5 a5 W5 (S5:Zt [_] [_])
  refine wp_ret (inBlkR (thenR ?_))
  exact yav S5 rfl (yay S5 0 2 rfl)
 ·skip
  refine wq [V (Part a1 1 0),V (SF [(Vv nD D K),(Mv nL L K)]),V (ygz w),V (ygz w),Fw (RN 1 1) w,V (iV 0),.new (yjj),.put (.inr 6) (ync w),V (iV 0)] [.inr 0,.inl 6] [.inl 8] S1 ?_ ?_
  ·exact ⟨jj8 (ptZ wA 0 yas) (plA wA (oO 0 7) 0 rfl rfl ycb) (ch3 wA (qO 1 8 rfl) (yaa _) (yaa _) (ya5 (ydx _ _) (yab _)) (fun w u0 u1 u2 h0 h1 h2=>by obtain rfl:u1=_:=h1.now; obtain rfl:u2=_:=h2.now; exact mu_e w u0 nD nL K D L h0 hD hL hK lD lL 0 g (by have:=g.some; omega))) (mO 2 9) (e20 wA (oO 3 6)) (e21 wA (oO 3 6)) (nwA wA ya3) (puA 6 wA (oO 4 10) yaj ybk (ybm yai yai)),mO 5 11⟩
  intro B2 a2 W2 (S2:Zt [_,_] [_])
  refine wq [V (Part a2 1 0),V (Part a2 1 1),V (Mv nL L K),V (iV (nL:Nat)),V (iV (nL:Nat))] [.inr 0] [.inl 4,.inr 0] S2 ?_ ?_
  ·exact jj5 (ptZ wA 0 yas) (ya6 rfl wA rfl (oO 0 12) rfl (fun ρ w b h=>yaw ρ _ _ w b 0 h)) (plA wA (oO 1 13) 0 rfl rfl ybj) (lnA wA (oO 2 14) Tryz.underlying36) (mO 3 15)
  intro B3 a3 W3 (S3:Zt [_] [_,_])
  refine wp_seq (wp_block ?_)
  refine wq [V (iV 0),kF,kF,V (iV (nL:Nat)),kF,kF,kF] [.inr 0] [.inl 6,.inr 0] S3 ?_ ?_
  ·repeat' refine And.intro ?_ ?_
   ·trivial
   ·exact mS 1 4
   ·exact yaz wA (oO 0 17) (yaa _) (h:=by decide)
   ·exact mO 1 18
   ·exact mW (wI 2 19) (oS 0 5)
   ·exact ybv (wI 2 19) (oO 3 20) (yaa _)
   ·exact pF wA (oO 2 19) (oO 4 21)
   ·exact mO 5 22
  intro B4 a4 W4 (S4:Zt [_] [_,_])
  refine wp_cond_false (S4.bool 0 16 rfl) ?_
  refine wq [V (Part a4 1 2),V (QV nT ts K),V (iV (nT:Nat)),kT,kT,V (Part a4 1 2),V (QV nT ts K),V (iV (nT:Nat)),V (iV (nL:Nat)),kT,kT,kT] [.inr 0] [.inl 11] S4 ?_ ?_
  ·exact ⟨⟨⟨⟨jj8 (ptA wA 0 yap) (plA wA (oO 0 24) 0 rfl rfl yat) (lnA wA (oO 1 25) Tryz.underlying39) (ybz wA (oO 2 26) (yaa _)) (mO 3 27) (ptA (wI 4 28) 0 yap) (plA (wI 4 28) (oO 5 29) 0 rfl rfl yat) (lnA (wI 4 28) (oO 6 30) Tryz.underlying39),mW (wI 4 28) (oS 1 5)⟩,ybz (wI 4 28) (oO 7 31) (oO 8 32)⟩,pT wA (oO 4 28) (oO 9 33)⟩,mO 10 34⟩
  intro B5 a5 W5 (S5:Zt [_] [_])
  refine wp_cond_true (S5.bool 0 23 rfl) ?_
  refine wq [V (iV 110)] [.inr 0] [.inl 0] S5 ?_ ?_
  ·exact jj1 mC
  intro B6 a6 W6 (S6:Zt [_] [_])
  refine wp_ret (inBlkR (thenR ?_))
  exact yav S6 rfl (yay S6 0 2 rfl)
 ·skip
  refine wq [V (Part a1 1 0),V (SF [(Vv nD D K),(Mv nL L K)]),V (ygz w),V (ygz w),Fw (RN 1 1) w,V (iV 0),.new (yjj),.put (.inr 6) (ync w),V (iV 0)] [.inr 0,.inl 6] [.inl 8] S1 ?_ ?_
  ·exact ⟨jj8 (ptZ wA 0 yas) (plA wA (oO 0 7) 0 rfl rfl ycb) (ch3 wA (qO 1 8 rfl) (yaa _) (yaa _) (ya5 (ydx _ _) (yab _)) (fun w u0 u1 u2 h0 h1 h2=>by obtain rfl:u1=_:=h1.now; obtain rfl:u2=_:=h2.now; exact mu_e w u0 nD nL K D L h0 hD hL hK lD lL 0 g (by have:=g.some; omega))) (mO 2 9) (e20 wA (oO 3 6)) (e21 wA (oO 3 6)) (nwA wA ya3) (puA 6 wA (oO 4 10) yaj ybk (ybm yai yai)),mO 5 11⟩
  intro B2 a2 W2 (S2:Zt [_,_] [_])
  refine wq [V (Part a2 1 0),V (Part a2 1 1),V (Mv nL L K),V (iV (nL:Nat)),V (iV (nL:Nat))] [.inr 0] [.inl 4,.inr 0] S2 ?_ ?_
  ·exact jj5 (ptZ wA 0 yas) (ya6 rfl wA rfl (oO 0 12) rfl (fun ρ w b h=>yaw ρ _ _ w b 0 h)) (plA wA (oO 1 13) 0 rfl rfl ybj) (lnA wA (oO 2 14) Tryz.underlying36) (mO 3 15)
  intro B3 a3 W3 (S3:Zt [_] [_,_])
  refine wp_seq (wp_block ?_)
  refine wq [V (iV 0),kF,kF,V (iV (nL:Nat)),kF,kF,kF] [.inr 0] [.inl 6,.inr 0] S3 ?_ ?_
  ·repeat' refine And.intro ?_ ?_
   ·trivial
   ·exact mS 1 4
   ·exact yaz wA (oO 0 17) (yaa _) (h:=by decide)
   ·exact mO 1 18
   ·exact mW (wI 2 19) (oS 0 5)
   ·exact ybv (wI 2 19) (oO 3 20) (yaa _)
   ·exact pF wA (oO 2 19) (oO 4 21)
   ·exact mO 5 22
  intro B4 a4 W4 (S4:Zt [_] [_,_])
  refine wp_cond_false (S4.bool 0 16 rfl) ?_
  refine wq [V (Part a4 1 2),V (QV nT ts K),V (iV (nT:Nat)),kT,kT,V (Part a4 1 2),V (QV nT ts K),V (iV (nT:Nat)),V (iV (nL:Nat)),kF,kF,kF] [.inr 0] [.inl 11] S4 ?_ ?_
  ·exact ⟨⟨⟨⟨jj8 (ptA wA 0 yap) (plA wA (oO 0 24) 0 rfl rfl yat) (lnA wA (oO 1 25) Tryz.underlying39) (ybz wA (oO 2 26) (yaa _)) (mO 3 27) (ptA (wI 4 28) 0 yap) (plA (wI 4 28) (oO 5 29) 0 rfl rfl yat) (lnA (wI 4 28) (oO 6 30) Tryz.underlying39),mW (wI 4 28) (oS 1 5)⟩,ybn (wI 4 28) (oO 7 31) (oO 8 32)⟩,pT wA (oO 4 28) (oO 9 33)⟩,mO 10 34⟩
  intro B5 a5 W5 (S5:Zt [_] [_])
  refine wp_cond_false (S5.bool 0 23 rfl) ?_
  refine wq [V (Part a5 1 2),V (QV nT ts K),kF,kT,kT,.off,.off,.off,.off,.off,kT,kT,.off,.off,.off,.off,.off,kT,kT] [.inr 0] [.inl 18] S5 ?_ ?_
  ·exact ⟨⟨⟨⟨⟨⟨⟨⟨⟨⟨⟨jj8 (ptA wA 0 yap) (plA wA (oO 0 36) 0 rfl rfl yat) (ch1 wA (qO 1 37 rfl) (yab _) (fun w u h=>yte w u nT K ts h (by omega) (by omega) lT i0 (by omega) g6 g7)) (ycc wA (oO 2 38)) (mO 3 39) (oF 4 40) (oF 4 40) (oF 4 40),oF 4 40⟩,oF 4 40⟩,pT wA (oO 4 40) (yaa _)⟩,mO 10 46⟩,oF 11 47⟩,oF 11 47⟩,oF 11 47⟩,oF 11 47⟩,oF 11 47⟩,pT wA (oO 11 47) (yaa _)⟩,mO 17 53⟩
  intro B6 a6 W6 (S6:Zt [_] [_])
  refine wp_cond_true (S6.bool 0 35 rfl) ?_
  refine wq [V (iV 110)] [.inr 0] [.inl 0] S6 ?_ ?_
  ·exact jj1 mC
  intro B7 a7 W7 (S7:Zt [_] [_])
  refine wp_ret (inBlkR (thenR ?_))
  exact yav S7 rfl (yay S7 0 2 rfl)
 ·skip
  refine wq [V (Part a1 1 0),V (SF [(Vv nD D K),(Mv nL L K)]),V (ygz w),V (ygz w),Fw (RN 1 1) w,V (iV 0),.new (yjj),.put (.inr 6) (ync w),V (iV 0)] [.inr 0,.inl 6] [.inl 8] S1 ?_ ?_
  ·exact ⟨jj8 (ptZ wA 0 yas) (plA wA (oO 0 7) 0 rfl rfl ycb) (ch3 wA (qO 1 8 rfl) (yaa _) (yaa _) (ya5 (ydx _ _) (yab _)) (fun w u0 u1 u2 h0 h1 h2=>by obtain rfl:u1=_:=h1.now; obtain rfl:u2=_:=h2.now; exact mu_e w u0 nD nL K D L h0 hD hL hK lD lL 0 g (by have:=g.some; omega))) (mO 2 9) (e20 wA (oO 3 6)) (e21 wA (oO 3 6)) (nwA wA ya3) (puA 6 wA (oO 4 10) yaj ybk (ybm yai yai)),mO 5 11⟩
  intro B2 a2 W2 (S2:Zt [_,_] [_])
  refine wq [V (Part a2 1 0),V (Part a2 1 1),V (Mv nL L K),V (iV (nL:Nat)),V (iV (nL:Nat))] [.inr 0] [.inl 4,.inr 0] S2 ?_ ?_
  ·exact jj5 (ptZ wA 0 yas) (ya6 rfl wA rfl (oO 0 12) rfl (fun ρ w b h=>yaw ρ _ _ w b 0 h)) (plA wA (oO 1 13) 0 rfl rfl ybj) (lnA wA (oO 2 14) Tryz.underlying36) (mO 3 15)
  intro B3 a3 W3 (S3:Zt [_] [_,_])
  refine wp_seq (wp_block ?_)
  refine wq [V (iV 0),kF,kF,V (iV (nL:Nat)),kF,kF,kF] [.inr 0] [.inl 6,.inr 0] S3 ?_ ?_
  ·repeat' refine And.intro ?_ ?_
   ·trivial
   ·exact mS 1 4
   ·exact yaz wA (oO 0 17) (yaa _) (h:=by decide)
   ·exact mO 1 18
   ·exact mW (wI 2 19) (oS 0 5)
   ·exact ybv (wI 2 19) (oO 3 20) (yaa _)
   ·exact pF wA (oO 2 19) (oO 4 21)
   ·exact mO 5 22
  intro B4 a4 W4 (S4:Zt [_] [_,_])
  refine wp_cond_false (S4.bool 0 16 rfl) ?_
  rcases hl with hl | ⟨hl,hl2⟩
  ·skip
   refine wq [V (Part a4 1 2),V (QV nT ts K),V (iV (nT:Nat)),kF,kF,.off,.off,.off,.off,.off,kF,kF] [.inr 0] [.inl 11] S4 ?_ ?_
   ·exact ⟨⟨⟨⟨jj8 (ptA wA 0 yap) (plA wA (oO 0 24) 0 rfl rfl yat) (lnA wA (oO 1 25) Tryz.underlying39) (ybn wA (oO 2 26) (yaa _)) (mO 3 27) (oF 4 28) (oF 4 28) (oF 4 28),oF 4 28⟩,oF 4 28⟩,pF wA (oO 4 28) (yaa _)⟩,mO 10 34⟩
   intro B5 a5 W5 (S5:Zt [_] [_])
   refine wp_cond_false (S5.bool 0 23 rfl) ?_
   refine wq [V (Part a5 1 2),V (QV nT ts K),kT,kF,kF,V (Part a5 1 3),V (PR (Zv rn K) (Zv rd K)),V (Sng 26 4 (PR (Zv rn K) (Zv rd K)) w.heap.size),kF,kT,kT,kT,.off,.off,.off,.off,.off,kT,kT] [.inr 0] [.inl 18] S5 ?_ ?_
   ·exact ⟨⟨⟨⟨⟨⟨⟨⟨⟨⟨⟨jj8 (ptA wA 0 yap) (plA wA (oO 0 36) 0 rfl rfl yat) (ch1 wA (qO 1 37 rfl) (yab _) (fun w u h=>ygv w u nT K ts h (by omega) (by omega) lT (fun i hi=>g5 i (by omega)))) (ycc wA (oO 2 38)) (mO 3 39) (ptA (wI 4 40) 0 ybp) (plA (wI 4 40) (oO 5 41) 0 rfl rfl ycp) (yhj rfl (wI 4 40) rfl ygm (oO 6 42) (yb6 (by decide) (ybm yan yan)) rfl),ch1 (wI 4 40) ((qO 7 43 rfl).imp yh2) (yab _) (fun w u h=>yte w u 1 K [(rn,rd)] h (by omega) (by omega) rfl 0 (by omega) (fun i hi=>by omega) g6)⟩,ycc (wI 4 40) (oO 8 44)⟩,pF wA (oO 4 40) (oO 9 45)⟩,mO 10 46⟩,oF 11 47⟩,oF 11 47⟩,oF 11 47⟩,oF 11 47⟩,oF 11 47⟩,pT wA (oO 11 47) (yaa _)⟩,mO 17 53⟩
   intro B6 a6 W6 (S6:Zt [_] [_])
   refine wp_cond_true (S6.bool 0 35 rfl) ?_
   refine wq [V (iV 110)] [.inr 0] [.inl 0] S6 ?_ ?_
   ·exact jj1 mC
   intro B7 a7 W7 (S7:Zt [_] [_])
   refine wp_ret (inBlkR (thenR ?_))
   exact yav S7 rfl (yay S7 0 2 rfl)
  ·skip
   refine wq [V (Part a4 1 2),V (QV nT ts K),V (iV (nT:Nat)),kT,kT,V (Part a4 1 2),V (QV nT ts K),V (iV (nT:Nat)),V (iV (nL:Nat)),kF,kF,kF] [.inr 0] [.inl 11] S4 ?_ ?_
   ·exact ⟨⟨⟨⟨jj8 (ptA wA 0 yap) (plA wA (oO 0 24) 0 rfl rfl yat) (lnA wA (oO 1 25) Tryz.underlying39) (ybz wA (oO 2 26) (yaa _)) (mO 3 27) (ptA (wI 4 28) 0 yap) (plA (wI 4 28) (oO 5 29) 0 rfl rfl yat) (lnA (wI 4 28) (oO 6 30) Tryz.underlying39),mW (wI 4 28) (oS 1 5)⟩,ybn (wI 4 28) (oO 7 31) (oO 8 32)⟩,pT wA (oO 4 28) (oO 9 33)⟩,mO 10 34⟩
   intro B5 a5 W5 (S5:Zt [_] [_])
   refine wp_cond_false (S5.bool 0 23 rfl) ?_
   refine wq [V (Part a5 1 2),V (QV nT ts K),kT,kF,kF,V (Part a5 1 3),V (PR (Zv rn K) (Zv rd K)),V (Sng 26 4 (PR (Zv rn K) (Zv rd K)) w.heap.size),kF,kT,kT,kT,.off,.off,.off,.off,.off,kT,kT] [.inr 0] [.inl 18] S5 ?_ ?_
   ·exact ⟨⟨⟨⟨⟨⟨⟨⟨⟨⟨⟨jj8 (ptA wA 0 yap) (plA wA (oO 0 36) 0 rfl rfl yat) (ch1 wA (qO 1 37 rfl) (yab _) (fun w u h=>ygv w u nT K ts h (by omega) (by omega) lT (fun i hi=>g5 i (by omega)))) (ycc wA (oO 2 38)) (mO 3 39) (ptA (wI 4 40) 0 ybp) (plA (wI 4 40) (oO 5 41) 0 rfl rfl ycp) (yhj rfl (wI 4 40) rfl ygm (oO 6 42) (yb6 (by decide) (ybm yan yan)) rfl),ch1 (wI 4 40) ((qO 7 43 rfl).imp yh2) (yab _) (fun w u h=>yte w u 1 K [(rn,rd)] h (by omega) (by omega) rfl 0 (by omega) (fun i hi=>by omega) g6)⟩,ycc (wI 4 40) (oO 8 44)⟩,pF wA (oO 4 40) (oO 9 45)⟩,mO 10 46⟩,oF 11 47⟩,oF 11 47⟩,oF 11 47⟩,oF 11 47⟩,oF 11 47⟩,pT wA (oO 11 47) (yaa _)⟩,mO 17 53⟩
   intro B6 a6 W6 (S6:Zt [_] [_])
   refine wp_cond_true (S6.bool 0 35 rfl) ?_
   refine wq [V (iV 110)] [.inr 0] [.inl 0] S6 ?_ ?_
   ·exact jj1 mC
   intro B7 a7 W7 (S7:Zt [_] [_])
   refine wp_ret (inBlkR (thenR ?_))
   exact yav S7 rfl (yay S7 0 2 rfl)
 ·skip
  have hs:rn.sign < 0:=by rw [zii g7]; omega
  refine wq [V (Part a1 1 0),V (SF [(Vv nD D K),(Mv nL L K)]),V (ygz w),V (ygz w),Fw (RN 1 1) w,V (iV 0),.new (yjj),.put (.inr 6) (ync w),V (iV 0)] [.inr 0,.inl 6] [.inl 8] S1 ?_ ?_
  ·exact ⟨jj8 (ptZ wA 0 yas) (plA wA (oO 0 7) 0 rfl rfl ycb) (ch3 wA (qO 1 8 rfl) (yaa _) (yaa _) (ya5 (ydx _ _) (yab _)) (fun w u0 u1 u2 h0 h1 h2=>by obtain rfl:u1=_:=h1.now; obtain rfl:u2=_:=h2.now; exact mu_e w u0 nD nL K D L h0 hD hL hK lD lL 0 g (by have:=g.some; omega))) (mO 2 9) (e20 wA (oO 3 6)) (e21 wA (oO 3 6)) (nwA wA ya3) (puA 6 wA (oO 4 10) yaj ybk (ybm yai yai)),mO 5 11⟩
  intro B2 a2 W2 (S2:Zt [_,_] [_])
  refine wq [V (Part a2 1 0),V (Part a2 1 1),V (Mv nL L K),V (iV (nL:Nat)),V (iV (nL:Nat))] [.inr 0] [.inl 4,.inr 0] S2 ?_ ?_
  ·exact jj5 (ptZ wA 0 yas) (ya6 rfl wA rfl (oO 0 12) rfl (fun ρ w b h=>yaw ρ _ _ w b 0 h)) (plA wA (oO 1 13) 0 rfl rfl ybj) (lnA wA (oO 2 14) Tryz.underlying36) (mO 3 15)
  intro B3 a3 W3 (S3:Zt [_] [_,_])
  refine wp_seq (wp_block ?_)
  refine wq [V (iV 0),kF,kF,V (iV (nL:Nat)),kF,kF,kF] [.inr 0] [.inl 6,.inr 0] S3 ?_ ?_
  ·repeat' refine And.intro ?_ ?_
   ·trivial
   ·exact mS 1 4
   ·exact yaz wA (oO 0 17) (yaa _) (h:=by decide)
   ·exact mO 1 18
   ·exact mW (wI 2 19) (oS 0 5)
   ·exact ybv (wI 2 19) (oO 3 20) (yaa _)
   ·exact pF wA (oO 2 19) (oO 4 21)
   ·exact mO 5 22
  intro B4 a4 W4 (S4:Zt [_] [_,_])
  refine wp_cond_false (S4.bool 0 16 rfl) ?_
  rcases hl with hl | ⟨hl,hl2⟩
  ·skip
   refine wq [V (Part a4 1 2),V (QV nT ts K),V (iV (nT:Nat)),kF,kF,.off,.off,.off,.off,.off,kF,kF] [.inr 0] [.inl 11] S4 ?_ ?_
   ·exact ⟨⟨⟨⟨jj8 (ptA wA 0 yap) (plA wA (oO 0 24) 0 rfl rfl yat) (lnA wA (oO 1 25) Tryz.underlying39) (ybn wA (oO 2 26) (yaa _)) (mO 3 27) (oF 4 28) (oF 4 28) (oF 4 28),oF 4 28⟩,oF 4 28⟩,pF wA (oO 4 28) (yaa _)⟩,mO 10 34⟩
   intro B5 a5 W5 (S5:Zt [_] [_])
   refine wp_cond_false (S5.bool 0 23 rfl) ?_
   refine wq [V (Part a5 1 2),V (QV nT ts K),kT,kF,kF,V (Part a5 1 3),V (PR (Zv rn K) (Zv rd K)),V (Sng 26 4 (PR (Zv rn K) (Zv rd K)) w.heap.size),kT,kF,kF,kF,V (Part a5 1 3),V (Part a5 1 3),V (Zv rn K),V (iV ((rn).sign)),kT,kT,kT] [.inr 0] [.inl 18] S5 ?_ ?_
   ·exact ⟨⟨⟨⟨⟨⟨⟨⟨⟨⟨⟨jj8 (ptA wA 0 yap) (plA wA (oO 0 36) 0 rfl rfl yat) (ch1 wA (qO 1 37 rfl) (yab _) (fun w u h=>ygv w u nT K ts h (by omega) (by omega) lT (fun i hi=>g5 i (by omega)))) (ycc wA (oO 2 38)) (mO 3 39) (ptA (wI 4 40) 0 ybp) (plA (wI 4 40) (oO 5 41) 0 rfl rfl ycp) (yhj rfl (wI 4 40) rfl ygm (oO 6 42) (yb6 (by decide) (ybm yan yan)) rfl),ch1 (wI 4 40) ((qO 7 43 rfl).imp yh2) (yab _) (fun w u h=>ygv w u 1 K [(rn,rd)] h (by omega) (by omega) rfl (yps g6))⟩,ycc (wI 4 40) (oO 8 44)⟩,pF wA (oO 4 40) (oO 9 45)⟩,mO 10 46⟩,ptA (wI 11 47) 0 ybp⟩,ya6 rfl (wI 11 47) rfl (oO 12 48) rfl (fun ρ w b h=>yca ρ _ _ w b 3 h)⟩,plA (wI 11 47) (oO 13 49) 0 rfl rfl yee⟩,cc1 (wI 11 47) (qO 14 50 rfl) (yab _) (fun w u h1=>yev (by omega) w u ((fun _ _ h=>h) _ _ h1))⟩,ya8 (wI 11 47) (oO 15 51) (yaa _)⟩,pF wA (oO 11 47) (oO 16 52)⟩,mO 17 53⟩
   intro B6 a6 W6 (S6:Zt [_] [_])
   refine wp_cond_true (S6.bool 0 35 rfl) ?_
   refine wq [V (iV 110)] [.inr 0] [.inl 0] S6 ?_ ?_
   ·exact jj1 mC
   intro B7 a7 W7 (S7:Zt [_] [_])
   refine wp_ret (inBlkR (thenR ?_))
   exact yav S7 rfl (yay S7 0 2 rfl)
  ·skip
   refine wq [V (Part a4 1 2),V (QV nT ts K),V (iV (nT:Nat)),kT,kT,V (Part a4 1 2),V (QV nT ts K),V (iV (nT:Nat)),V (iV (nL:Nat)),kF,kF,kF] [.inr 0] [.inl 11] S4 ?_ ?_
   ·exact ⟨⟨⟨⟨jj8 (ptA wA 0 yap) (plA wA (oO 0 24) 0 rfl rfl yat) (lnA wA (oO 1 25) Tryz.underlying39) (ybz wA (oO 2 26) (yaa _)) (mO 3 27) (ptA (wI 4 28) 0 yap) (plA (wI 4 28) (oO 5 29) 0 rfl rfl yat) (lnA (wI 4 28) (oO 6 30) Tryz.underlying39),mW (wI 4 28) (oS 1 5)⟩,ybn (wI 4 28) (oO 7 31) (oO 8 32)⟩,pT wA (oO 4 28) (oO 9 33)⟩,mO 10 34⟩
   intro B5 a5 W5 (S5:Zt [_] [_])
   refine wp_cond_false (S5.bool 0 23 rfl) ?_
   refine wq [V (Part a5 1 2),V (QV nT ts K),kT,kF,kF,V (Part a5 1 3),V (PR (Zv rn K) (Zv rd K)),V (Sng 26 4 (PR (Zv rn K) (Zv rd K)) w.heap.size),kT,kF,kF,kF,V (Part a5 1 3),V (Part a5 1 3),V (Zv rn K),V (iV ((rn).sign)),kT,kT,kT] [.inr 0] [.inl 18] S5 ?_ ?_
   ·exact ⟨⟨⟨⟨⟨⟨⟨⟨⟨⟨⟨jj8 (ptA wA 0 yap) (plA wA (oO 0 36) 0 rfl rfl yat) (ch1 wA (qO 1 37 rfl) (yab _) (fun w u h=>ygv w u nT K ts h (by omega) (by omega) lT (fun i hi=>g5 i (by omega)))) (ycc wA (oO 2 38)) (mO 3 39) (ptA (wI 4 40) 0 ybp) (plA (wI 4 40) (oO 5 41) 0 rfl rfl ycp) (yhj rfl (wI 4 40) rfl ygm (oO 6 42) (yb6 (by decide) (ybm yan yan)) rfl),ch1 (wI 4 40) ((qO 7 43 rfl).imp yh2) (yab _) (fun w u h=>ygv w u 1 K [(rn,rd)] h (by omega) (by omega) rfl (yps g6))⟩,ycc (wI 4 40) (oO 8 44)⟩,pF wA (oO 4 40) (oO 9 45)⟩,mO 10 46⟩,ptA (wI 11 47) 0 ybp⟩,ya6 rfl (wI 11 47) rfl (oO 12 48) rfl (fun ρ w b h=>yca ρ _ _ w b 3 h)⟩,plA (wI 11 47) (oO 13 49) 0 rfl rfl yee⟩,cc1 (wI 11 47) (qO 14 50 rfl) (yab _) (fun w u h1=>yev (by omega) w u ((fun _ _ h=>h) _ _ h1))⟩,ya8 (wI 11 47) (oO 15 51) (yaa _)⟩,pF wA (oO 11 47) (oO 16 52)⟩,mO 17 53⟩
   intro B6 a6 W6 (S6:Zt [_] [_])
   refine wp_cond_true (S6.bool 0 35 rfl) ?_
   refine wq [V (iV 110)] [.inr 0] [.inl 0] S6 ?_ ?_
   ·exact jj1 mC
   intro B7 a7 W7 (S7:Zt [_] [_])
   refine wp_ret (inBlkR (thenR ?_))
   exact yav S7 rfl (yay S7 0 2 rfl)
theorem yjv (w:World)(u:Value)(nD nL nT K:Nat)(D:List Int)(L:List (List Int))(ts:List (Int × Int))(rn rd:Int)(h:Hs w (TR (Vv nD D K) (Mv nL L K) (QV nT ts K) (PR (Zv rn K) (Zv rd K))) u)(hD:nD<=1048576)(hL:nL<=1048576)(hT:nT<=1048576)(hK:K<=1048576)(lD:D.length=nD)(lL:L.length=nL)(lT:ts.length=nT)(tg:TGood D L ts rn rd):
  CG 15 #[u] w (IS (.int .i64 0)):=by
 obtain ⟨g,g1,hl,g5,g6,g7⟩:=tg
 have hs:0<=rn.sign:=yjs g7
 refine yak (sl:=[(0,(TR (Vv nD D K) (Mv nL L K) (QV nT ts K) (PR (Zv rn K) (Zv rd K))))]) Tryz.func15 rfl Tryz.ntmps15 (by simp) (yae rfl (h) yao) ?_
 intro a0 S0
 refine wq [.new (.box 41 (TR (Vv nD D K) (Mv nL L K) (QV nT ts K) (PR (Zv rn K) (Zv rd K)))),V (iV 0)] [.inl 0] [] S0 ?_ ?_
 ·exact jj2 (bxA wA (oS 0 0) (ybe yax)) mC
 intro _ a1 _ (S1:Zt [_] [])
 refine wq [V (Part a1 1 0),V (SF [(Vv nD D K),(Mv nL L K)]),Fw (TWO (RN 1 1) (IS (.int .i64 0))) w,Fw (TWO (RN 1 1) (IS (.int .i64 0))) w,Fw (RN 1 1) w,V (iV 0),.new (.box 26 zR),.put (.inr 6) (.box 26 ((RN 1 1) w.heap.size)),V (iV 0)] [.inr 0,.inl 6] [.inl 8] S1 ?_ ?_
 ·exact ⟨jj8 (ptZ wA 0 yas) (plA wA (oO 0 7) 0 rfl rfl ycb) (ch3 wA (qO 1 8 rfl) (yaa _) (yaa _) (ya5 (ydx _ _) (yab _)) (fun w u0 u1 u2 h0 h1 h2=>by obtain rfl:u1=_:=h1.now; obtain rfl:u2=_:=h2.now; exact mu_e w u0 nD nL K D L h0 hD hL hK lD lL 0 g (by have:=g.some; omega))) (mO 2 9) (e20 wA (oO 3 6)) (e21 wA (oO 3 6)) (nwA wA ya3) (puA 6 wA (oO 4 10) yaj ybk (ybm yai yai)),mO 5 11⟩
 intro _ a2 _ (S2:Zt [_,_] [_])
 refine wq [V (Part a2 1 0),V (Part a2 1 1),V (Mv nL L K),V (iV (nL:Nat)),V (iV (nL:Nat))] [.inr 0] [.inl 4,.inr 0] S2 ?_ ?_
 ·exact jj5 (ptZ wA 0 yas) (ya6 rfl wA rfl (oO 0 12) rfl (fun ρ w b h=>yaw ρ _ _ w b 0 h)) (plA wA (oO 1 13) 0 rfl rfl ybj) (lnA wA (oO 2 14) Tryz.underlying36) (mO 3 15)
 intro _ a3 _ (S3:Zt [_] [_,_])
 refine wp_seq (wp_block ?_)
 refine wq [V (iV 0),kF,kF,V (iV (nL:Nat)),kF,kF,kF] [.inr 0] [.inl 6,.inr 0] S3 ?_ ?_
 ·repeat' refine And.intro ?_ ?_
  ·trivial
  ·exact mS 1 4
  ·exact yaz wA (oO 0 17) (yaa _) (h:=by decide)
  ·exact mO 1 18
  ·exact mW (wI 2 19) (oS 0 5)
  ·exact ybv (wI 2 19) (oO 3 20) (yaa _)
  ·exact pF wA (oO 2 19) (oO 4 21)
  ·exact mO 5 22
 intro _ a4 _ (S4:Zt [_] [_,_])
 refine wp_cond_false (S4.bool 0 16 rfl) ?_
 rcases hl with hl | ⟨hl,hl2⟩
 ·skip
  refine wq [V (Part a4 1 2),V (QV nT ts K),V (iV (nT:Nat)),kF,kF,.off,.off,.off,.off,.off,kF,kF] [.inr 0] [.inl 11] S4 ?_ ?_
  ·exact ⟨⟨⟨⟨jj8 (ptA wA 0 yap) (plA wA (oO 0 24) 0 rfl rfl yat) (lnA wA (oO 1 25) Tryz.underlying39) (ybn wA (oO 2 26) (yaa _)) (mO 3 27) (oF 4 28) (oF 4 28) (oF 4 28),oF 4 28⟩,oF 4 28⟩,pF wA (oO 4 28) (yaa _)⟩,mO 10 34⟩
  intro B5 a5 W5 (S5:Zt [_] [_])
  refine wp_cond_false (S5.bool 0 23 rfl) ?_
  refine wq [V (Part a5 1 2),V (QV nT ts K),kT,kF,kF,V (Part a5 1 3),V (PR (Zv rn K) (Zv rd K)),V (Sng 26 4 (PR (Zv rn K) (Zv rd K)) w.heap.size),kT,kF,kF,kF,V (Part a5 1 3),V (Part a5 1 3),V (Zv rn K),V (iV ((rn).sign)),kF,kF,kF] [.inr 0] [.inl 18] S5 ?_ ?_
  ·exact ⟨⟨⟨⟨⟨⟨⟨⟨⟨⟨⟨jj8 (ptA wA 0 yap) (plA wA (oO 0 36) 0 rfl rfl yat) (ch1 wA (qO 1 37 rfl) (yab _) (fun w u h=>ygv w u nT K ts h (by omega) (by omega) lT (fun i hi=>g5 i (by omega)))) (ycc wA (oO 2 38)) (mO 3 39) (ptA (wI 4 40) 0 ybp) (plA (wI 4 40) (oO 5 41) 0 rfl rfl ycp) (yhj rfl (wI 4 40) rfl ygm (oO 6 42) (yb6 (by decide) (ybm yan yan)) rfl),ch1 (wI 4 40) ((qO 7 43 rfl).imp yh2) (yab _) (fun w u h=>ygv w u 1 K [(rn,rd)] h (by omega) (by omega) rfl (yps g6))⟩,ycc (wI 4 40) (oO 8 44)⟩,pF wA (oO 4 40) (oO 9 45)⟩,mO 10 46⟩,ptA (wI 11 47) 0 ybp⟩,ya6 rfl (wI 11 47) rfl (oO 12 48) rfl (fun ρ w b h=>yca ρ _ _ w b 3 h)⟩,plA (wI 11 47) (oO 13 49) 0 rfl rfl yee⟩,cc1 (wI 11 47) (qO 14 50 rfl) (yab _) (fun w u h1=>yev (by omega) w u ((fun _ _ h=>h) _ _ h1))⟩,ybc (wI 11 47) (oO 15 51) (yaa _)⟩,pF wA (oO 11 47) (oO 16 52)⟩,mO 17 53⟩
  intro B6 a6 W6 (S6:Zt [_] [_])
  refine wp_cond_false (S6.bool 0 35 rfl) (wp_skip (inBlkN (thenN ?_)))
  refine wq [V (iV 0)] [.inr 0] [.inl 0] S6 ?_ ?_
  ·exact jj1 mC
  intro B7 a7 W7 (S7:Zt [_] [_])
  refine wp_ret ?_
  exact yav S7 rfl (yay S7 0 2 rfl)
 ·skip
  refine wq [V (Part a4 1 2),V (QV nT ts K),V (iV (nT:Nat)),kT,kT,V (Part a4 1 2),V (QV nT ts K),V (iV (nT:Nat)),V (iV (nL:Nat)),kF,kF,kF] [.inr 0] [.inl 11] S4 ?_ ?_
  ·exact ⟨⟨⟨⟨jj8 (ptA wA 0 yap) (plA wA (oO 0 24) 0 rfl rfl yat) (lnA wA (oO 1 25) Tryz.underlying39) (ybz wA (oO 2 26) (yaa _)) (mO 3 27) (ptA (wI 4 28) 0 yap) (plA (wI 4 28) (oO 5 29) 0 rfl rfl yat) (lnA (wI 4 28) (oO 6 30) Tryz.underlying39),mW (wI 4 28) (oS 1 5)⟩,ybn (wI 4 28) (oO 7 31) (oO 8 32)⟩,pT wA (oO 4 28) (oO 9 33)⟩,mO 10 34⟩
  intro B5 a5 W5 (S5:Zt [_] [_])
  refine wp_cond_false (S5.bool 0 23 rfl) ?_
  refine wq [V (Part a5 1 2),V (QV nT ts K),kT,kF,kF,V (Part a5 1 3),V (PR (Zv rn K) (Zv rd K)),V (Sng 26 4 (PR (Zv rn K) (Zv rd K)) w.heap.size),kT,kF,kF,kF,V (Part a5 1 3),V (Part a5 1 3),V (Zv rn K),V (iV ((rn).sign)),kF,kF,kF] [.inr 0] [.inl 18] S5 ?_ ?_
  ·exact ⟨⟨⟨⟨⟨⟨⟨⟨⟨⟨⟨jj8 (ptA wA 0 yap) (plA wA (oO 0 36) 0 rfl rfl yat) (ch1 wA (qO 1 37 rfl) (yab _) (fun w u h=>ygv w u nT K ts h (by omega) (by omega) lT (fun i hi=>g5 i (by omega)))) (ycc wA (oO 2 38)) (mO 3 39) (ptA (wI 4 40) 0 ybp) (plA (wI 4 40) (oO 5 41) 0 rfl rfl ycp) (yhj rfl (wI 4 40) rfl ygm (oO 6 42) (yb6 (by decide) (ybm yan yan)) rfl),ch1 (wI 4 40) ((qO 7 43 rfl).imp yh2) (yab _) (fun w u h=>ygv w u 1 K [(rn,rd)] h (by omega) (by omega) rfl (yps g6))⟩,ycc (wI 4 40) (oO 8 44)⟩,pF wA (oO 4 40) (oO 9 45)⟩,mO 10 46⟩,ptA (wI 11 47) 0 ybp⟩,ya6 rfl (wI 11 47) rfl (oO 12 48) rfl (fun ρ w b h=>yca ρ _ _ w b 3 h)⟩,plA (wI 11 47) (oO 13 49) 0 rfl rfl yee⟩,cc1 (wI 11 47) (qO 14 50 rfl) (yab _) (fun w u h1=>yev (by omega) w u ((fun _ _ h=>h) _ _ h1))⟩,ybc (wI 11 47) (oO 15 51) (yaa _)⟩,pF wA (oO 11 47) (oO 16 52)⟩,mO 17 53⟩
  intro B6 a6 W6 (S6:Zt [_] [_])
  refine wp_cond_false (S6.bool 0 35 rfl) (wp_skip (inBlkN (thenN ?_)))
  refine wq [V (iV 0)] [.inr 0] [.inl 0] S6 ?_ ?_
  ·exact jj1 mC
  intro B7 a7 W7 (S7:Zt [_] [_])
  refine wp_ret ?_
  exact yav S7 rfl (yay S7 0 2 rfl)
theorem zc3 {A B:Int}{ka kb:Nat}(hk:ka<=67108864)(hk':kb<=67108864):∀ w u v,Zv A ka u w->Zv B kb v w->CG 97 #[u,v] w (ZN ((Nat.gcd A.natAbs B.natAbs:Nat):Int)):=by
 rintro w u v ⟨s,p,n,c,xs,rfl,h,rfl,hn⟩ ⟨t,q,m,d,ys,rfl,h',rfl,hm⟩
 rw [sg_abs,sg_abs]
 refine (yza w s t p q n c m d xs ys h h' (by omega) (by omega)).mono ?_
 rintro e w' ⟨r,cr,rfl,hb,hs,hf⟩
 refine ⟨_,rfl,hb,r,cr,?_,?_,hf⟩
 ·rw [zhy,show ng ((Nat.gcd (val xs) (val ys):Nat):Int)=false by simp [ng]]
 ·rw [zhy]; exact hs
theorem yx0 {a b:Nat}(hb:b≠0)(h:b ∣ a):fl (a:Int) (b:Int)=((a / b:Nat):Int)/\rm (a:Int) (b:Int)=0:=by
 obtain ⟨q,rfl⟩:=h
 rw [Nat.mul_div_cancel_left _ (by omega)]
 exact yzy (by omega) (zho b q)
section
variable {ops:Array Oper} {l:List Kd} {bx:Bxs} {sl:List (Tmp × Pr)} {i:Nat} {o:Oper} {Q:Exit->Act->World->Prop} {a0:Act} {n:Nat} {w0:World}
end
theorem zd8 {n k:Nat}{ts:List (Int × Int)}{v:Value}{w:World}(h:QV n ts k v w){i:Nat}(hi:i < ts.length):(digs (ts.getD i (0,0)).1.natAbs).length<=k/\(digs (ts.getD i (0,0)).2.natAbs).length<=k:=by
 obtain ⟨p,c,rfl,hl,hb,ha⟩:=h
 obtain ⟨b,o,u,_,_,_,x0,x1,y0,y1,_,h1,h2⟩:=ha i _ (ygt hi)
 exact ⟨yxs h1,yxs h2⟩
theorem ymm (ts:List (Int × Int)):∀ {a b:Nat},a<=b->dsum ts a<=dsum ts b
 | a,0,h=>by rw [show a=0 by omega]; exact zha _
 | a,b+1,h=>by
  rcases zi0 a (b+1) with h1 | h1
  ·exact zhb (ymm ts (show a<=b by omega)) (Nat.le_add_right _ _)
  ·rw [show a=b+1 by omega]; exact zha _
theorem yu8 {ts:List (Int × Int)}{M k:Nat}(hk:k < ts.length):(tlL ts M)[k]? = some (((ts.getD k (0,0)).1)*(((M / (ts.getD k (0,0)).2.toNat:Nat):Int))):=by
 rw [tlL,zhi,zhj hk,zhc,zhj hk]
 rfl
theorem ywo {a:Int}(h:0 < a):a.natAbs=a.toNat:=by omega
theorem zai {n k k':Nat}{A:List (List Int)}(hk:k<=k'):∀ v w,Mv n A k v w->Mv n A k' v w:=yg8 (by simp) (fun i φ φ' h1 h2 v w h=>by
 obtain ⟨a,ha,rfl⟩:=ybs h1
 obtain ⟨b,hb,rfl⟩:=ybs h2
 obtain rfl:a=b:=Option.some.inj (ha.symm.trans hb)
 exact yg8 (by simp) (fun i φ φ' h1 h2 v w h=>by
  obtain ⟨a',ha',rfl⟩:=ybs h1
  obtain ⟨b',hb',rfl⟩:=ybs h2
  obtain rfl:a'=b':=Option.some.inj (ha'.symm.trans hb')
  exact yvq hk v w h) v w h)
end Go.Proofs.YtdnindaohpdblaaGreat
